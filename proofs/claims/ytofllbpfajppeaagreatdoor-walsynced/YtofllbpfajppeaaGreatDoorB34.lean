/- The document's log: its Anew is the program's. -/
import Derived.Test.YtofllbpfajppeaaGreatDoorB33
import Derived.Test.YtofllbpfajppeaaGreatDoorB09
import Derived.Test.YtofllbpfajppeaaGreatDoorB01
import Derived.Test.YtofllbpfajppeaaGreatDoorB18
import Derived.Deep.RegionHeld3
set_option linter.unusedVariables false
set_option maxRecDepth 20000
set_option maxHeartbeats 16000000
namespace Go.Proofs.YtofllbpfajppeaaGreatDoor
section
open Go.ChangeShapes Go.WideShapes Go.ChangeAt Go.RowKit
theorem zyl {room:Nat} {k:Nm} {z:Int} {b:List Nat} {ss:Ds} (h:(zai room k z b ss).1=0):∃ v,(zai room k z b ss).2=zbi k v ss:=by
 unfold zai at h ⊢;split at h
 ·cases h
 split at h
 ·cases h
 split at h
 ·cases h
 split at h
 ·cases h
 rename_i a b' c' d'
 rw[if_neg a,if_neg b',if_neg c',if_neg d'];exact⟨_,rfl⟩
theorem zke {room n:Nat} {b:List Nat} {ss:Ds} (hr:zbf ss) (hn:n+1<1099511627776) (h:n=0∨(zcc (walNm n) ss).isSome=true):zcb room n b ss=zbm room n b ss:=by
 by_cases h1:(zai room zau 0 b ss).1≠0
 ·have e:za1 room n b ss=zai room zau 0 b ss:=by unfold za1;rw[if_pos h1]
  unfold zcb zbm;rw[e,if_pos h1,if_neg h1]
 ·obtain⟨v,hv⟩:=zyl (Classical.not_not.1 h1);have hs:zax zau (zbi zau v ss)=(0,zbi zau ⟨true,v.now,[]⟩ (zbi zau v ss)):=by
   unfold zax;rw[zfj hr,if_pos rfl]
  have r2:zbf (zbi zau ⟨true,v.now,[]⟩ (zbi zau v ss)):=(hr.put _ _).put _ _;have hg:∀ j,j≠zau→zcc j (zbi zau ⟨true,v.now,[]⟩ (zbi zau v ss))=zcc j ss:=fun j hj=>by
   rw[zfj (hr.put _ _),if_neg hj,zfj hr,if_neg hj]
  have ht:zcc zau (zbi zau ⟨true,v.now,[]⟩ (zbi zau v ss))=some ⟨true,v.now,[]⟩:=by rw[zfj (hr.put _ _),if_pos rfl]
  generalize zbi zau ⟨true,v.now,[]⟩ (zbi zau v ss)=uu at *;have e:za1 room n b ss=if (zak zau (walNm (n+1)) uu).1≠0∨n=0 then zak zau (walNm (n+1)) uu else zat (walNm n) (zak zau (walNm (n+1)) uu).2:=by
   unfold za1;rw[if_neg h1,hv,hs];dsimp only;rw[if_neg (by simp),if_neg (by omega),if_neg];rintro⟨q1,q2⟩;rw[← zb8,hg _ (zlr n)] at q2;rcases h with h|h
   ·exact q1 h
   ·rw[q2] at h;cases h
  have er:zcb room n b ss=if (zak zau (walNm (n+1)) uu).1≠0 then ((zak zau (walNm (n+1)) uu).1,(zat zau (zak zau (walNm (n+1)) uu).2).2) else if 0<n then (0,(zat (walNm n) (zak zau (walNm (n+1)) uu).2).2) else (0,(zak zau (walNm (n+1)) uu).2):=by
   unfold zcb;rw[if_neg h1,hv,hs]
  rw[er];unfold zbm;by_cases h2:(zak zau (walNm (n+1)) uu).1≠0
  ·rw[if_pos h2];rw[if_pos (Or.inl h2)] at e;rw[e,if_neg h2]
  ·have h3:=Classical.not_not.1 h2;rw[if_neg h2];by_cases h4:0<n
   ·rw[if_pos h4];rw[if_neg (by omega)] at e;have hsome:(zcc (walNm n) (zak zau (walNm (n+1)) uu).2).isSome=true:=by
     unfold zak at h3 ⊢;rw[ht] at h3 ⊢;dsimp only at h3 ⊢;split
     ·rw[zfj (r2.del _)];split
      ·rfl
      ·rw[zz r2,if_neg (zlr n),hg _ (zlr n)];rcases h with h|h
       ·omega
       ·exact h
     ·rename_i q
      rw[if_neg q] at h3;cases h3
    have hz:(zat (walNm n) (zak zau (walNm (n+1)) uu).2).1=0:=by
     obtain⟨x,hx⟩:=Option.isSome_iff_exists.1 hsome;unfold zat;rw[hx]
    rw[e,if_pos hz];exact Prod.ext hz.symm rfl
   ·rw[if_neg h4];rw[if_pos (Or.inr (by omega))] at e;rw[e,if_pos h3];exact Prod.ext h3.symm rfl
theorem zpc {room n:Nat} {c:Wc} {b:List Nat} {ss:Ds} (hr:zbf ss) (hn:n+1<1099511627776) (h:(zcc (walNm n) ss).isSome=true):zdp room n c b ss=zc0 room n c b ss:=by
 have hre:zex (walNm n) ss=0:=by unfold zex;rw[if_pos h]
 unfold zdp zc0;rw[zke hr hn (.inr h),hre,if_neg (show ¬ (0:Nat)≠0 by simp)];by_cases hb:262144<(zdn (walNm n) ss).length+b.length
 ·rw[if_pos hb,if_neg (show ¬ b.length+(zdn (walNm n) ss).length≤262144 by omega)]
 ·rw[if_neg hb,if_pos (show b.length+(zdn (walNm n) ss).length≤262144 by omega)]
section
variable {room n:Nat} {c c2:Wc} {ss:Ds}
theorem ztg (hr:zbf ss) (hn:n+1<1099511627776) (h:(zcc (walNm n) ss).isSome=true):zve room n c c2 ss=zrm room n c c2 ss:=by
 unfold zve zrm;rw[zke hr hn (.inr h)]
theorem zw4 (hr:zbf ss) (hn:n+1<1099511627776) (h:(zcc (walNm n) ss).isSome=true) (t v:Nat):zxn room n c t v ss=zmc room n c t v ss:=by
 unfold zxn zmc;rw[zpc hr hn h]
theorem zpg (hr:zbf ss) (hn:n+1<1099511627776) (h:(zcc (walNm n) ss).isSome=true) (i:Int):zdu room n c i ss=zeo room n c i ss:=by
 unfold zdu zeo;rw[ztg hr hn h]
theorem zrp (hr:zbf ss) (hn:n+1<1099511627776) (h:(zcc (walNm n) ss).isSome=true) (es:List EntI):zjl room n c es ss=zev room n c es ss:=by
 unfold zjl zev;cases zcl es with
 |error x=>rfl
 |ok b=>dsimp only;rw[zpc hr hn h]
theorem zxc (s:Nm):zg6 walW s=zm6 s:=zx (fun s h=>zxa rfl h) (fun k h1 h2=>zhm k h1 h2)
end
theorem zoi (a:Option Addr) (c:Nat) (l:List Nat) (k:Nat) (w:World) (hl:l.length≤maxLen) (hk:k≤l.length) (h:l.length - k<8) :
  Calls Tryz.prog 130 #[.slice a l.length c,.int .i64 (k:Int)] w fun e w'=>e=.returned (.tuple #[.slice none 0 0,.int .i64 0,.int .i64 3])∧w'=w:=by
 unfold maxLen at hl;have h0:¬ (k:Int)<0:=by omega
 have h1:¬ (l.length:Int)<(k:Int):=by omega
 go_enter Tryz.func130,Tryz.ntmps130
 go_wp2
 go_ret3
 exact⟨rfl,rfl⟩
theorem zvx (n:Nat) (h:n≤65536):([]:List Nat).length+n≤140737488355328:=by simp only[List.length_nil];omega
theorem zoa (a:Option Addr) (c:Nat) (l:List Nat) (k:Nat) (kk:Int) (w:World) (hkk:kk=(k:Int)) (hl:l.length≤maxLen) (hk:k+4≤l.length) (hb:BytesAt w a l) :
  Calls Tryz.prog 162 #[.slice a l.length c,.int .i64 kk] w fun e w'=>e=.returned (.int .i64 ((zf3 (l.drop k):Nat):Int))∧w'=w:=by
 subst hkk;exact zjt a c l k w hl hk hb
theorem zoh (a:Option Addr) (c:Nat) (l:List Nat) (k:Nat) (w:World) (hl:l.length≤140737488355328) (hc:l.length≤c) (hz:a=none→c=0) (hk:k≤l.length) (h8:¬ l.length - k<8) (hb:BytesAt w a l) :
  Calls Tryz.prog 130 #[.slice a l.length c,.int .i64 (k:Int)] w fun e w'=>Below w.heap.size w w' ∧
   ((0<zca l k∧e=.returned (.tuple #[.slice none 0 0,.int .i64 0,.int .i64 (zca l k:Nat)])) ∨
    (zca l k=0∧∃ sp c',e=.returned (.tuple #[.slice sp (zdo l k).length c',.int .i64 ((k+8+(zdo l k).length:Nat):Int),.int .i64 0])∧OwnB w.heap.size w' sp c' (zdo l k))):=by
 have hl':l.length≤maxLen:=by simp only[maxLen];omega
 have h0:¬ (k:Int)<0:=by omega
 have h1:¬ (l.length:Int)<(k:Int):=by omega
 have h2:¬ (l.length:Int) - (k:Int)<8:=by omega
 have HL:=zaa hl';have s1:=zdi a l.length c k (k+4) (by omega) (by omega);have B1:=zaa ((hb.drop k c hc).take 4);have hp0:slp a k c=none→a=none:=by unfold slp;split <;> simp
 have HB:=zaa hb;have e1:((k+4:Nat):Int)=(k:Int)+4:=by omega
 rw[e1] at s1;rw[show k+4 - k=4 by omega] at s1;generalize hp1:slp a k c=p1 at *;clear e1 hb hp1 hl' hp0
 have HE:Hid (zca l k=if 65536<zf3 (l.drop k) then 6 else if l.length - k - 8<zf3 (l.drop k) then 3
  else if Crc.ext (Crc.ext 0 ((l.drop k).take 4)) ((l.drop (k+8)).take (zf3 (l.drop k)))=zf3 (l.drop (k+4)) then 0 else 5):=by
  show _=_
  rw[zca,if_neg h8]
 have HH:Hid (zdo l k=(l.drop (k+8)).take (zf3 (l.drop k))):=by show _=_;rw[zdo]
 have hn4:=zo (fun c hc=>(za HB).lt c (List.mem_of_mem_drop hc):∀ c∈l.drop k,c<256);have hsm4:=zo (fun c hc=>(za HB).lt c (List.mem_of_mem_drop hc):∀ c∈l.drop (k+4),c<256);have L1:=zaa (show((l.drop k).take 4).length=4 by simp;omega);have L1m:=zaa (show((l.drop k).take 4).length≤maxLen by simp[maxLen];omega);go_enter Tryz.func130,Tryz.ntmps130
 go_wp2_with fail
 refine(zjt _ _ l k _ (za HL) (by omega) (za HB)).mono ?_;rintro e w1 ⟨rfl,rfl⟩;generalize hnn:zf3 (l.drop k)=n at *;have Hn:=zaa hnn;clear hnn;by_cases hA:65536<n
 ·have HE':=zaa ((za HE).trans (if_pos hA))
  go_wp2
  go_ret3
  refine⟨Below.refl _ _,Or.inl ⟨by rw[za HE'];omega,by rw[za HE'];rfl⟩⟩
 ·have HE':=zaa ((za HE).trans (if_neg hA));have hA':¬ 65536<(n:Int):=by omega
  by_cases hC:l.length - k - 8<n
  ·have HE2:=zaa ((za HE').trans (if_pos hC));have hC':(l.length:Int) - (k:Int) - 8<(n:Int):=by omega
   go_wp2
   go_ret3
   refine⟨Below.refl _ _,Or.inl ⟨by rw[za HE2];omega,by rw[za HE2];rfl⟩⟩
  ·have HE2:=zaa ((za HE').trans (if_neg hC));have hC':¬ (l.length:Int) - (k:Int) - 8<(n:Int):=by omega
   have s3:=zdi a l.length c (k+8) (k+8+n) (by omega) (by omega);have B3:=zaa (((za HB).drop (k+8) c hc).take n);have hp0:slp a (k+8) c=none→c - (k+8)=0:=by
    unfold slp;split
    ·omega
    ·intro hh;have:=hz (by simpa using hh);omega
   have Hp:=zaa hp0;have e3:((k+8:Nat):Int)=(k:Int)+8:=by omega
   have e4:((k+8+n:Nat):Int)=(k:Int)+8+(n:Int):=by omega
   rw[e3,e4] at s3;rw[show k+8+n - (k+8)=n by omega] at s3;generalize hp3:slp a (k+8) c=p3 at *;have hL3:((l.drop (k+8)).take n).length=n:=by simp;omega
   have L3:=zaa hL3;have L3m:=zaa (show((l.drop (k+8)).take n).length≤maxLen by rw[hL3];simp[maxLen];omega);have Hz:=zaa hz;have hX:(k:Int)+8+(n:Int)≤(l.length:Int):=by omega
   have hY:(n:Int)≤65536:=by omega
   have hl47:(l.length:Int)≤140737488355328:=by omega
   have HA:=zaa hA;have t1:decide (65536<(n:Int))=false:=by simp;omega
   have t2:decide ((l.length:Int) - (k:Int) - 8<(n:Int))=false:=by simp;omega
   clear e3 e4 hp3 hL3 hp0 hz hC hC' h8 h0 h1 h2 hk hc hl hA hA' hn4;generalize hXX:(l.drop (k+8)).take n=X at *;clear hXX;have o1:=zaa (OwnB.empty w1 w1.heap.size (Nat.le_refl _));have b1:=zaa (show Below w1.heap.size w1 (w1.alloc (.cells #[] 5)) from(Below.refl _ _).alloc (Nat.le_refl _) _)
   go_wp2_with (at_builtin;refine zas rfl (.tmp 34) (.tmp 42) rfl w1.heap.size (some ⟨w1.heap.size,0,none⟩) 0 0 [] rfl rfl (by exact za o1) p3 n _ rfl X (za L3) (by exact(za B3).later (za b1)) (za Hp) (zvx n (Nat.le_of_not_lt (za HA))) ?b1 ?_;rotate_right;intro sp1 n1 k1 W1 hn1 ho1 hgr1 hbl1)
   case b1=>simp
   have bW1:=(za b1).trans hbl1;rw[List.nil_append] at ho1 hn1;have HO1:=zaa ho1;have HOB:=zaa ho1.bytes;have BW1:=zaa bW1;have B1W:=zaa ((za B1).later bW1);have HBW:=zaa ((za HB).later bW1);clear hgr1 hbl1 ho1 bW1;refine(zix _ 4 _ ((l.drop k).take 4) _ (za L1) (za L1m) (za B1W)).mono ?_;rintro e W2 ⟨rfl,rfl⟩
   go_wp2_with fail
   refine(zj6 _ _ _ _ X _ (za hn1) (Crc.ext_lt _ _) (za L3m) (za HOB)).mono ?_;rintro e W3 ⟨rfl,rfl⟩;have hel:=Crc.ext_lt (Crc.ext 0 ((l.drop k).take 4)) X;have hnu:=(za hn1).symm.trans (za L3);generalize hss:Crc.ext (Crc.ext 0 ((l.drop k).take 4)) X=ss at *;clear hss
   go_wp2_with fail
   refine(zoa _ _ l (k+4) _ _ (by omega) (za HL) (by omega) (za HBW)).mono ?_;rintro e W4 ⟨rfl,rfl⟩;generalize hsm:zf3 (l.drop (k+4))=sm at *;clear hsm;by_cases hD:ss=sm
   ·have HE3:=zaa ((za HE2).trans (if_pos hD));have hD':((ss:Int) != (sm:Int))=false:=by rw[hD];simp
    have HHn:=zaa ((congrArg List.length (za HH)).trans (za L3));have Hnu:=zaa hnu;clear hnu
    go_wp2
    go_ret3
    refine⟨za BW1,Or.inr ⟨za HE3,sp1,k1,?_,by rw[za HH];exact za HO1⟩⟩;rw[za HHn];rfl
   ·have HE3:=zaa ((za HE2).trans (if_neg hD));have hD':((ss:Int) != (sm:Int))=true:=by simp;omega
    have Hnu:=zaa hnu;clear hnu
    go_wp2
    go_ret3
    refine⟨za BW1,Or.inl ⟨by rw[za HE3];omega,by rw[za HE3];rfl⟩⟩
theorem zsg (a:Option Addr) (c:Nat) (l:List Nat) (k:Nat) (w:World) (hl:l.length≤140737488355328) (hc:l.length≤c) (hz:a=none→c=0) (hk:k≤l.length) (hb:BytesAt w a l) :
  Calls Tryz.prog 130 #[.slice a l.length c,.int .i64 (k:Int)] w fun e w'=>Below w.heap.size w w' ∧
   ((0<zca l k∧e=.returned (.tuple #[.slice none 0 0,.int .i64 0,.int .i64 (zca l k:Nat)])) ∨
    (zca l k=0∧∃ sp c',e=.returned (.tuple #[.slice sp (zdo l k).length c',.int .i64 ((k+8+(zdo l k).length:Nat):Int),.int .i64 0])∧OwnB w.heap.size w' sp c' (zdo l k))):=by
 by_cases h8:l.length - k<8
 ·refine(zoi a c l k w (by simp only[maxLen];omega) hk h8).mono ?_;rintro e w' ⟨rfl,rfl⟩;have e3:zca l k=3:=by unfold zca;rw[if_pos h8]
  exact⟨Below.refl _ _,.inl ⟨by omega,by rw[e3];rfl⟩⟩
 ·exact zoh a c l k w hl hc hz hk h8 hb
theorem OwnS.empty (w:World) (base:Nat) (hb:base≤w.heap.size):OwnS base (w.alloc (.cells #[] 62)) (.slice (some ⟨w.heap.size,0,none⟩) 0 0) [] :=
 ⟨⟨[],⟨rfl,.inr ⟨w.heap.size,0,#[],rfl,hb,zad _ _,Nat.le_refl _,by simp[maxLen],rfl,rfl⟩⟩,by simp⟩,by simp⟩
theorem zqj (a:Option Addr) (c:Nat) (l:List Nat) (w:World) (hl:l.length≤1099511627776) (hc:l.length≤c) (hz:a=none→c=0) (hb:BytesAt w a l) :
  Calls Tryz.prog 100 #[.slice a l.length c] w fun e w'=>∃ v hs k,e=.returned (.tuple #[v,.int .i64 ((k:Nat):Int)])∧Below w.heap.size w w'∧OwnS w.heap.size w' v hs∧zhu l 0 hs k∧0<zca l k∧k≤l.length:=by
 have HB:=zaa hb;have Hz:=zaa hz;have HM:=zaa (show l.length≤maxLen by simp only[maxLen];omega);have HM47:=zaa (show l.length≤140737488355328 by omega);clear hb hz;go_enter Tryz.func100,Tryz.ntmps100
 go_wp2
 go_loopw [4,5] (fun v i wr=>∃ (hs:List (List Nat)) (k:Nat),k≤l.length∧i=.int .i64 (k:Int)∧Hid (Below w.heap.size w wr)∧Hid (OwnS w.heap.size wr v hs)∧Hid (zhu l 0 hs k)) (fun _ i _=>l.length - (intOf i).toNat)
 case atStart=>exact⟨[],0,by omega,rfl,(Below.refl _ _).alloc (Nat.le_refl _) _,OwnS.empty _ _ (Nat.le_refl _),rfl⟩
 case round =>
  obtain⟨hs,k,hk,rfl,hbw,hown,hst⟩:=hrel;have HBr:=zaa ((za HB).later (za hbw));have hkk:(k:Int)≤(l.length:Int):=by omega
  go_wp2_with fail
  refine(zsg _ _ l k _ (za HM47) hc (za Hz) hk (za HBr)).mono ?_;rintro e W1 ⟨hb1,⟨hp,rfl⟩|⟨he,g,gc,rfl,hcell⟩⟩
  ·have hne:((zca l k:Nat):Int) != 0:=by simp;omega
   have Hp:=zaa hp;have hown1:=zaa ((za hown).later hb1);have hbw1:=zaa ((za hbw).trans (hb1.mono (za hbw).size));clear hp;generalize hE:zca l k=E at *;have HE:=zaa hE;clear hE
   go_wp2
   go_ret2
   exact⟨u4,hs,k,rfl,za hbw1,za hown1,za hst,by rw[za HE];exact za Hp,hk⟩
  ·obtain⟨z1,z2,z3⟩:=zhl he;have hst':=zaa ((za hst).snoc he);have hown1:=zaa ((za hown).later hb1);have hbw1:=zaa ((za hbw).trans (hb1.mono (za hbw).size));have hlen:=(za hst).length_le;have Hcell:=zaa (hcell.mono (za hbw).size);clear he z1 z2 hcell;generalize zdo l k=H at *;have r1:=zaa (show hs.length≤1099511627776 by omega);have r2:=zaa (show k+8+H.length≤l.length from z3);have hB:=zaa (World.cell?_alloc_new (w:=W1) #[.slice g H.length gc] 62 0);have bA:=zaa (show Below W1.heap.size W1 (W1.alloc (.cells #[.slice g H.length gc] 62)) from(Below.refl _ _).alloc (Nat.le_refl _) _);have HO:=zaa ((za Hcell).later (za bA));clear hlen
   go_wp2_with (at_builtin;refine zh8 rfl (.tmp 25) (.tmp 27) rfl w.heap.size u4 hs rfl (by exact(za hown1).later (za bA)) W1.heap.size rfl g gc H (by exact za hB) (by exact za HO) (za r1) ?hbase ?_;rotate_right;intro v2 W2 ho2 hb2)
   case hbase=>exact Nat.le_trans (za hbw1).size (za bA).size
   have r3:=za r2;exact⟨⟨hs++[H],k+8+H.length,r3,by go_num,((za hbw1).trans ((za bA).mono (za hbw1).size)).trans hb2,ho2,za hst'⟩,by simp[intOf];omega⟩
end
end Go.Proofs.YtofllbpfajppeaaGreatDoor
