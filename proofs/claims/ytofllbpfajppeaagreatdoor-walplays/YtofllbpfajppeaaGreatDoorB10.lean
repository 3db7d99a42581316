/- The contracts of tollgateref01.four and Frame: the same bytes as frame's. -/
import Derived.Test.YtofllbpfajppeaaGreatDoorB09
import Derived.Test.YtofllbpfajppeaaGreatDoorB01
import Derived.Test.YtofllbpfajppeaaGreatDoorB08
import Derived.Test.YtofllbpfajppeaaGreatDoorB07
import Derived.Laws.IdiomStrings
import Derived.Lib.SlBytesConst
set_option linter.unusedVariables false
set_option maxRecDepth 20000
set_option maxHeartbeats 16000000
namespace Go.Proofs.YtofllbpfajppeaaGreatDoor
section
open Go.ChangeShapes Go.WideShapes Go.ChangeAt Go.RowKit
theorem zmp (n:Nat) (w:World) (hn:n<4294967296) :
  Calls Tryz.prog 141 #[.int .u32 (n:Int)] w fun e w'=>∃ g,e=.returned (.slice (some ⟨g,0,none⟩) 4 4)∧Below w.heap.size w w'∧w.heap.size≤g∧w'.heap[g]? = some (.cells ((zdr n).map zbb).toArray 5 (0,0)):=by
 go_enter Tryz.func141,Tryz.ntmps141
 go_wp2
 go_ret
 refine⟨w.heap.size,rfl,(Below.refl _ _).alloc (Nat.le_refl _) _,Nat.le_refl _,?_⟩;rw[zad];rfl
theorem zsf (a:Option Addr) (c:Nat) (l:List Nat) (w:World) (hb:BytesAt w a l) (hz:a=none→c=0) (h:l.length≤65536) :
  Calls Tryz.prog 109 #[.slice a l.length c] w fun e w'=>∃ sp c',e=.returned (.tuple #[.slice sp (zbl l).length c',.int .i64 0])∧Below w.heap.size w w'∧OwnB w.heap.size w' sp c' (zbl l):=by
 have HB:=zaa hb;have Hz:=zaa hz;clear hb hz;go_enter Tryz.func109,Tryz.ntmps109
 go_wp2_with fail
 refine(zmp l.length _ (by omega)).mono ?_;rintro e w1 ⟨g1,rfl,hb1,hg1,hc1⟩;have B1:=zaa (zbx hc1 (zhs _ (by omega)));have HBa:=zaa ((za HB).later hb1);have o1:=zaa (OwnB.empty w1 w1.heap.size (Nat.le_refl _));have b1:=zaa (show Below w1.heap.size w1 (w1.alloc (.cells #[] 5)) from(Below.refl _ _).alloc (Nat.le_refl _) _);clear hc1
 go_wp2_with (at_builtin;refine zas rfl (.tmp 13) (.tmp 14) rfl w1.heap.size (some ⟨w1.heap.size,0,none⟩) 0 0 [] rfl rfl (by exact za o1) (some ⟨g1,0,none⟩) 4 4 rfl (zdr l.length) rfl (by exact(za B1).later (za b1)) (fun h=>by cases h) (by simp) ?b1 ?_;rotate_right;intro sp1 n1 k1 W1 hn1 ho1 hgr1 hbl1)
 case b1=>simp
 have bW1:=(za b1).trans hbl1;have B1W:=zaa ((za B1).later bW1);have HBW:=zaa ((za HBa).later bW1);rw[List.nil_append] at ho1 hn1;have HO1:=zaa ho1;have BW1:=zaa bW1;clear hgr1 hbl1 ho1 bW1;refine(zix _ 4 _ (zdr l.length) _ rfl (by rw[zcm];simp[maxLen]) (za B1W)).mono ?_;rintro e W2 ⟨rfl,rfl⟩
 go_wp2_with fail
 refine(ze4 _ _ _ l _ (Crc.ext_lt _ _) (by simp only[maxLen];omega) (za HBW)).mono ?_;rintro e W3 ⟨rfl,rfl⟩;have HS:=zaa (show Crc.ext (Crc.ext 0 (zdr l.length)) l=ztc l.length l from rfl);rw[za HS];have hslt:=zr4 l.length l;generalize hs:ztc l.length l=s at *;have Hs:=zaa hs;clear hs HS
 go_wp2_with fail
 refine(zmp s _ hslt).mono ?_;rintro e W4 ⟨g4,rfl,hb4,hg4,hc4⟩;have hsz4:=Nat.le_trans (za BW1).size hb4.size;have B4:=zaa (zbx hc4 (zhs _ hslt));have HO4:=zaa ((za HO1).later hb4);have BW4:=zaa ((za BW1).trans (hb4.mono (za BW1).size));clear hc4
 go_wp2_with (first
  |(at_builtin;refine zas rfl (.tmp 16) (.tmp 21) rfl w1.heap.size sp1 n1 k1 (zdr l.length) rfl (za hn1) (by exact za HO4) (some ⟨g4,0,none⟩) 4 4 rfl (zdr s) rfl (by exact za B4) (fun h=>by cases h) (by rw[zcm];omega) hsz4 ?_;intro sp5 n5 k5 W5 hn5 ho5 hgr5 hbl5)
  |(at_builtin;refine zas rfl (.tmp 23) (.tmp 24) rfl w1.heap.size sp5 n5 k5 (zdr l.length++zdr s) rfl (za hn5) (by exact ho5) a l.length c rfl l rfl ?B6 (za Hz) ?s6 ?b6 ?_;rotate_right;intro sp6 n6 k6 W6 hn6 ho6 hgr6 hbl6))
 case B6=>exact(za HBa).later ((za BW4).trans hbl5)
 case s6=>rw[List.length_append,zcm,zcm];omega
 case b6=>exact((za BW4).trans hbl5).size
 have hF:zdr l.length++zdr s++l=zbl l:=by rw[zbl,za Hs,List.append_assoc]
 rw[hF] at ho6 hn6;rw[← za hn6]
 go_ret2
 refine⟨sp6,k6,rfl,hb1.trans ((((za BW4).trans hbl5).trans hbl6).mono hb1.size),ho6.mono hb1.size⟩
theorem zmm (c:Array Value) (w:World):(callFunc 210 c).run Tryz.prog w=.ok (.enter 210 c) w:=by
 simp[callFunc,go_sem,Tryz.func210];rw[if_neg (by decide +kernel),if_neg (fun h=>by cases h)]
theorem zz2 (R N:Nat) (z:Int) (a:Option Addr) (c:Nat) (l:List Nat) (k n k2:Nat) (w:World) (h:RdAt R w a c l k) (hl:l.length≤maxLen) (hN:w.heap[N]? = some (.cells #[.int .i64 z] 3 (0,0))) (hne:N≠R) (ht:zdw l k=(0,n,k2)) :
  Calls Tryz.prog 210 #[.pointer (some ⟨R,0,none⟩),.pointer (some ⟨N,0,none⟩)] w fun e w'=>e=.returned (.tuple #[])∧w'.heap[N]? = some (.cells #[.int .i64 (n:Int)] 3 (0,0))∧w'.heap[R]? = some (.cells #[.slice a l.length c,.int .i64 (k2:Int)] 239 (0,0))∧Kept R N w w':=by
 have HN:=zaa hN;have HR:=zaa h;clear hN h;go_enter Tryz.func210,Tryz.ntmps210
 go_wp2_with fail
 refine(zxd R a c l k n k2 _ (za HR) hl ht).mono ?_;rintro e w1 ⟨rfl,hr1,hg1⟩;have hN1:w1.heap[N]? = some (.cells #[.int .i64 z] 3 (0,0)):=(hg1.block N (Array.getElem?_eq_some_iff.1 (za HN)).1 (fun e=>hne (Option.some.inj e))).trans (za HN);have hc:w1.cell? ⟨N,0,none⟩=some (.int .i64 z):=by rw[cell_of_row _ _ 0 _ _ _ hN1];rfl
 have hz:w1.frozen? ⟨N,0,none⟩=false:=by simp[World.frozen?,hN1]
 have hN2:=heap_setCell_same w1 N 0 _ 3 (.int .i64 (n:Int)) hN1;have H2:=zaa hN2;have HR1:=zaa hr1;have HG1:=zaa hg1;clear hN1 hN2 hr1 hg1
 go_wp2
 go_end0
 refine⟨rfl,za H2,?_,(Kept.ofGrown (za HG1)).trans (Kept.ofGrown' (zaf _ _ _ _))⟩;rw[heap_setCell_other _ _ _ _ (fun e=>hne e.symm)];exact(za HR1).blk
theorem zy (R N:Nat) (a:Option Addr) (c:Nat) (l:List Nat) (k x:Nat) (w:World) (h:RdAt R w a c l k) (hl:l.length≤maxLen) (ht:(zdw l k).1=x) (hx:x≠0) :
  Calls Tryz.prog 210 #[.pointer (some ⟨R,0,none⟩),.pointer (some ⟨N,0,none⟩)] w fun e w'=>e=.panicked (given x)∧Kept R N w w':=by
 have HR:=zaa h;clear h;go_enter Tryz.func210,Tryz.ntmps210
 go_wp2_with fail
 refine(zvb R a c l k x _ (za HR) hl ht hx).mono ?_;rintro e w1 ⟨rfl,⟨k',hr1⟩,hg1⟩
 go_wp2
 exact⟨rfl,rfl,Kept.ofGrown hg1⟩
theorem zA5 (a:Option Addr) (m c:Nat) (l:List Nat) (k n k2:Nat) (kk:Int) (w:World) (hm:l.length=m) (hkk:kk=(k:Int)) (hl:l.length≤maxLen) (hk:k≤l.length) (hb:BytesAt w a l) (ht:zdw l k=(0,n,k2)) :
  Calls Tryz.prog 190 #[.slice a m c,.int .i64 kk] w fun e w'=>e=.returned (.tuple #[.int .i64 (n:Int),.int .i64 (k2:Int),.int .i64 0])∧Below w.heap.size w w':=by
 subst hm hkk;have HB:=zaa hb;have HT:=zaa ht;have HL:=zaa hl;clear hb ht hl;have hmf:∀ (fn:Fn) (first cap:Array Value) (w:World),(Instr.makeFunc fn first cap).run Tryz.prog w=.ok (.func fn first cap) w:=fun _ _ _ _=>rfl;go_enter Tryz.func190,Tryz.ntmps190
 go_wp2_with fail
 refine(zb6 k 0 l.length _ ⟨by omega,by omega⟩).mono ?_;rintro e w' ⟨rfl,rfl⟩
 go_wp2_with fail
 have hN0:=zad w' (.cells #[.int .i64 0] 3);have hR0:=zad (w'.alloc (.cells #[.int .i64 0] 3)) (.cells #[.slice a l.length c,.int .i64 (k:Int)] 239);have hN1:=zbp (.cells #[.slice a l.length c,.int .i64 (k:Int)] 239) hN0;rw[size_alloc] at hR0;have hbl:Below w'.heap.size w' ((w'.alloc (.cells #[.int .i64 0] 3)).alloc (.cells #[.slice a l.length c,.int .i64 (k:Int)] 239)):=((Below.refl _ _).alloc (Nat.le_refl _) _).alloc (by rw[size_alloc];omega) _;have hsz:((w'.alloc (.cells #[.int .i64 0] 3)).alloc (.cells #[.slice a l.length c,.int .i64 (k:Int)] 239)).heap.size=w'.heap.size+2:=by rw[size_alloc,size_alloc]
 generalize (w'.alloc (.cells #[.int .i64 0] 3)).alloc (.cells #[.slice a l.length c,.int .i64 (k:Int)] 239)=W at *;have hbl2:Below w'.heap.size w' (W.alloc (.cells #[.int .i64 0] 48)):=hbl.alloc hbl.size _;have hE:=zad W (.cells #[.int .i64 0] 48);have hr:=ztr (za HB) hbl2 (Nat.le_succ _) (zbp _ hR0) hk;have hN2:=zbp (.cells #[.int .i64 0] 48) hN1;refine(zff 210 _ W zmm _ (zz2 (w'.heap.size+1) w'.heap.size 0 a c l k n k2 _ hr (za HL) hN2 (by omega) (za HT)) ?_ ?_).mono ?_
 ·rintro e w1 ⟨_,_,_,hk1⟩;exact(hk1.block _ (by rw[size_alloc];omega) (by omega) (by omega)).trans hE
 ·rintro e w1 ⟨rfl,_⟩;exact .inl rfl
 ·rintro e w2 ⟨e1,w1,⟨rfl,h1,h2,hk1⟩,hg,⟨_,rfl⟩|⟨x,hx,_⟩⟩
  ·have h1':w2.heap[w'.heap.size]? = _:=(hg.block _ (Array.getElem?_eq_some_iff.1 h1).1 (fun e=>by have:=Option.some.inj e;omega)).trans h1;have h2':w2.heap[w'.heap.size+1]? = _:=(hg.block _ (Array.getElem?_eq_some_iff.1 h2).1 (fun e=>by have:=Option.some.inj e;omega)).trans h2;have c1:w2.cell? ⟨w'.heap.size,0,none⟩=some (.int .i64 (n:Int)):=by rw[cell_of_row _ _ 0 _ _ _ h1'];rfl
   have c2:w2.cell? ⟨w'.heap.size+1,1,none⟩=some (.int .i64 (k2:Int)):=by rw[cell_of_row _ _ 1 _ _ _ h2'];rfl
   have HF:=zaa ((hbl2.trans (hk1.below (by rw[size_alloc];omega) (by omega) (Nat.le_refl _))).trans ((Below.refl w'.heap.size w1).grown hg (by have:=hk1.size;rw[size_alloc] at this;omega) (fun j e=>by have:=Option.some.inj e;omega)));clear h1 h2 h1' h2' hk1 hg hE hr hN2 hN1 hN0 hR0 hbl hbl2
   go_wp2_with fail
   go_quiet (fail)
   go_wp2
   go_ret3
   exact⟨rfl,(za HF).trans ⟨rfl,rfl,rfl,Nat.le_refl _,fun _ _=>rfl⟩⟩
  ·cases hx
theorem zz7 (a:Option Addr) (m c:Nat) (l:List Nat) (k x:Nat) (kk:Int) (w:World) (hm:l.length=m) (hkk:kk=(k:Int)) (hl:l.length≤maxLen) (hk:k≤l.length) (hb:BytesAt w a l) (ht:(zdw l k).1=x) (hx:x≠0) :
  Calls Tryz.prog 190 #[.slice a m c,.int .i64 kk] w fun e w'=>e=.returned (.tuple #[.int .i64 0,.int .i64 0,.int .i64 (x:Int)])∧Below w.heap.size w w':=by
 subst hm hkk;have HB:=zaa hb;have HT:=zaa ht;have HL:=zaa hl;clear hb ht hl;have hmf:∀ (fn:Fn) (first cap:Array Value) (w:World),(Instr.makeFunc fn first cap).run Tryz.prog w=.ok (.func fn first cap) w:=fun _ _ _ _=>rfl;go_enter Tryz.func190,Tryz.ntmps190
 go_wp2_with fail
 refine(zb6 k 0 l.length _ ⟨by omega,by omega⟩).mono ?_;rintro e w' ⟨rfl,rfl⟩
 go_wp2_with fail
 have hR0:=zad (w'.alloc (.cells #[.int .i64 0] 3)) (.cells #[.slice a l.length c,.int .i64 (k:Int)] 239);rw[size_alloc] at hR0;have hbl:Below w'.heap.size w' ((w'.alloc (.cells #[.int .i64 0] 3)).alloc (.cells #[.slice a l.length c,.int .i64 (k:Int)] 239)):=((Below.refl _ _).alloc (Nat.le_refl _) _).alloc (by rw[size_alloc];omega) _;have hsz:((w'.alloc (.cells #[.int .i64 0] 3)).alloc (.cells #[.slice a l.length c,.int .i64 (k:Int)] 239)).heap.size=w'.heap.size+2:=by rw[size_alloc,size_alloc]
 generalize (w'.alloc (.cells #[.int .i64 0] 3)).alloc (.cells #[.slice a l.length c,.int .i64 (k:Int)] 239)=W at *;have hbl2:Below w'.heap.size w' (W.alloc (.cells #[.int .i64 0] 48)):=hbl.alloc hbl.size _;have hE:=zad W (.cells #[.int .i64 0] 48);have hr:=ztr (za HB) hbl2 (Nat.le_succ _) (zbp _ hR0) hk;refine(zff 210 _ W zmm _ (zy (w'.heap.size+1) w'.heap.size a c l k x _ hr (za HL) (za HT) hx) ?_ ?_).mono ?_
 ·rintro e w1 ⟨_,hk1⟩;exact(hk1.block _ (by rw[size_alloc];omega) (by omega) (by omega)).trans hE
 ·rintro e w1 ⟨rfl,_⟩;exact .inr ⟨x,rfl⟩
 ·rintro e w2 ⟨e1,w1,⟨rfl,hk1⟩,hg,⟨hx,_⟩|⟨y,hy,rfl⟩⟩
  ·cases hx
  ·have hxy:y=x:=by
    simp only[given,Ending.panicked.injEq,List.cons.injEq,PanicEntry.mk.injEq,Value.iface.injEq,Value.agg.injEq,and_true,true_and] at hy;have:=congrArg (fun z:Array Value=>z[0]?) hy;simp at this;omega
   subst hxy;have HF:=zaa ((hbl2.trans (hk1.below (by rw[size_alloc];omega) (by omega) (Nat.le_refl _))).trans ((Below.refl w'.heap.size w1).grown hg (by have:=hk1.size;rw[size_alloc] at this;omega) (fun j e=>by have:=Option.some.inj e;omega)));clear hk1 hg hE hr hR0 hbl hbl2;have hx0:¬ (y:Int)=0:=by omega
   go_wp2
   go_ret3
   exact⟨rfl,za HF⟩
end
section
theorem zk0 (q m s:Nat):m+q % 128*128 ^ s+q / 128*128 ^ (s+1)=m+q*128 ^ s:=by
 have h:=Nat.div_add_mod q 128;have e:q*128 ^ s=(128*(q / 128)+q % 128)*128 ^ s:=by rw[h]
 have e2:q / 128*128 ^ (s+1)=128*(q / 128)*128 ^ s:=by rw[Nat.pow_succ,Nat.mul_comm (128 ^ s) 128,← Nat.mul_assoc,Nat.mul_comm (q / 128) 128]
 rw[e,e2,Nat.add_mul];omega
theorem zyc (l:List Nat):∀ (f s m k q:Nat),(za2 q).length≤f→(s=0∨0<q)→m+q*128 ^ s≤1099511627776→(∀ i,i<(za2 q).length→l.getD (k+i) 0=(za2 q).getD i 0)→k+(za2 q).length≤l.length →
  zd6 l f s m k=(0,m+q*128 ^ s,k+(za2 q).length):=by
 intro f;induction f with
 |zero=>intro s m k q hf;have:=(zda q).1;omega
 |succ f ih =>
  intro s m k q hf h0 hmax hget hlen;by_cases hq:q<128
  ·rw[zc2 hq] at hf hget hlen ⊢;have hx:l.getD k 0=q:=by simpa using hget 0 (by simp)
   simp only[List.length_cons,List.length_nil] at hlen ⊢;rw[zdk f s m hx (by omega) (by omega) (by omega) (by omega)]
  ·rw[zdz hq] at hf hget hlen ⊢;simp only[List.length_cons] at hf hlen ⊢;have hx:l.getD k 0=q % 128+128:=by simpa using hget 0 (by simp)
   have h1:=(zda (q / 128)).1;rw[zcs f s m hx (by omega) (by omega) (by omega)];have e:(q % 128+128) % 128=q % 128:=by omega
   rw[e,ih (s+1) (m+q % 128*128 ^ s) (k+1) (q / 128) (by omega) (.inr (by omega)) (by rw[zk0];exact hmax) ?_ (by omega)]
   ·rw[zk0];simp only[Prod.mk.injEq,true_and];omega
   ·intro i hi;have:=hget (i+1) (by simp only[List.length_cons];omega);rw[show k+1+i=k+(i+1) by omega,this];simp
theorem zjd (a b:List Nat) (i:Nat):(a++b).getD (a.length+i) 0=b.getD i 0:=by
 rw[List.getD_eq_getElem?_getD,List.getD_eq_getElem?_getD,List.getElem?_append_right (by omega)]
 congr 2
 omega
theorem zj3 (a b:List Nat) (i:Nat) (h:i<a.length):(a++b).getD i 0=a.getD i 0:=by
 rw[List.getD_eq_getElem?_getD,List.getD_eq_getElem?_getD,List.getElem?_append_left h]
theorem zbt (n:Nat) (h:n≤1099511627776):(za2 n).length≤6:=by
 have key:∀ (s m:Nat),m<128 ^ (s+1)→(za2 m).length≤s+1:=by
  intro s;induction s with
  |zero=>intro m hm;rw[zc2 (by simpa using hm)];simp
  |succ s ih =>
   intro m hm;by_cases h:m<128
   ·rw[zc2 h];simp
   ·rw[zdz h,List.length_cons];have:=ih (m / 128) (by rw[Nat.div_lt_iff_lt_mul (by decide)];rw[Nat.pow_succ] at hm;exact hm);omega
 exact key 5 n (by omega)
theorem zyd (a b:List Nat) (n:Nat) (h:n≤1099511627776):zdw (a++(za2 n++b)) a.length=(0,n,a.length+(za2 n).length):=by
 have:=zyc (a++(za2 n++b)) 6 0 0 a.length n (zbt n h) (.inl rfl) (by simpa using h) (fun i hi=>by rw[zjd,zj3 _ _ _ hi]) (by simp only[List.length_append];omega)
 simpa [zdw] using this
theorem zv3 (l:List Nat) (hl:∀ c∈l,c<256):∀ (f s m k n k2:Nat),zd6 l f s m k=(0,n,k2) →
  ∃ q,n=m+q*128 ^ s∧k2=k+(za2 q).length∧k2≤l.length∧(∀ i,i<(za2 q).length→l.getD (k+i) 0=(za2 q).getD i 0)∧(0<s→0<q)∧n≤1099511627776:=by
 intro f;induction f with
 |zero=>intro s m k n k2 h;simp[zd6] at h
 |succ f ih =>
  intro s m k n k2 h;rw[zd6] at h;split at h
  ·simp at h
  ·next hk =>
   have hx256:l.getD k 0<256:=by
    rw[List.getD_eq_getElem?_getD,List.getElem?_eq_getElem (by omega)];exact hl _ (List.getElem_mem _)
   generalize hx:l.getD k 0=x at *;split at h
   ·next h128 =>
    split at h
    ·simp at h
    ·obtain⟨q,h1,h2,h3,h4,h5,h6⟩:=ih _ _ _ _ _ h;have hq:=h5 (by omega);refine⟨128*q+x % 128,?_,?_,h3,?_,fun _=>by omega,h6⟩
     ·rw[h1,← zk0 (128*q+x % 128) m s];have e1:(128*q+x % 128) % 128=x % 128:=by omega
      have e2:(128*q+x % 128) / 128=q:=by omega
      rw[e1,e2]
     ·rw[zdz (by omega),List.length_cons,h2];have e2:(128*q+x % 128) / 128=q:=by omega
      rw[e2];omega
     ·intro i hi;have e1:(128*q+x % 128) % 128+128=x:=by omega
      have e2:(128*q+x % 128) / 128=q:=by omega
      have hn:za2 (128*q+x % 128)=x::za2 q:=by rw[zdz (by omega),e1,e2]
      rw[hn] at hi ⊢;cases i with
      |zero=>simpa using hx
      |succ i =>
       rw[List.length_cons] at hi;rw[show k+(i+1)=k+1+i by omega,h4 i (by omega)];simp
   ·next h128 =>
    split at h
    ·simp at h
    ·next h0 =>
     split at h
     ·simp at h
     ·next hb =>
      simp only[Prod.mk.injEq,true_and] at h;obtain⟨rfl,rfl⟩:=h;refine⟨x,rfl,by rw[zc2 (by omega)];simp,by omega,?_,fun hs=>by omega,by omega⟩;intro i hi;rw[zc2 (by omega)] at hi ⊢;simp only[List.length_cons,List.length_nil] at hi;obtain rfl:i=0:=by omega
      simpa using hx
end
section
theorem zyb (a b:List Nat) (n:Nat) (h:n≤1099511627776):zbh (a++(za2 n++b)) a.length=.ok (n,a.length+(za2 n).length):=by
 rw[zbh,zyd a b n h];rfl
theorem zhp {l a b:List Nat} {k n:Nat} (hl:l=a++(za2 n++b)) (hk:k=a.length) (h:n≤1099511627776):zbh l k=.ok (n,k+(za2 n).length):=by
 subst hl hk;exact zyb a b n h
theorem zpn (l:List Nat):∀ (m:List Nat) (k:Nat),k+m.length≤l.length→(∀ i,i<m.length→l.getD (k+i) 0=m.getD i 0)→l.drop k=m++l.drop (k+m.length):=by
 intro m;induction m with
 |nil=>intro k _ _;simp
 |cons x r ih =>
  intro k hk hg;have hlt:k<l.length:=by simp only[List.length_cons] at hk;omega
  have h0:=hg 0 (by simp)
  rw[List.drop_eq_getElem_cons hlt,ih (k+1) (by simp only[List.length_cons] at hk;omega) (fun i hi=>by
   have:=hg (i+1) (by simp only[List.length_cons];omega)
   rw[show k+1+i=k+(i+1) by omega,this];simp)]
  have e:l[k]=x:=by
   rw[Nat.add_zero,List.getD_eq_getElem?_getD,List.getElem?_eq_getElem hlt] at h0
   simpa using h0
  rw[e,List.cons_append,List.length_cons,show k+1+r.length=k+(r.length+1) by omega]
theorem zjp {l:List Nat} (hl:∀ c∈l,c<256) {k n k2:Nat} (h:zbh l k=.ok (n,k2)):l.drop k=za2 n++l.drop k2∧k2=k+(za2 n).length∧k2≤l.length∧n≤1099511627776:=by
 have h0:zdw l k=(0,n,k2):=by
  unfold zbh at h;split at h
  ·next h1 =>
   simp only[Except.ok.injEq,Prod.mk.injEq] at h;rw[← h.1,← h.2,← h1]
  ·cases h
 obtain⟨q,h1,h2,h3,h4,_,h6⟩:=zv3 l hl 6 0 0 k n k2 h0;obtain rfl:n=q:=by simpa using h1
 refine⟨?_,h2,h3,h6⟩;rw[zpn l (za2 n) k (by omega) h4,h2]
def zjb (k t i:Nat) (d:List Nat):List Nat:=k::(za2 t++(za2 i++(za2 d.length++d)))
theorem zAz {l a b:List Nat} {k x lo hi:Nat} (hl:l=a++x::b) (hk:k=a.length) (h:lo≤x∧x≤hi):zkc l lo hi k=.ok (x,k+1):=by
 subst hl hk;have e:(a++x::b).getD a.length 0=x:=by simp
 rw[zkc,if_pos (by simp),e,if_pos h]
theorem zyz {l a d b:List Nat} {k n:Nat} (hl:l=a++(d++b)) (hk:k=a.length) (hn:n=d.length):zgp l n k=.ok (d,k+d.length):=by
 subst hl hk hn;rw[zgp,if_neg (by simp only[List.length_append];omega),List.drop_left,List.take_left]
def zub (k t i:Nat) (d:List Nat):Prop:=(1≤k∧k≤3)∧(1≤t∧t≤1099511627776)∧(1≤i∧i≤1099511627776)∧(k=1→d=[])∧d.length≤2048
theorem zxk {l a b:List Nat} {k n:Nat} (hl:l=a++(za2 n++b)) (hk:k=a.length) (h:1≤n∧n≤1099511627776):zju l k=.ok (n,k+(za2 n).length):=by
 rw[zju,zhp hl hk h.2];simp only[if_neg (show ¬ n=0 by omega)]
theorem zzz {l a b:List Nat} {kd k n:Nat} (hl:l=a++(za2 n++b)) (hk:k=a.length) (h:n≤2048) (h1:kd=1→n=0):zfu l kd k=.ok (n,k+(za2 n).length):=by
 rw[zfu,zhp hl hk (by omega)];simp only[if_neg (show ¬ (kd=1∧0<n) from fun h=>by have:=h1 h.1;omega),if_neg (show ¬ 2048<n by omega)]
theorem zwt {l a b:List Nat} {k kd t i:Nat} {d:List Nat} (hl:l=a++(zjb kd t i d++b)) (hk:k=a.length) (h:zub kd t i d):za9 l k=.ok ((kd,t,i,d),k+(zjb kd t i d).length):=by
 obtain⟨h1,h2,h3,h4,h5⟩:=h;have e1:l=a++kd::(za2 t++(za2 i++(za2 d.length++(d++b)))):=by rw[hl];simp[zjb,List.append_assoc]
 have e2:l=(a++[kd])++(za2 t++(za2 i++(za2 d.length++(d++b)))):=by rw[e1];simp
 have e3:l=(a++[kd]++za2 t)++(za2 i++(za2 d.length++(d++b))):=by rw[e2];simp
 have e4:l=(a++[kd]++za2 t++za2 i)++(za2 d.length++(d++b)):=by rw[e3];simp
 have e5:l=(a++[kd]++za2 t++za2 i++za2 d.length)++(d++b):=by rw[e4];simp
 rw[za9,zAz e1 hk h1];simp only[zxk e2 (show k+1=_ by rw[hk];simp only[List.length_append,List.length_cons,List.length_nil]) h2];simp only[zxk e3 (show k+1+(za2 t).length=_ by rw[hk];simp only[List.length_append,List.length_cons,List.length_nil]) h3];simp only[zzz e4 (show k+1+(za2 t).length+(za2 i).length=_ by rw[hk];simp only[List.length_append,List.length_cons,List.length_nil]) h5 (fun e=>by rw[h4 e];rfl)];simp only[zyz e5 (show k+1+(za2 t).length+(za2 i).length+(za2 d.length).length=_ by rw[hk];simp only[List.length_append,List.length_cons,List.length_nil]) rfl]
 congr 2
 simp only[zjb,List.length_cons,List.length_append];omega
theorem zp8 {l:List Nat} (hl:∀ c∈l,c<256) {k n k2:Nat} (h:zju l k=.ok (n,k2)):l.drop k=za2 n++l.drop k2∧k2=k+(za2 n).length∧k2≤l.length∧1≤n∧n≤1099511627776:=by
 unfold zju at h;split at h
 ·cases h
 ·next h1 =>
  split at h
  ·cases h
  ·simp only[Except.ok.injEq,Prod.mk.injEq] at h;obtain⟨rfl,rfl⟩:=h;obtain⟨a1,a2,a3,a4⟩:=zjp hl h1;exact⟨a1,a2,a3,by omega,a4⟩
theorem zvw {l:List Nat} (hl:∀ c∈l,c<256) {kd k n k2:Nat} (h:zfu l kd k=.ok (n,k2)):l.drop k=za2 n++l.drop k2∧k2=k+(za2 n).length∧k2≤l.length∧n≤2048∧(kd=1→n=0):=by
 unfold zfu at h;split at h
 ·cases h
 ·next h1 =>
  split at h
  ·cases h
  ·split at h
   ·cases h
   ·simp only[Except.ok.injEq,Prod.mk.injEq] at h;obtain⟨rfl,rfl⟩:=h;obtain⟨a1,a2,a3,a4⟩:=zjp hl h1;exact⟨a1,a2,a3,by omega,fun e=>by omega⟩
theorem zuj {l:List Nat} {n k k2:Nat} {d:List Nat} (hk:k≤l.length) (h:zgp l n k=.ok (d,k2)):l.drop k=d++l.drop k2∧k2=k+d.length∧k2≤l.length∧d.length=n:=by
 unfold zgp at h;split at h
 ·cases h
 ·simp only[Except.ok.injEq,Prod.mk.injEq] at h;obtain⟨rfl,rfl⟩:=h;have hlen:((l.drop k).take n).length=n:=by rw[List.length_take,List.length_drop];omega
  refine⟨?_,by rw[hlen],by omega,hlen⟩;rw[← List.drop_drop,List.take_append_drop]
theorem zxe {l:List Nat} {lo hi k x k2:Nat} (h:zkc l lo hi k=.ok (x,k2)):l.drop k=x::l.drop k2∧k2=k+1∧k2≤l.length∧lo≤x∧x≤hi:=by
 unfold zkc at h;split at h
 ·next hk =>
  split at h
  ·next h1 =>
   simp only[Except.ok.injEq,Prod.mk.injEq] at h;obtain⟨rfl,rfl⟩:=h;refine⟨?_,rfl,hk,h1⟩;rw[List.drop_eq_getElem_cons hk,List.getD_eq_getElem?_getD,List.getElem?_eq_getElem hk];rfl
  ·cases h
 ·cases h
theorem zrx {l:List Nat} (hl:∀ c∈l,c<256) {k kd t i k2:Nat} {d:List Nat} (h:za9 l k=.ok ((kd,t,i,d),k2)):l.drop k=zjb kd t i d++l.drop k2∧k2=k+(zjb kd t i d).length∧k2≤l.length∧zub kd t i d:=by
 unfold za9 at h;split at h
 ·cases h
 ·next h1 =>
  split at h
  ·cases h
  ·next h2 =>
   split at h
   ·cases h
   ·next h3 =>
    split at h
    ·cases h
    ·next h4 =>
     split at h
     ·cases h
     ·next h5 =>
      simp only[Except.ok.injEq,Prod.mk.injEq] at h;obtain⟨⟨rfl,rfl,rfl,rfl⟩,rfl⟩:=h;obtain⟨a1,a2,a3,a4,a5⟩:=zxe h1;obtain⟨b1,b2,b3,b4,b5⟩:=zp8 hl h2;obtain⟨c1,c2,c3,c4,c5⟩:=zp8 hl h3;obtain⟨d1,d2,d3,d4,d5⟩:=zvw hl h4;obtain⟨e1,e2,e3,e4⟩:=zuj d3 h5;refine⟨?_,?_,e3,⟨a4,a5⟩,⟨b4,b5⟩,⟨c4,c5⟩,fun e=>List.eq_nil_of_length_eq_zero (by rw[e4];exact d5 e),by omega⟩
      ·rw[a1,b1,c1,d1,e1];simp[zjb,e4,List.append_assoc]
      ·simp only[zjb,List.length_cons,List.length_append,e4];omega
theorem zyk {α:Type} {l:List Nat} {r:Except Nat (α×Nat)} {x:α} (h:za6 l r=.ok x):∃ k,r=.ok (x,k)∧¬ k<l.length:=by
 unfold za6 at h;split at h
 ·cases h
 ·split at h
  ·cases h
  ·cases h;exact⟨_,rfl,by assumption⟩
theorem zwu {kd t i:Nat} {d:List Nat} (h:zub kd t i d):za6 (zjb kd t i d) (za9 (zjb kd t i d) 0)=.ok (kd,t,i,d):=by
 rw[zwt (l:=zjb kd t i d) (a:=[]) (b:=[]) (k:=0) (by simp) rfl h];simp only[za6,Nat.zero_add,if_neg (Nat.lt_irrefl _)]
theorem zmn {l:List Nat} (hl:∀ c∈l,c<256) {kd t i:Nat} {d:List Nat} (h:za6 l (za9 l 0)=.ok (kd,t,i,d)):l=zjb kd t i d∧zub kd t i d:=by
 obtain⟨k,h1,h2⟩:=zyk h;obtain⟨a1,a2,a3,a4⟩:=zrx hl h1;rw[List.drop_zero,List.drop_eq_nil_of_le (by omega),List.append_nil] at a1;exact⟨a1,a4⟩
theorem zzd {t v:Nat} (ht:t≤1099511627776) (hv:v≤9):za6 (za2 t++za2 v) (zd9 (za2 t++za2 v) 0)=.ok (t,v):=by
 have e1:za2 t++za2 v=[]++(za2 t++za2 v):=by simp
 have e2:za2 t++za2 v=za2 t++(za2 v++[]):=by simp
 rw[zd9,zhp (k:=0) e1 rfl ht];simp only[zhp e2 (show 0+(za2 t).length=_ by omega) (by omega),if_neg (show ¬ 9<v by omega)];simp only[za6,List.length_append,Nat.zero_add,if_neg (Nat.lt_irrefl _)]
end
section
open Go.ChangeShapes Go.WideShapes Go.ChangeAt Go.RowKit
theorem zeu {l:List Nat} {k n k2:Nat} (h:zbh l k=.ok (n,k2)) (hl:∀ c∈l,c<256):k2≤l.length∧n≤1099511627776:=by
 obtain⟨_,_,h3,h4⟩:=zjp hl h;exact⟨h3,h4⟩
theorem znh (a:Option Addr) (m c:Nat) (l:List Nat) (k n k2:Nat) (w:World) (hm:l.length=m) (hl:m≤maxLen) (hk:k≤l.length) (hb:BytesAt w a l) (ht:zbh l k=.ok (n,k2)) :
  Calls Tryz.prog 190 #[.slice a m c,.int .i64 (k:Int)] w fun e w'=>e=.returned (.tuple #[.int .i64 (n:Int),.int .i64 (k2:Int),.int .i64 0])∧Below w.heap.size w w':=by
 unfold zbh at ht;split at ht
 ·rename_i h0
  simp only[Except.ok.injEq,Prod.mk.injEq] at ht;refine zA5 a m c l k n k2 (k:Int) w hm rfl (by omega) hk hb ?_;rw[← ht.1,← ht.2,← h0]
 ·cases ht
theorem zlq (a:Option Addr) (m c:Nat) (l:List Nat) (k x:Nat) (w:World) (hm:l.length=m) (hl:m≤maxLen) (hk:k≤l.length) (hb:BytesAt w a l) (ht:zbh l k=.error x) :
  Calls Tryz.prog 190 #[.slice a m c,.int .i64 (k:Int)] w fun e w'=>e=.returned (.tuple #[.int .i64 0,.int .i64 0,.int .i64 (x:Int)])∧Below w.heap.size w w':=by
 have hx:=zc ht;unfold zbh at ht;split at ht
 ·cases ht
 ·simp only[Except.error.injEq] at ht;exact zz7 a m c l k x (k:Int) w hm rfl (by omega) hk hb ht hx
theorem zjj (n:Nat) (rest:List Nat):zf3 (zdr n++rest)=n:=by
 simp only[zf3,zdr,List.cons_append,List.getD_cons_zero,List.getD_cons_succ];omega
theorem zcg (l:List Nat):(zbl l).length=8+l.length:=by simp only[zbl,List.length_append,zcm];omega
theorem zwz {l:List Nat} (hl:∀ c∈l,c<256) (h:l.length≤65536):∀ c∈zbl l,c<256:=by
 intro c hc;simp only[zbl,List.mem_append] at hc;rcases hc with hc|hc|hc
 ·exact zhs _ (by omega) c hc
 ·exact zhs _ (zr4 _ _) c hc
 ·exact hl c hc
theorem zr1 (ahead l behind:List Nat) :
  (ahead++(zbl l++behind)).drop ahead.length=zdr l.length++(zdr (ztc l.length l)++(l++behind)) ∧
  (ahead++(zbl l++behind)).drop (ahead.length+4)=zdr (ztc l.length l)++(l++behind) ∧
  (ahead++(zbl l++behind)).drop (ahead.length+8)=l++behind:=by
 have h0:(ahead++(zbl l++behind)).drop ahead.length=zdr l.length++(zdr (ztc l.length l)++(l++behind)):=by
  rw[List.drop_left];simp[zbl,List.append_assoc]
 refine⟨h0,?_,?_⟩
 ·rw[← List.drop_drop,h0,show 4=(zdr l.length).length from(zcm _).symm,List.drop_left]
 ·rw[show ahead.length+8=ahead.length+4+4 by omega,← List.drop_drop,← List.drop_drop,h0]
  rw[show(zdr l.length++(zdr (ztc l.length l)++(l++behind))).drop 4=zdr (ztc l.length l)++(l++behind) by
   conv=>lhs;rw[← zcm l.length]
   rw[List.drop_left]]
  conv=>lhs;rw[← zcm (ztc l.length l)]
  rw[List.drop_left]
theorem zuz (ahead l behind:List Nat) (hl:l.length≤65536):zca (ahead++(zbl l++behind)) ahead.length=0∧zdo (ahead++(zbl l++behind)) ahead.length=l:=by
 obtain⟨h0,h4,h8⟩:=zr1 ahead l behind;have hn:zf3 ((ahead++(zbl l++behind)).drop ahead.length)=l.length:=by rw[h0,zjj]
 have hs:zf3 ((ahead++(zbl l++behind)).drop (ahead.length+4))=ztc l.length l:=by rw[h4,zjj]
 have ht:((ahead++(zbl l++behind)).drop ahead.length).take 4=zdr l.length:=by
  rw[h0]
  conv=>lhs;rw[← zcm l.length]
  rw[List.take_left]
 have hh:((ahead++(zbl l++behind)).drop (ahead.length+8)).take l.length=l:=by rw[h8,List.take_left]
 have hlen:(ahead++(zbl l++behind)).length=ahead.length+(8+l.length+behind.length):=by simp only[List.length_append,zcg]
 constructor
 ·unfold zca;rw[hn,hs,ht,hh,hlen,if_neg (by omega),if_neg (by omega),if_neg (by omega),if_pos];rfl
 ·unfold zdo;rw[hn,hh]
theorem zw0 (a:Option Addr) (n c:Nat) (l:List Nat) (w:World) (hn:l.length=n) (hb:BytesAt w a l) (h:l.length≤65536) :
  Calls Tryz.prog 136 #[.slice a n c] w fun e w'=>∃ g,e=.returned (.tuple #[.slice (some ⟨g,0,none⟩) (8+n) (8+n),.int .i64 0])∧Below w.heap.size w w'∧w.heap.size≤g∧w'.heap[g]? = some (.cells ((zbl l).map zbb).toArray 5 (0,0)):=by
 subst hn;exact zy9 a c l w hb h
structure OwnS (base:Nat) (w:World) (v:Value) (hs:List (List Nat)):Prop where
 ex:∃ cs:List Value,w.ownsRow base 62 1 v hs.length cs∧∀ i,i<hs.length→∃ p c,cs[i]? = some (.slice p (hs.getD i []).length c)∧OwnB base w p c (hs.getD i [])
 lt:∀ h∈hs,∀ c∈h,c<256
theorem OwnS.ofNil (base:Nat) (w:World):OwnS base w (.slice none 0 0) [] :=
 ⟨⟨[],w.ownsRow_nil base 62 1,by simp⟩,by simp⟩
theorem OwnS.form {base:Nat} {w:World} {v:Value} {hs:List (List Nat)} (h:OwnS base w v hs):∃ sp c,v=.slice sp hs.length c:=by
 obtain⟨cs,ho,_⟩:=h.ex;rcases ho.2 with⟨hv,h0⟩|⟨g,cap,cur,hv,_⟩
 ·exact⟨none,0,by rw[hv,h0]⟩
 ·exact⟨_,_,hv⟩
theorem OwnS.later {base:Nat} {w w':World} {v:Value} {hs:List (List Nat)} (h:OwnS base w v hs) (hb:Below w.heap.size w w'):OwnS base w' v hs:=by
 obtain⟨cs,ho,hc⟩:=h.ex;refine⟨⟨cs,⟨ho.1,?_⟩,fun i hi=>?_⟩,h.lt⟩
 ·rcases ho.2 with hv|⟨g,cap,cur,hv,hbg,hg,r⟩
  ·exact .inl hv
  ·exact .inr ⟨g,cap,cur,hv,hbg,(hb.block g (Array.getElem?_eq_some_iff.1 hg).1).trans hg,r⟩
 ·obtain⟨p,c,h1,h2⟩:=hc i hi;exact⟨p,c,h1,h2.later hb⟩
theorem infoS:(Tryz.prog.info? 62).map (fun i=>(i.zero,i.size,i.bytes))=some (some (.slice none 0 0),1,24):=by kernel_rfl
theorem zh8 {w:World} {ops:Array Oper} {rest:List Oper} {o:Oper} {a:Act} {Q:Exit→Act→World→Prop} (hgd:o.guard=none) (s x:Operand)
  (ho:o.op=.call { callee:=.builtin .append,args:=#[s,x],argTypes:=#[134,134] })
  (base:Nat) (v:Value) (hs:List (List Nat)) (he:a.eval s=v) (hown:OwnS base w v hs)
  (B:Nat) (hx:a.eval x=.slice (some ⟨B,0,none⟩) 1 1) (p:Option Addr) (pc:Nat) (h:List Nat) (hB:w.cell? ⟨B,0,none⟩=some (.slice p h.length pc))
  (hg:OwnB base w p pc h) (hsz:hs.length≤1099511627776) (hbase:base≤w.heap.size)
  (K:∀ v' w',OwnS base w' v' (hs++[h])→Below base w w'→wpList Tryz.prog ops Q rest (a.put o.dst v') w') :
  wpList Tryz.prog ops Q (o::rest) a w:=by
 obtain⟨i0,hi,hz0,hz1,hz2⟩:=info_parts infoS;obtain⟨cs,ho1,hc⟩:=hown.ex;refine wpList_append_own (w:=w) hgd s x 134 ho base 62 i0 (.slice none 0 0) 1 24 Tryz.underlying134 hi hz0 hz1 hz2 rfl (by omega) v hs.length cs he ho1 ⟨B,0,none⟩ 1 1 [.slice p h.length pc] hx rfl ?_ ?_ ?_ ?_ hbase ?_
 ·intro j u hu;cases j with
  |zero=>simp only[List.getElem?_cons_zero,Option.some.injEq] at hu;subst hu;rw[Addr.add_lit];exact hB
  |succ j=>simp at hu
 ·intro u hu;simp only[List.mem_cons,List.not_mem_nil,or_false] at hu;subst hu;rfl
 ·simp only[maxLen];omega
 ·omega
 ·intro v' w' h1 h2 _;have hbel:Below base w w':=(Below.refl base w).grown h2 hbase (fun j hj=>(ho1.lt j hj).1);refine K v' w' ⟨⟨cs++[.slice p h.length pc],by rw[List.length_append];exact h1,fun i hi=>?_⟩,?_⟩ hbel
  ·have hcl:cs.length=hs.length:=by have:=ho1.1;omega
   have hkeep:∀ (p:Option Addr) (c:Nat) (x:List Nat),OwnB base w p c x→OwnB base w' p c x:=by
    intro p c x hx;refine⟨⟨hx.owns.1,?_⟩,hx.lt⟩;rcases hx.owns.2 with hv|⟨g',cap,cur,hv,hbg,hg',r⟩
    ·exact .inl hv
    ·refine .inr ⟨g',cap,cur,hv,hbg,?_,r⟩;rw[h2.block g' (Array.getElem?_eq_some_iff.1 hg').1 ?_]
     ·exact hg'
     ·intro e;rcases ho1.2 with⟨hv,_⟩|⟨gg,cap,cc,hv,_,hgg,_⟩
      ·rw[hv] at e;simp[Value.ownBlock] at e
      ·rw[hv] at e;simp only[Value.ownBlock,Option.some.injEq] at e;subst e;rw[hg'] at hgg;simp only[Option.some.injEq,Obj.cells.injEq] at hgg;exact absurd hgg.2.1 (by decide)
   rw[List.length_append] at hi;by_cases hlt':i<hs.length
   ·obtain⟨p',c',r1,r2⟩:=hc i hlt';have e1:(hs++[h]).getD i []=hs.getD i []:=by rw[List.getD_eq_getElem?_getD,List.getElem?_append_left hlt',List.getD_eq_getElem?_getD]
    rw[e1,List.getElem?_append_left (by omega)];exact⟨p',c',r1,hkeep p' c' _ r2⟩
   ·have hi':i=hs.length:=by simp at hi;omega
    have e1:(hs++[h]).getD i []=h:=by rw[List.getD_eq_getElem?_getD,hi',List.getElem?_append_right (Nat.le_refl _),Nat.sub_self];rfl
    rw[e1,hi',← hcl,List.getElem?_append_right (Nat.le_refl _),Nat.sub_self];exact⟨p,pc,rfl,hkeep p pc h hg⟩
  ·intro x hx;rcases List.mem_append.1 hx with h3|h3
   ·exact hown.lt x h3
   ·simp only[List.mem_cons,List.not_mem_nil,or_false] at h3;subst h3;exact hg.lt
def zhu (l:List Nat):Nat→List (List Nat)→Nat→Prop
 |k0,[],k=>k0=k
 |k0,h::r,k=>zca l k0=0∧zdo l k0=h∧zhu l (k0+8+h.length) r k
theorem zhu.snoc {l:List Nat} : ∀ {hs:List (List Nat)} {k0 k:Nat},zhu l k0 hs k→zca l k=0→zhu l k0 (hs++[zdo l k]) (k+8+(zdo l k).length)
 |[],k0,k,h,he=>by
  have e:k0=k:=h;subst e;exact⟨he,rfl,rfl⟩
 |x::r,k0,k,h,he=>⟨h.1,h.2.1,h.2.2.snoc he⟩
theorem zhu.length_le {l:List Nat} : ∀ {hs:List (List Nat)} {k0 k:Nat},zhu l k0 hs k→k0+8*hs.length≤k
 |[],k0,k,h=>by have e:k0=k:=h;subst e;simp
 |x::r,k0,k,h=>by have:=h.2.2.length_le;simp only[List.length_cons];omega
theorem zhl {l:List Nat} {k:Nat} (h:zca l k=0):8≤l.length - k∧(zdo l k).length=zf3 (l.drop k)∧k+8+(zdo l k).length≤l.length:=by
 unfold zca at h;split at h
 ·omega
 ·split at h
  ·omega
  ·split at h
   ·omega
   ·next h1 _ h3 =>
    refine⟨by omega,?_,?_⟩
    ·simp only[zdo,List.length_take,List.length_drop];omega
    ·simp only[zdo,List.length_take,List.length_drop];omega
theorem zzi {l:List Nat} (h:∀ c∈l,c<256) (k:Nat):∀ c∈zdo l k,c<256:=fun c hc=>h c (List.mem_of_mem_drop (List.mem_of_mem_take hc))
theorem zzj (a:Option Addr) (c:Nat) (l:List Nat) (k:Nat) (w:World) (hl:l.length≤maxLen) (hc:l.length≤c) (hk:k≤l.length) (hb:BytesAt w a l) :
  Calls Tryz.prog 124 #[.slice a l.length c,.int .i64 (k:Int)] w fun e w'=>Below w.heap.size w w' ∧
   ((0<zca l k∧e=.returned (.tuple #[.slice none 0 0,.int .i64 0,.int .i64 (zca l k:Nat)])) ∨
    (zca l k=0∧∃ g,e=.returned (.tuple #[.slice (some ⟨g,0,none⟩) (zdo l k).length (zdo l k).length,.int .i64 ((k+8+(zdo l k).length:Nat):Int),.int .i64 0])∧w.heap.size≤g∧w'.heap[g]? = some (.cells ((zdo l k).map zbb).toArray 5 (0,0)))):=by
 by_cases h8:l.length - k<8
 ·refine(zu8 a c l k w hl hk h8).mono ?_;rintro e w' ⟨rfl,rfl⟩;have e3:zca l k=3:=by unfold zca;rw[if_pos h8]
  exact⟨Below.refl _ _,.inl ⟨by omega,by rw[e3];rfl⟩⟩
 ·exact zu7 a c l k w hl hc hk h8 hb
theorem zwh (a:Option Addr) (c:Nat) (l:List Nat) (w:World) (hl:l.length≤1099511627776) (hc:l.length≤c) (hb:BytesAt w a l) :
  Calls Tryz.prog 94 #[.slice a l.length c] w fun e w'=>∃ v hs k,e=.returned (.tuple #[v,.int .i64 ((k:Nat):Int)])∧Below w.heap.size w w'∧OwnS w.heap.size w' v hs∧zhu l 0 hs k∧0<zca l k∧k≤l.length:=by
 have HB:=zaa hb;have HM:=zaa (show l.length≤maxLen by simp only[maxLen];omega);clear hb;go_enter Tryz.func94,Tryz.ntmps94
 go_wp2
 go_loopw [4,5] (fun v i wr=>∃ (hs:List (List Nat)) (k:Nat),k≤l.length∧i=.int .i64 (k:Int)∧Hid (Below w.heap.size w wr)∧Hid (OwnS w.heap.size wr v hs)∧Hid (zhu l 0 hs k)) (fun _ i _=>l.length - (intOf i).toNat)
 case atStart=>exact⟨[],0,by omega,rfl,Below.refl _ _,OwnS.ofNil _ _,rfl⟩
 case round =>
  obtain⟨hs,k,hk,rfl,hbw,hown,hst⟩:=hrel;have HBr:=zaa ((za HB).later (za hbw))
  go_wp2_with fail
  refine(zzj _ _ l k _ (za HM) hc hk (za HBr)).mono ?_;rintro e W1 ⟨hb1,⟨hp,rfl⟩|⟨he,g,rfl,hg,hcell⟩⟩
  ·have hne:((zca l k:Nat):Int) != 0:=by simp;omega
   have Hp:=zaa hp;have hown1:=zaa ((za hown).later hb1);have hbw1:=zaa ((za hbw).trans (hb1.mono (za hbw).size));clear hp;generalize hE:zca l k=E at *;have HE:=zaa hE;clear hE
   go_wp2
   go_ret2
   exact⟨u4,hs,k,rfl,za hbw1,za hown1,za hst,by rw[za HE];exact za Hp,hk⟩
  ·obtain⟨z1,z2,z3⟩:=zhl he;have hst':=zaa ((za hst).snoc he);have hlt:=zaa (zzi (za HB).lt k);have hown1:=zaa ((za hown).later hb1);have hbw1:=zaa ((za hbw).trans (hb1.mono (za hbw).size));have hlen:=(za hst).length_le;have hbg:w.heap.size≤g:=Nat.le_trans (za hbw).size hg;have Hcell:=zaa hcell;clear he z1 z2 hcell;generalize zdo l k=H at *;have r1:=zaa (show hs.length≤1099511627776 by omega);have r2:=zaa (show k+8+H.length≤l.length from z3);have hB:=zaa (World.cell?_alloc_new (w:=W1) #[.slice (some ⟨g,0,none⟩) H.length H.length] 62 0);have bA:=zaa (show Below W1.heap.size W1 (W1.alloc (.cells #[.slice (some ⟨g,0,none⟩) H.length H.length] 62)) from(Below.refl _ _).alloc (Nat.le_refl _) _);have HO:=zaa ((OwnB.ofBlock (za Hcell) hbg (za hlt) (Nat.le_trans (Nat.le_trans (Nat.le_add_left _ _) z3) (za HM))).later (za bA));clear hlen
   go_wp2_with (at_builtin;refine zh8 rfl (.tmp 20) (.tmp 22) rfl w.heap.size u4 hs rfl (by exact(za hown1).later (za bA)) W1.heap.size rfl (some ⟨g,0,none⟩) H.length H (by exact za hB) (by exact za HO) (za r1) ?hbase ?_;rotate_right;intro v2 W2 ho2 hb2)
   case hbase=>exact Nat.le_trans (za hbw1).size (za bA).size
   have r3:=za r2;exact⟨⟨hs++[H],k+8+H.length,r3,by go_num,((za hbw1).trans ((za bA).mono (za hbw1).size)).trans hb2,ho2,za hst'⟩,by simp[intOf];omega⟩
end
end Go.Proofs.YtofllbpfajppeaaGreatDoor
