/- The document's log: its Open is the program's; what every method leaves is a log again, whatever the room. -/
import Derived.Test.YtofllbpfajppeaaGreatDoorB35
import Derived.Test.YtofllbpfajppeaaGreatDoorB32
import Derived.Test.YtofllbpfajppeaaGreatDoorB19
import Derived.Test.YtofllbpfajppeaaGreatDoorB20
set_option linter.unusedVariables false
set_option maxRecDepth 20000
set_option maxHeartbeats 16000000
namespace Go.Proofs.YtofllbpfajppeaaGreatDoor
section
open Go.ChangeShapes Go.WideShapes Go.ChangeAt Go.RowKit
theorem zqi (l:List Nat):∀ (f k:Nat),k≤l.length→(zqh l f k).2≤l.length
 |0,k,h=>h
 |f+1,k,h=>by
  unfold zqh;split
  ·rename_i h0
   have:=(zhl h0).2.2;exact zqi l f _ (by omega)
  ·exact h
theorem znj (n:Nat) (s:Sp):zjv n [(walNm n,s)]=zfr (zf5 n wc0 [(walNm n,s)]):=by
 have h1:zdn (walNm n) [(walNm n,s)]=s.now:=by unfold zdn;rw[zbs];rfl
 have h0:zex (walNm n) [(walNm n,s)]=0:=by unfold zex;rw[zbs];rfl
 have hk:=zqi s.now s.now.length 0 (by omega);change (zdq s.now).2≤_ at hk
 have hw:zf5 n wc0 [(walNm n,s)]=(match zc4 (zdq s.now).1 with
  |none=>(4,[(walNm n,s)],wc0,n)
  |some c2 =>
   if (zf (walNm n) ((zdq s.now).2:Int) [(walNm n,s)]).1≠0 then ((zf (walNm n) ((zdq s.now).2:Int) [(walNm n,s)]).1,(zf (walNm n) ((zdq s.now).2:Int) [(walNm n,s)]).2,wc0,n)
   else ((zax (walNm n) (zf (walNm n) ((zdq s.now).2:Int) [(walNm n,s)]).2).1,(zax (walNm n) (zf (walNm n) ((zdq s.now).2:Int) [(walNm n,s)]).2).2,c2,n)):=by
  unfold zf5;rw[h0,h1];rfl
 have ht:zjv n [(walNm n,s)]=(match zc4 (zdq s.now).1 with
  |none=>(4,[(walNm n,s)],none)
  |some c=>(0,(zax (walNm n) (if (zdq s.now).2<s.now.length then (zf (walNm n) ((zdq s.now).2:Int) [(walNm n,s)]).2 else [(walNm n,s)])).2,some (c,n))):=by
  unfold zjv;rw[h1];cases zc4 (zdq s.now).1 <;> rfl
 rw[hw,ht];cases zc4 (zdq s.now).1 with
 |none=>rfl
 |some c =>
  dsimp only;generalize (zdq s.now).2=kk at *;have h3:zf (walNm n) (kk:Int) [(walNm n,s)]=(0,[(walNm n,⟨s.la,s.y,s.cs++[(true,kk,[])]⟩)]):=by
   unfold zf;rw[zbs];dsimp only;rw[if_neg (by omega),zen,Int.toNat_natCast]
  have h4:zax (walNm n) [(walNm n,⟨s.la,s.y,s.cs++[(true,kk,[])]⟩)]=(0,[(walNm n,⟨true,s.now.take kk,[]⟩)]):=by
   unfold zax;rw[zbs];dsimp only;rw[zen];have:(⟨s.la,s.y,s.cs++[(true,kk,[])]⟩:Sp).now=s.now.take kk:=by
    show zji (s.cs++[(true,kk,[])]) s.y=_
    rw[zg5];rfl
   rw[this]
  have h5:zax (walNm n) [(walNm n,s)]=(0,[(walNm n,⟨true,s.now,[]⟩)]):=by
   unfold zax;rw[zbs];dsimp only;rw[zen]
  rw[h3];dsimp only;rw[h4];have e1:zfr (if (0:Nat)≠0 then ((0:Nat),[(walNm n,(⟨s.la,s.y,s.cs++[(true,kk,[])]⟩:Sp))],wc0,n) else ((0:Nat),[(walNm n,⟨true,s.now.take kk,[]⟩)],c,n))=(0,[(walNm n,⟨true,s.now.take kk,[]⟩)],some (c,n)):=rfl;rw[e1];by_cases hc:kk<s.now.length
  ·rw[if_pos hc,h4]
  ·rw[if_neg hc,h5,List.take_of_length_le (by omega)]
theorem zzo (room n:Nat) (s:Sp) (h1:1≤n) (h2:n≤1099511627776):zqc room n [(walNm n,s)]=zfc room [(walNm n,s)]:=by
 unfold zqc;rw[if_neg (by omega),znj,zlu room n s h1 h2]
theorem zv7 (room:Nat):zbm room 0 (za7 wc0) []=(if room<22 then (9,[]) else (0,[(walNm 1,⟨true,za7 wc0,[]⟩)])):=by
 have ho:=zhr room;have hd:zfc room []=(if (zbm room 0 (za7 wc0) []).1≠0 then ((zbm room 0 (za7 wc0) []).1,(zbm room 0 (za7 wc0) []).2,none) else zfr (zf5 1 wc0 (zbm room 0 (za7 wc0) []).2)):=rfl;have hb:(za7 wc0).length=22:=by decide +kernel
 have hw:zai room zau 0 (za7 wc0) []=(if room<22 then (9,[]) else (0,[(zau,wrote sp0 0 (za7 wc0))])):=by
  unfold zai;rw[if_neg (by decide +kernel),hb];have e0:((zcc zau ([]:Ds)).getD sp0).now.length=0:=rfl;rw[e0,if_neg (by omega),if_neg (by simp)];have e1:usedS ([]:Ds)=0:=rfl;rw[e1];by_cases h4:room<22
  ·rw[if_pos (by omega),if_pos h4]
  ·rw[if_neg (by omega),if_neg h4];rfl
 by_cases h4:room<22
 ·rw[if_pos h4] at hw ⊢;have hR:za1 room 0 (za7 wc0) []=(9,[]):=by
   unfold za1;rw[hw,if_pos (by simp)]
  rw[zfq hR];rfl
 ·rw[if_neg h4] at hw ⊢;have hR:za1 room 0 (za7 wc0) []=(0,[(walNm 1,⟨true,za7 wc0,[]⟩)]):=by
   unfold za1;rw[hw];have hs:zax zau [(zau,wrote sp0 0 (za7 wc0))]=(0,[(zau,⟨true,za7 wc0,[]⟩)]):=by
    unfold zax;rw[zbs];dsimp only;rw[zky,zen]
   have hrn:zak zau (walNm (0+1)) [(zau,(⟨true,za7 wc0,[]⟩:Sp))]=(0,[(walNm 1,⟨true,za7 wc0,[]⟩)]):=by
    unfold zak;rw[zbs];dsimp only;rw[if_pos (walNm_ok 1 (by omega))];simp[zdm,zbi]
   rw[if_neg (by simp),hs,if_neg (by simp),if_neg (by omega),if_neg (by simp),if_pos (.inr rfl),hrn]
  rw[zfq hR,if_pos rfl]
theorem zxf (room:Nat):zqc room 0 []=zfc room []:=by
 have hd:zfc room []=(if (zbm room 0 (za7 wc0) []).1≠0 then ((zbm room 0 (za7 wc0) []).1,(zbm room 0 (za7 wc0) []).2,none) else zfr (zf5 1 wc0 (zbm room 0 (za7 wc0) []).2)):=rfl;rw[hd];unfold zqc;rw[if_pos rfl,zke (show zbf ([]:Ds) from List.Pairwise.nil) (by omega) (.inl rfl),zv7];by_cases h4:room<22
 ·rw[if_pos h4];rfl
 ·rw[if_neg h4];dsimp only;rw[if_neg (by simp),if_neg (by simp),znj]
section
variable {room n:Nat} {ss:Ds} {c:Wc} {r1 r2:List (List Nat)}
theorem LS.some_ (h:LS room ss c n r1 r2):(zcc (walNm n) ss).isSome=true:=by
 obtain⟨s,rfl,_⟩:=h.now;rw[zbs];rfl
theorem LS.wr (h:LS room ss c n r1 r2) {rs:List (List Nat)} {c':Wc} (hf:zb4 c rs=some c') (hl:∀ r∈rs,r.length≤65536) :
  (∃ e,e≠0∧zai room (walNm n) ((zdn (walNm n) ss).length:Int) (cat rs) ss=(e,ss))∨∃ ss',zai room (walNm n) ((zdn (walNm n) ss).length:Int) (cat rs) ss=(0,ss')∧LS room ss' c' n r1 (r2++rs):=by
 obtain⟨s,hs,hla,hnow⟩:=h.now;have hnl:zdn (walNm n) ss=cat (r1++r2):=by rw[hs];unfold zdn;rw[zbs];exact hnow
 have hre:zex (walNm n) ss=0:=by rw[hs];unfold zex;rw[zbs];rfl
 by_cases hb:(cat rs).length+(cat (r1++r2)).length≤262144
 ·have e:zc0 room n c (cat rs) ss=((zai room (walNm n) ((zdn (walNm n) ss).length:Int) (cat rs) ss).1,(zai room (walNm n) ((zdn (walNm n) ss).length:Int) (cat rs) ss).2,n):=by
   unfold zc0;rw[hre,if_neg (by simp),if_pos (by rw[hnl];exact hb)]
  rcases h.add hb hf hl with⟨_,q⟩|⟨ss',q,ls'⟩
  ·rw[e] at q;simp only[Prod.mk.injEq] at q;exact .inl ⟨9,by omega,Prod.ext q.1 q.2.1⟩
  ·rw[e] at q;simp only[Prod.mk.injEq] at q;exact .inr ⟨ss',Prod.ext q.1 q.2.1,ls'⟩
 ·left
  refine⟨6,by omega,?_⟩;rw[hnl];unfold zai;rw[hs,if_neg (by rw[walNm_ok n (by have:=h.n2;omega)];simp),zbs];have e0:((some s).getD sp0).now.length=(cat (r1++r2)).length:=by show s.now.length=_;rw[hnow]
  rw[e0,if_neg (by omega),if_pos (.inr (by omega))]
theorem LS.addA (h:LS room ss c n r1 r2) (hk:WOk c) {rs:List (List Nat)} {c':Wc} (hf:zb4 c rs=some c') (hl:∀ r∈rs,r.length≤65536) :
  ∃ e ss' n' r1' r2',zc0 room n c (cat rs) ss=(e,ss',n')∧n'≤n+1∧((e≠0∧LS room ss' c n' r1' r2')∨(e=0∧LS room ss' c' n' r1' r2')):=by
 have hre:zex (walNm n) ss=0:=by unfold zex;rw[if_pos h.some_]
 unfold zc0;rw[hre,if_neg (by simp)];by_cases hb:(cat rs).length+(zdn (walNm n) ss).length≤262144
 ·rw[if_pos hb];rcases h.wr hf hl with⟨e,he,q⟩|⟨ss',q,ls'⟩
  ·rw[q];exact⟨e,ss,n,r1,r2,rfl,by omega,.inl ⟨he,h⟩⟩
  ·rw[q];exact⟨0,ss',n,r1,_,rfl,by omega,.inr ⟨rfl,ls'⟩⟩
 ·rw[if_neg hb];rcases h.anew hk h.ix with⟨e,he,q⟩|⟨_,_,q,ls2⟩
  ·rw[q,if_pos he];exact⟨e,ss,n,r1,r2,rfl,by omega,.inl ⟨he,h⟩⟩
  ·rw[q,if_neg (by simp)];rcases ls2.wr hf hl with⟨e,he,q2⟩|⟨ss',q2,ls'⟩
   ·rw[q2];exact⟨e,_,n+1,_,_,rfl,by omega,.inl ⟨he,ls2⟩⟩
   ·rw[q2];exact⟨0,ss',n+1,_,_,rfl,by omega,.inr ⟨rfl,ls'⟩⟩
def Nxt (room n:Nat) (c:Wc) (k:Nat) (r:Nat×Ds×Wc×Nat):Prop:=(∃ r1 r2,LS room r.2.1 r.2.2.1 r.2.2.2 r1 r2)∧r.2.2.2≤n+1∧r.2.2.1.es.length≤c.es.length+k
theorem LS.hardN (h:LS room ss c n r1 r2) (hk:WOk c) {t v:Nat} (ht:t≤1099511627776) (hv:v≤9):Nxt room n c 0 (zmc room n c t v ss):=by
 unfold zmc;split
 ·exact⟨⟨r1,r2,h⟩,by dsimp only;omega,by dsimp only;omega⟩
 ·have hb:cat [zAk t v]=zb2 t v:=by simp[cat];rfl
  obtain⟨e,ss',n',r1',r2',q,hn,hx⟩:=h.addA hk (rs:=[zAk t v]) (c':={ c with ht:=t,hv:=v }) (by rw[zb5,zni c ht hv];rfl) (fun r hr=>by rw[List.mem_singleton.1 hr];exact ztu ht hv);rw[hb] at q;rw[q];dsimp only;rcases hx with⟨he,ls⟩|⟨he,ls⟩
  ·rw[if_pos he];exact⟨⟨_,_,ls⟩,hn,by dsimp only;omega⟩
  ·rw[if_neg (by omega)];exact⟨⟨_,_,ls⟩,hn,by dsimp only;omega⟩
theorem LS.appendN (h:LS room ss c n r1 r2) (hk:WOk c) (es:List EntI):Nxt room n c es.length (zev room n c es ss):=by
 unfold zev;cases hr:zcl es with
 |error x=>exact⟨⟨r1,r2,h⟩,by dsimp only;omega,by dsimp only;omega⟩
 |ok b =>
  dsimp only;split
  ·exact⟨⟨r1,r2,h⟩,by dsimp only;omega,by dsimp only;omega⟩
  ·rename_i hfa
   have hfa:zcn c es=true:=by simpa using hfa
   split
   ·exact⟨⟨r1,r2,h⟩,by dsimp only;omega,by dsimp only;omega⟩
   ·have hall:=zh hr
    have hf:=zwy (c:=c) (es:=es) hfa (fun e he=>by
     obtain⟨q1,⟨_,_,⟨q2,q3⟩,_⟩⟩:=hall e he;simp only[toN] at q2 q3
     omega)
    have hfold:=zkp (fun e he=>(hall e he).2) hf es.length (Nat.le_refl _);rw[List.take_length] at hfold
    obtain⟨e,ss',n',r1',r2',q,hn,hx⟩:=h.addA hk (rs:=es.map fun e=>zxo (toN e)) (c':=zbk c es) hfold (fun r hr=>by
     obtain⟨e,he,rfl⟩:=List.mem_map.1 hr
     exact ztt (hall e he).2)
    rw[← zqe hr] at q;rw[q];dsimp only;have hlen:=zhg c es;rcases hx with⟨he,ls⟩|⟨he,ls⟩
    ·rw[if_pos he];exact⟨⟨_,_,ls⟩,hn,by dsimp only;omega⟩
    ·rw[if_neg (by omega)];exact⟨⟨_,_,ls⟩,hn,hlen⟩
theorem LS.newN (h:LS room ss c n r1 r2) {c2:Wc} (hk:WOk c2) (hi:Ix c2) (hl:c2.es.length≤c.es.length):Nxt room n c 0 (zrm room n c c2 ss):=by
 rcases h.new hk hi with⟨x,h0,hx⟩|⟨ss',hx,ls'⟩
 ·rw[hx];exact⟨⟨r1,r2,h⟩,by dsimp only;omega,by dsimp only;omega⟩
 ·rw[hx];exact⟨⟨_,_,ls'⟩,by dsimp only;omega,by dsimp only;omega⟩
theorem LS.compactN (h:LS room ss c n r1 r2) (hk:WOk c) (i:Int):Nxt room n c 0 (zeo room n c i ss):=by
 unfold zeo;split
 ·exact⟨⟨r1,r2,h⟩,by dsimp only;omega,by dsimp only;omega⟩
 ·rename_i h1
  split
  ·exact⟨⟨r1,r2,h⟩,by dsimp only;omega,by dsimp only;omega⟩
  ·rename_i h2
   have hr:(c.bi:Int)<i∧i≤((c.bi+c.es.length:Nat):Int):=by
    by_cases hq:(c.bi:Int)<i∧i≤((c.bi+c.es.length:Nat):Int)
    ·exact hq
    ·exfalso
     apply h1
     unfold zdd;rw[if_neg h2,if_neg hq]
   have ht:zdd c i=(((c.es.getD (i - (c.bi:Int) - 1).toNat default).2.1:Int),true):=by
    unfold zdd;rw[if_neg h2,if_pos hr]
   obtain⟨k,rfl⟩:∃ k:Nat,i=(k:Int):=⟨i.toNat,by omega⟩
   obtain⟨ok2,ix2,_⟩:=zrr hk h.ix (show c.bi<k by omega) (show k≤c.bi+c.es.length by omega) (show(zdd c (k:Int)).1=_ by rw[ht]);rw[Int.toNat_natCast];exact h.newN ok2 ix2 (by simp only[List.length_drop];omega)
theorem LS.syncN (h:LS room ss c n r1 r2):Nxt room n c 0 ((zax (walNm n) ss).1,(zax (walNm n) ss).2,c,n):=by
 obtain⟨q1,q2⟩:=h.sync;rw[q1];exact⟨⟨_,_,q2⟩,by dsimp only;omega,by dsimp only;omega⟩
theorem zz5 {c c':Wc} {l:List Nat} (h:zcz c l=some c'):c'.es.length≤c.es.length+1:=by
 cases l with
 |nil=>cases h
 |cons k b =>
  rw[zeh] at h;split at h
  ·unfold zjh at h;cases h1:zbh b 0 with
   |error x=>rw[h1] at h;cases h
   |ok r =>
    obtain⟨i,k1⟩:=r;rw[h1] at h;dsimp only at h;cases h2:zbh b k1 with
    |error x=>rw[h2] at h;cases h
    |ok r2 =>
     obtain⟨t,k2⟩:=r2;rw[h2] at h;dsimp only at h;split at h
     ·cases h
     ·cases h;simp
  ·split at h
   ·unfold zje at h;cases h1:za6 b (zd9 b 0) with
    |error x=>rw[h1] at h;cases h
    |ok r=>rw[h1] at h;cases h;simp
   ·split at h
    ·unfold zuq at h;cases h1:za6 b (za9 b 0) with
     |error x=>rw[h1] at h;cases h
     |ok e =>
      rw[h1] at h;dsimp only at h;split at h
      ·cases h
       unfold zfb;simp only[List.length_append,List.length_take,List.length_cons,List.length_nil];omega
      ·cases h
    ·cases h
theorem zpv:∀ {rs:List (List Nat)} {c c':Wc},zb4 c rs=some c'→c'.es.length≤c.es.length+rs.length
 |[],c,c',h=>by cases h;simp
 |r::rs,c,c',h=>by
  rw[zb5] at h;cases h1:zcz c r with
  |none=>rw[h1] at h;cases h
  |some c1 =>
   rw[h1] at h;have:=zpv h;have:=zz5 h1;rw[List.length_cons];omega
theorem zwj:∀ rs:List (List Nat),8*rs.length≤(cat rs).length
 |[]=>by simp
 |r::rs=>by
  have:=zwj rs;have:=zcg r;rw[cat,List.length_append,List.length_cons];omega
theorem zwk {rs:List (List Nat)} (h:zc4 rs=some c):8*c.es.length≤(cat rs).length:=by
 have h3:=zwj rs;cases rs with
 |nil=>cases h
 |cons r rs =>
  change (if zcq r=true then zb4 wc0 (r::rs) else none)=some c at h;split at h
  ·have:=zpv h;simp only[wc0,List.length_nil] at this;omega
  ·cases h
end
def zBe (e:Wd) (w:World) (r:Ending) (w':World):Prop:=∃ x:Bool,r=.returned (.bool x)∧(x=true→zij e.es≤6000∧e.keep.length≤50)∧Below w.heap.size w w'
theorem zfn (e:Wd) (h:WdH) (w:World) (hA:WdAt w e h):Calls Tryz.prog 9 #[.agg (zhy e h)] w (zBe e w):=by
 unfold zhy;have U1:=zaa (show Below w.heap.size w (w.alloc (.cells #[.int .i64 e.kind,.slice h.ep e.es.length h.ec,.int .i64 e.ht,.int .i64 e.hv,.int .i64 e.mi,.int .i64 e.mt,.slice h.kp e.keep.length h.kc] 34)) from(Below.refl _ _).alloc (Nat.le_refl _) _);have X1:=zaa (zad w (.cells #[.int .i64 e.kind,.slice h.ep e.es.length h.ec,.int .i64 e.ht,.int .i64 e.hv,.int .i64 e.mi,.int .i64 e.mt,.slice h.kp e.keep.length h.kc] 34));have EA:=zaa (hA.en.later (za U1));have hse:=hA.se;have hsk:=hA.sk;simp only[maxLen] at hse hsk;have FE:=zaa (show ∀ (x:Bool) W,(x=true→zij e.es≤6000∧e.keep.length≤50)→Below w.heap.size w W→zBe e w (.returned (.bool x)) W from fun x W h u=>⟨x,rfl,h,u⟩);have EQ:=zaa (show e.es=e.es from rfl);obtain⟨es,hes⟩:∃ es,e.es=es:=⟨_,rfl⟩
 rw[hes] at EA FE hse U1 X1 ⊢;generalize hlen:es.length=m at *;have HL:=zaa hlen;clear hA hes hlen EQ;go_enter Tryz.func9,Tryz.ntmps9
 go_wp2_with fail
 generalize w.alloc _=W1 at *;go_loopw [3,4] (fun v q wr=>∃ (j:Nat),j≤m∧q=.int .i64 (j:Int)∧v=.int .i64 ((zij (es.take j):Nat):Int)∧Hid (zij (es.take j)≤12020)∧Hid (Below W1.heap.size W1 wr)) (fun _ q _=>m - (intOf q).toNat)
 case atStart=>exact⟨0,by omega,rfl,rfl,zaa (by simp[zij]),zaa (Below.refl _ _)⟩
 case round =>
  obtain⟨j,hj,rfl,rfl,HS,F⟩:=hrel;have X2:=zaa (zac (za F) (za X1));have x1:wr.cell? ⟨w.heap.size,1,none⟩=some (.slice h.ep m h.ec):=zab (za X2) 1 _ rfl;have x6:wr.cell? ⟨w.heap.size,6,none⟩=some (.slice h.kp e.keep.length h.kc):=zab (za X2) 6 _ rfl;have U2:=zaa ((za U1).trans ((za F).mono (za U1).size));by_cases hjm:j<m
  ·have y0:(0:Int)≤(j:Int):=by omega
   have y1:(j:Int)<(m:Int):=by omega
   have hjl:j<es.length:=by rw[za HL];exact hjm
   by_cases hs:zij (es.take j)≤6000
   ·have ys:((zij (es.take j):Nat):Int)≤6000:=by omega
    obtain⟨b,off,dp,dc,hep,p0,p1,p2,p3,p4,_⟩:=((za EA).later (za F)).cell j hjl;have ST:=zx7 es j hjl;generalize hsj:zij (es.take j)=sj at *;generalize es[j].2.2.2.length=dl at *;have SE:=zaa ST;have HS1:=zaa (show zij (es.take (j+1))≤12020 by omega);rw[hep] at x1;have hmn:(min (dl:Int) 6000)=((min dl 6000:Nat):Int):=by omega
    clear ST hsj
    go_wp2
    exact⟨⟨j+1,by omega,by go_num,by rw[za SE,Value.int.injEq];exact⟨rfl,by omega⟩,HS1,F⟩,by simp[intOf];omega⟩
   ·have ys:¬ ((zij (es.take j):Nat):Int)≤6000:=by omega
    have FF:=zaa (za FE false wr (fun h=>by cases h) (za U2));generalize zij (es.take j)=sj at *
    go_wp2
    go_ret
    exact za FF
  ·have hjj:¬ (j:Int)<(m:Int):=by omega
   have EE:=zaa (show zij (es.take j)=zij es by rw[List.take_of_length_le (by rw[za HL];omega)]);generalize zij (es.take j)=sj at *;by_cases hs:sj≤6000
   ·have ys:(sj:Int)≤6000:=by omega
    by_cases hk:e.keep.length≤50
    ·have yk:(e.keep.length:Int)≤50:=by omega
     have FF:=zaa (za FE true wr (fun _=>⟨by rw[← za EE];exact hs,hk⟩) (za U2))
     go_wp2
     go_ret
     exact za FF
    ·have yk:¬ (e.keep.length:Int)≤50:=by omega
     have FF:=zaa (za FE false wr (fun h=>by cases h) (za U2))
     go_wp2
     go_ret
     exact za FF
   ·have ys:¬ (sj:Int)≤6000:=by omega
    have FF:=zaa (za FE false wr (fun h=>by cases h) (za U2))
    go_wp2
    go_ret
    exact za FF
end
section
open Go.ChangeShapes Go.WideShapes Go.ChangeAt Go.RowKit Go.Maps
def zd7 (d R:Nat) (lp rp:Option Addr):Array Value:=#[.pointer (some ⟨d,0,none⟩),.pointer lp,.pointer (some ⟨R,0,none⟩),.pointer rp]
structure TL (Bv:Nat→Prop) (base:Nat) (w:World) (B d M R L Lr room N:Nat) (ss:Ds) (c:Wc) (n:Nat) (tt:Ds) (cc:Wc) (nn:Nat):Prop where
 lowR:base≤R
 lowL:base≤Lr
 inB:Bv B
 bx:w.heap[B]? = some (.cells (zd7 d R (some ⟨L,0,none⟩) (some ⟨Lr,0,none⟩)) 43 (0,0))
 at_:∃ Fv ep ec hs,WAt (fun g=>g=R∨g=Lr∨Fv g∨Bv g) base w L d M room N ss c n ep ec hs∧RL Fv w Lr R room tt nn cc∧∀ g,Bv g→¬ Fv g∧g≠R∧g≠Lr
structure TB (Bv:Nat→Prop) (base:Nat) (w:World) (B d M R:Nat) (lp rp:Option Addr) (room N:Nat) (ss tt:Ds):Prop where
 lowR:base≤R
 inB:Bv B
 bx:w.heap[B]? = some (.cells (zd7 d R lp rp) 43 (0,0))
 at_:∃ Fv,DAt (fun g=>g=R∨Fv g∨Bv g) base w d M room N ss∧RAt Fv w R room tt∧¬ Fv R∧∀ g,Bv g→¬ Fv g∧g≠R
 tz:∃ w0:World,w0.heap.size=base∧Tz w0∧Below base w0 w
theorem DAt.right2 {Av:Nat→Prop} {base d M R Lr room N:Nat} {w w':World} {ss:Ds} (h:DAt Av base w d M room N ss) (hR:Av R) (hL:Av Lr) (hg:Grew2 Lr (some R) w w'):DAt (fun g=>Av g∨(w.heap.size≤g∧g<w'.heap.size)) base w' d M room N ss:=by
 obtain⟨fs,h1,h2,h3⟩:=h.at_;refine⟨Nat.le_trans h.le hg.size,h.few,fs,h1.same (fun g hl hm=>hg.block g hl (fun e=>?_) (fun e=>?_)),h2,fun g hav=>?_⟩
 ·subst e;rcases hm with hm|hm
  ·exact(h3 _ hL).2.1 hm
  ·exact(h3 _ hL).2.2 hm
 ·have:=Option.some.inj e;subst this;rcases hm with hm|hm
  ·exact(h3 _ hR).2.1 hm
  ·exact(h3 _ hR).2.2 hm
 ·rcases hav with hav|⟨g1,g2⟩
  ·exact⟨Nat.lt_of_lt_of_le (h3 g hav).1 hg.size,(h3 g hav).2⟩
  ·refine⟨g2,fun hm=>?_,fun hm=>?_⟩
   ·have:=(h1.mut_lt hm).2;omega
   ·have:=(h1.red_lt hm).2;omega
section
variable {Bv Cv:Nat→Prop} {base B d M R L Lr room N N':Nat} {w w':World} {ss tt:Ds} {c cc:Wc} {n nn:Nat} {lp rp:Option Addr} {r:Nat×Ds×Wc×Nat} {f:Nat} {args:Array Value} {P:Ending→Prop}
theorem RL.same {Fv:Nat→Prop} (h:RL Fv w Lr R room tt nn cc) (hL:w'.heap[Lr]? = w.heap[Lr]?) (hR:w'.heap[R]? = w.heap[R]?) (hs:∀ g,Fv g→w'.heap[g]? = w.heap[g]?):RL Fv w' Lr R room tt nn cc:=by
 obtain⟨sp,k,h1,h2⟩:=h.lg;exact⟨h.dk.same hR hs,h.ne,h.nL,h.nR,⟨sp,k,hL.trans h1,h2.same hs⟩,h.ok,h.ix,h.le,h.nn⟩
theorem TL.le (h:TL Bv base w B d M R L Lr room N ss c n tt cc nn):base≤w.heap.size:=by
 obtain⟨Fv,ep,ec,hs,z,_⟩:=h.at_;exact z.dk.le
theorem TL.ltB (h:TL Bv base w B d M R L Lr room N ss c n tt cc nn) {g:Nat} (hg:Bv g):g<w.heap.size:=by
 obtain⟨Fv,ep,ec,hs,z,_⟩:=h.at_;exact z.dk.lt (.inl (.inr (.inr (.inr hg))))
theorem TL.later (h:TL Bv base w B d M R L Lr room N ss c n tt cc nn) (u:Below w.heap.size w w'):TL Bv base w' B d M R L Lr room N ss c n tt cc nn:=by
 obtain⟨Fv,ep,ec,hs,z,rl,h3⟩:=h.at_;exact⟨h.lowR,h.lowL,h.inB,zac u h.bx,Fv,ep,ec,hs,z.later u,rl.later u,h3⟩
theorem TL.sub (h:TL Bv base w B d M R L Lr room N ss c n tt cc nn) (hs:∀ g,Cv g→Bv g) (hB:Cv B):TL Cv base w B d M R L Lr room N ss c n tt cc nn:=by
 obtain⟨Fv,ep,ec,hs',z,rl,h3⟩:=h.at_;exact⟨h.lowR,h.lowL,hB,h.bx,Fv,ep,ec,hs',z.sub (fun g hg=>hg.imp id (fun q=>q.imp id (fun q=>q.imp id (hs g)))),rl,fun g hg=>h3 g (hs g hg)⟩
theorem TL.monoN (h:TL Bv base w B d M R L Lr room N ss c n tt cc nn) (hN:N≤N') (hf:N'≤1000000):TL Bv base w B d M R L Lr room N' ss c n tt cc nn:=by
 obtain⟨Fv,ep,ec,hs,z,rl,h3⟩:=h.at_;exact⟨h.lowR,h.lowL,h.inB,h.bx,Fv,ep,ec,hs,z.monoN hN hf,rl,h3⟩
theorem TL.more (h:TL Bv base w B d M R L Lr room N ss c n tt cc nn) (u:Below w.heap.size w w'):TL (fun g=>Bv g∨(w.heap.size≤g∧g<w'.heap.size)) base w' B d M R L Lr room N ss c n tt cc nn:=by
 obtain⟨Fv,ep,ec,hs,z,rl,h3⟩:=h.at_;have h1:=rl.ltL;have h2:=rl.dk.ltR;refine⟨h.lowR,h.lowL,.inl h.inB,zac u h.bx,fun g=>Fv g∧g<w.heap.size,ep,ec,hs,(z.more u).sub (fun g hg=>?_),rl.lt.later u,fun g hg=>?_⟩
 ·rcases hg with hg|hg|hg|hg|hg
  ·exact .inl (.inl hg)
  ·exact .inl (.inr (.inl hg))
  ·exact .inl (.inr (.inr (.inl hg.1)))
  ·exact .inl (.inr (.inr (.inr hg)))
  ·exact .inr hg
 ·rcases hg with hg|hg
  ·exact⟨fun q=>(h3 g hg).1 q.1,(h3 g hg).2⟩
  ·exact⟨fun q=>by omega,by omega,by omega⟩
theorem TL.asd (h:TL Bv base w B d M R L Lr room N ss c n tt cc nn) (u:Below w.heap.size w w'):Asd Bv base w w':=Asd.of (fun g hg=>h.ltB hg) h.le u
theorem TL.callL (h:TL Bv base w B d M R L Lr room N ss c n tt cc nn) (hk:∀ Av ep ec hs,WAt Av base w L d M room N ss c n ep ec hs→(∀ g,Bv g→Av g)→Calls Tryz.prog f args w fun e w'=>P e∧(∃ ep ec hs,WAt Av base w' L d M room N' r.2.1 r.2.2.1 r.2.2.2 ep ec hs)∧Asd Av base w w') :
  Calls Tryz.prog f args w fun e w'=>P e∧TL Bv base w' B d M R L Lr room N' r.2.1 r.2.2.1 r.2.2.2 tt cc nn∧Asd Bv base w w':=by
 obtain⟨Fv,ep,ec,hs,z,rl,h3⟩:=h.at_;refine(hk _ _ _ _ z (fun g hg=>.inr (.inr (.inr hg)))).mono ?_;rintro e w' ⟨hp,⟨ep',ec',hs',z'⟩,a⟩;exact⟨hp,⟨h.lowR,h.lowL,h.inB,(a.av B (.inr (.inr (.inr h.inB)))).trans h.bx,Fv,ep',ec',hs',z',rl.same (a.av Lr (.inr (.inl rfl))) (a.av R (.inl rfl)) (fun g hg=>a.av g (.inr (.inr (.inl hg)))),h3⟩,a.sub (fun g hg=>.inr (.inr (.inr hg)))⟩
theorem Grew2.bel (g:Grew2 Lr (some R) w w') (h1:base≤R) (h2:base≤Lr) (hb:base≤w.heap.size):Below base w w' :=
 ⟨g.os,g.tape,g.output,g.size,fun i hi=>g.block i (by omega) (by omega) (fun e=>by have:=Option.some.inj e;omega)⟩
theorem WAt.right2 {Av:Nat→Prop} {ep:Option Addr} {ec:Nat} {hs:List (Option Addr×Nat)} (z:WAt Av base w L d M room N ss c n ep ec hs) (hR:Av R) (hL:Av Lr) (h1:base≤R) (h2:base≤Lr) (g:Grew2 Lr (some R) w w'):WAt (fun g=>Av g∨(w.heap.size≤g∧g<w'.heap.size)) base w' L d M room N ss c n ep ec hs:=by
 have hl:=z.lg.lt;have nb:∀ x,x<w.heap.size→¬ Av x→w'.heap[x]? = w.heap[x]?:=fun x hx hn=>g.block x hx (fun e=>hn (by rw[e];exact hL)) (fun e=>hn (by rw[← Option.some.inj e];exact hR));refine⟨(z.dk.right2 (.inl hR) (.inl hL) g).av (fun x hx=>?_),z.lg.same (nb L hl (fun q=>(z.av L q).1 rfl)),z.ow.same (fun x hx=>nb x (z.ow.foot x hx).2.1 (fun q=>(z.av x q).2 hx)),z.bl,fun x hx=>?_,z.ok,z.nn,z.le,let ⟨w0,q1,q2,q3⟩:=z.tz;⟨w0,q1,q2,q3.trans (g.bel h1 h2 z.dk.le)⟩⟩
 ·rcases hx with(hx|hx)|hx|hx
  ·exact .inl (.inl hx)
  ·exact .inr hx
  ·exact .inl (.inr (.inl hx))
  ·exact .inl (.inr (.inr hx))
 ·rcases hx with hx|hx
  ·exact z.av x hx
  ·exact⟨fun e=>by omega,fun q=>by have:=(z.ow.foot x q).2.1;omega⟩
theorem TL.callR (h:TL Bv base w B d M R L Lr room N ss c n tt cc nn) (hk:∀ Fv,RL Fv w Lr R room tt nn cc→Calls Tryz.prog f args w fun e w'=>P e∧RL (fun g=>Fv g∨(w.heap.size≤g∧g<w'.heap.size)) w' Lr R room r.2.1 r.2.2.2 r.2.2.1∧Grew2 Lr (some R) w w') :
  Calls Tryz.prog f args w fun e w'=>P e∧TL Bv base w' B d M R L Lr room N ss c n r.2.1 r.2.2.1 r.2.2.2∧Asd Bv base w w':=by
 obtain⟨Fv,ep,ec,hs,z,rl,h3⟩:=h.at_;refine(hk Fv rl).mono ?_;rintro e w' ⟨hp,rl',g⟩;have kb:∀ x,Bv x→w'.heap[x]? = w.heap[x]?:=fun x hx=>g.block x (h.ltB hx) (h3 x hx).2.2 (fun e=>(h3 x hx).2.1 (Option.some.inj e).symm);refine⟨hp,⟨h.lowR,h.lowL,h.inB,(kb B h.inB).trans h.bx,fun g=>Fv g∨(w.heap.size≤g∧g<w'.heap.size),ep,ec,hs,(z.right2 (.inl rfl) (.inr (.inl rfl)) h.lowR h.lowL g).sub (fun x hx=>?_),rl',fun x hx=>⟨fun q=>?_,(h3 x hx).2⟩⟩,kb,g.bel h.lowR h.lowL h.le⟩
 ·rcases hx with hx|hx|(hx|hx)|hx
  ·exact .inl (.inl hx)
  ·exact .inl (.inr (.inl hx))
  ·exact .inl (.inr (.inr (.inl hx)))
  ·exact .inr hx
  ·exact .inl (.inr (.inr (.inr hx)))
 ·rcases q with q|q
  ·exact(h3 x hx).1 q
  ·have:=h.ltB hx;omega
theorem TL.fewC (h:TL Bv base w B d M R L Lr room N ss c n tt cc nn):zht N ss:=by
 obtain⟨Fv,ep,ec,hs,z,_⟩:=h.at_;obtain⟨fs,q1,rfl,q3⟩:=z.dk.at_;intro x hx;unfold sps at hx;obtain⟨y,hy,rfl⟩:=List.mem_map.1 hx;have:=(q1.ok y hy).few;show(y.2.2.xs.map (·.1)).length≤N
 rw[List.length_map];exact this
theorem TL.okC (h:TL Bv base w B d M R L Lr room N ss c n tt cc nn):WOk c:=by
 obtain⟨Fv,ep,ec,hs,z,_⟩:=h.at_;exact z.ok
theorem TL.rise (h:TL Bv base w B d M R L Lr room N ss c n tt cc nn):zbf ss:=by
 obtain⟨Fv,ep,ec,hs,z,_⟩:=h.at_;exact z.dk.rise
theorem TL.tz (h:TL Bv base w B d M R L Lr room N ss c n tt cc nn):∃ w0:World,w0.heap.size=base∧Tz w0∧Below base w0 w:=by
 obtain⟨Fv,ep,ec,hs,z,_⟩:=h.at_;exact z.tz
theorem TL.toTB (h:TL Bv base w B d M R L Lr room N ss c n tt cc nn):TB Bv base w B d M R (some ⟨L,0,none⟩) (some ⟨Lr,0,none⟩) room N ss tt:=by
 obtain⟨Fv,ep,ec,hs,z,rl,h3⟩:=h.at_;refine⟨h.lowR,h.inB,h.bx,⟨Fv,z.dk.av (fun g hg=>.inl ?_),rl.dk,rl.nR,fun g hg=>⟨(h3 g hg).1,(h3 g hg).2.1⟩⟩,z.tz⟩;rcases hg with hg|hg|hg
 ·exact .inl hg
 ·exact .inr (.inr (.inl hg))
 ·exact .inr (.inr (.inr hg))
def zBa (Bv:Nat→Prop) (base B d M R L Lr room N:Nat) (tt:Ds) (cc:Wc) (nn:Nat) (w:World) (r:Nat×Ds×Wc×Nat) (e:Ending) (w':World):Prop :=
 e=.returned (.int .i64 (r.1:Int))∧TL Bv base w' B d M R L Lr room N r.2.1 r.2.2.1 r.2.2.2 tt cc nn∧Asd Bv base w w'
def zBb (Bv:Nat→Prop) (base B d M R L Lr room N:Nat) (ss:Ds) (c:Wc) (n:Nat) (w:World) (r:Nat×Ds×Wc×Nat) (e:Ending) (w':World):Prop :=
 e=.returned (.int .i64 (r.1:Int))∧TL Bv base w' B d M R L Lr room N ss c n r.2.1 r.2.2.1 r.2.2.2∧Asd Bv base w w'
theorem TL.lg (h:TL Bv base w B d M R L Lr room N ss c n tt cc nn) (hk:∀ Av ep ec hs,WAt Av base w L d M room N ss c n ep ec hs→(∀ g,Bv g→Av g)→Calls Tryz.prog f args w (ze0 Av base L d M room N' w r)):Calls Tryz.prog f args w (zBa Bv base B d M R L Lr room N' tt cc nn w r) :=
 h.callL (P:=fun e=>e=.returned (.int .i64 (r.1:Int))) (fun Av ep ec hs z hb=>(hk Av ep ec hs z hb).mono fun e w' ⟨h1,h2,h3⟩=>⟨h1,h2,h3⟩)
theorem TL.rg (h:TL Bv base w B d M R L Lr room N ss c n tt cc nn) (hk:∀ Fv,RL Fv w Lr R room tt nn cc→Calls Tryz.prog f args w (zc7 Fv w Lr R room r)):Calls Tryz.prog f args w (zBb Bv base B d M R L Lr room N ss c n w r) :=
 h.callR (P:=fun e=>e=.returned (.int .i64 (r.1:Int))) (fun Fv rl=>(hk Fv rl).mono fun e w' ⟨h1,h2,h3⟩=>⟨h1,h2,h3⟩)
def zs5 (room n:Nat) (c:Wc) (t v:Int) (ss:Ds):Nat×Ds×Wc×Nat:=if 0≤t∧t≤1099511627776∧0≤v∧v≤9 then zmc room n c t.toNat v.toNat ss else (2,ss,c,n)
def zlx (room n:Nat) (c:Wc) (i t:Int) (ss:Ds):Nat×Ds×Wc×Nat:=if 0≤i∧i≤1099511627776∧0≤t∧t≤1099511627776 then zrm room n c ⟨i.toNat,t.toNat,c.ht,c.hv,[]⟩ ss else (2,ss,c,n)
theorem zsx (h:TL Bv base w B d M R L Lr room N ss c n tt cc nn) (hN:N+2≤1000000) (t v:Int):Calls Tryz.prog 31 #[.pointer (some ⟨L,0,none⟩),.agg #[.int .i64 t,.int .i64 v]] w (zBa Bv base B d M R L Lr room (N+2) tt cc nn w (zs5 room n c t v ss)):=by
 unfold zs5;by_cases hq:0≤t∧t≤1099511627776∧0≤v∧v≤9
 ·rw[if_pos hq];obtain⟨t',rfl⟩:∃ t':Nat,t=(t':Int):=⟨t.toNat,by omega⟩
  obtain⟨v',rfl⟩:∃ v':Nat,v=(v':Int):=⟨v.toNat,by omega⟩
  rw[Int.toNat_natCast,Int.toNat_natCast];exact h.lg (fun Av ep ec hs z hb=>zlk z hN t' v' (by omega) (by omega))
 ·rw[if_neg hq];exact h.lg (fun Av ep ec hs z hb=>(zvv z t v hq).mono fun e w' ⟨h1,⟨ep',ec',hs',z'⟩,h3⟩=>⟨h1,⟨ep',ec',hs',z'.monoN (by omega) hN⟩,h3⟩)
theorem zrb (h:TL Bv base w B d M R L Lr room N ss c n tt cc nn) (hc:zht 300 tt) (hr:zbf tt) (hn:nn+1<1099511627776) (hs:(zcc (walNm nn) tt).isSome=true) (t v:Int):Calls Tryz.prog 32 #[.pointer (some ⟨Lr,0,none⟩),.agg #[.int .i64 t,.int .i64 v]] w (zBb Bv base B d M R L Lr room N ss c n w (zs5 room nn cc t v tt)):=by
 unfold zs5;by_cases hq:0≤t∧t≤1099511627776∧0≤v∧v≤9
 ·rw[if_pos hq];obtain⟨t',rfl⟩:∃ t':Nat,t=(t':Int):=⟨t.toNat,by omega⟩
  obtain⟨v',rfl⟩:∃ v':Nat,v=(v':Int):=⟨v.toNat,by omega⟩
  rw[Int.toNat_natCast,Int.toNat_natCast,← zw4 hr hn hs];exact h.rg (fun Fv rl=>zxu rl hc hn t' v' (by omega) (by omega))
 ·rw[if_neg hq];exact h.rg (fun Fv rl=>zzu rl t v hq)
theorem zra (h:TL Bv base w B d M R L Lr room N ss c n tt cc nn) (hN:N+2≤1000000) (i t:Int):Calls Tryz.prog 36 #[.pointer (some ⟨L,0,none⟩),.agg #[.int .i64 i,.int .i64 t]] w (zBa Bv base B d M R L Lr room (N+2) tt cc nn w (zlx room n c i t ss)):=by
 unfold zlx;by_cases hq:0≤i∧i≤1099511627776∧0≤t∧t≤1099511627776
 ·rw[if_pos hq];obtain⟨i',rfl⟩:∃ i':Nat,i=(i':Int):=⟨i.toNat,by omega⟩
  obtain⟨t',rfl⟩:∃ t':Nat,t=(t':Int):=⟨t.toNat,by omega⟩
  rw[Int.toNat_natCast,Int.toNat_natCast];exact h.lg (fun Av ep ec hs z hb=>(zxr z (by omega) i' t' (by omega) (by omega)).mono fun e w' ⟨h1,⟨ep',ec',hs',z'⟩,h3⟩=>⟨h1,⟨ep',ec',hs',z'.monoN (by omega) hN⟩,h3⟩)
 ·rw[if_neg hq];exact h.lg (fun Av ep ec hs z hb=>(zzt z i t (fun q=>hq ⟨q.1.1,q.1.2,q.2.1,q.2.2⟩)).mono fun e w' ⟨h1,⟨ep',ec',hs',z'⟩,h3⟩=>⟨h1,⟨ep',ec',hs',z'.monoN (by omega) hN⟩,h3⟩)
theorem zoy (h:TL Bv base w B d M R L Lr room N ss c n tt cc nn) (hc:zht 300 tt) (hr:zbf tt) (hn:nn+1<1099511627776) (hs:(zcc (walNm nn) tt).isSome=true) (i t:Int):Calls Tryz.prog 37 #[.pointer (some ⟨Lr,0,none⟩),.agg #[.int .i64 i,.int .i64 t]] w (zBb Bv base B d M R L Lr room N ss c n w (zlx room nn cc i t tt)):=by
 unfold zlx;by_cases hq:0≤i∧i≤1099511627776∧0≤t∧t≤1099511627776
 ·rw[if_pos hq];obtain⟨i',rfl⟩:∃ i':Nat,i=(i':Int):=⟨i.toNat,by omega⟩
  obtain⟨t',rfl⟩:∃ t':Nat,t=(t':Int):=⟨t.toNat,by omega⟩
  rw[Int.toNat_natCast,Int.toNat_natCast,← ztg hr hn hs];exact h.rg (fun Fv rl=>zvp rl hc hn i' t' (by omega) (by omega))
 ·rw[if_neg hq];exact h.rg (fun Fv rl=>zxy rl i t hq)
theorem zm (h:TL Bv base w B d M R L Lr room N ss c n tt cc nn) (hN:N+2≤1000000) (hix:Ix c) (i:Int) (hi:-9223372036854775808≤i∧i≤9223372036854775807):Calls Tryz.prog 34 #[.pointer (some ⟨L,0,none⟩),.int .i64 i] w (zBa Bv base B d M R L Lr room (N+2) tt cc nn w (zeo room n c i ss)) :=
 h.lg (fun Av ep ec hs z hb=>(zny z (by omega) hix i hi).mono fun e w' ⟨h1,⟨ep',ec',hs',z'⟩,h3⟩=>⟨h1,⟨ep',ec',hs',z'.monoN (by omega) hN⟩,h3⟩)
theorem zls (h:TL Bv base w B d M R L Lr room N ss c n tt cc nn) (hc:zht 300 tt) (hr:zbf tt) (hn:nn+1<1099511627776) (hs:(zcc (walNm nn) tt).isSome=true) (i:Int):Calls Tryz.prog 35 #[.pointer (some ⟨Lr,0,none⟩),.int .i64 i] w (zBb Bv base B d M R L Lr room N ss c n w (zeo room nn cc i tt)):=by
 rw[← zpg hr hn hs];exact h.rg (fun Fv rl=>zl5 rl hc hn i)
theorem zlt (h:TL Bv base w B d M R L Lr room N ss c n tt cc nn) (hN:N+2≤1000000):Calls Tryz.prog 18 #[.pointer (some ⟨L,0,none⟩)] w (zBa Bv base B d M R L Lr room (N+2) tt cc nn w ((zax (walNm n) ss).1,(zax (walNm n) ss).2,c,n)) :=
 h.lg (fun Av ep ec hs z hb=>(zii z).mono fun e w' ⟨h1,z',h3⟩=>⟨h1,⟨ep,ec,hs,z'.monoN (by omega) hN⟩,h3.sub (fun g hg=>.inl hg)⟩)
theorem zre (h:TL Bv base w B d M R L Lr room N ss c n tt cc nn):Calls Tryz.prog 33 #[.pointer (some ⟨Lr,0,none⟩)] w (zBb Bv base B d M R L Lr room N ss c n w ((zax (walNm nn) tt).1,(zax (walNm nn) tt).2,cc,nn)) :=
 h.rg (fun Fv rl=>zqu rl)
theorem zow (h:TL Bv base w B d M R L Lr room N ss c n tt cc nn) (hN:N+2≤1000000) (a:Option Addr) (m k:Nat) (es:List EntI) (hm:es.length=m) (hE:EntsIn (fun g=>g<base∨Bv g) w a es) (hl:c.es.length+m≤1000000):Calls Tryz.prog 29 #[.pointer (some ⟨L,0,none⟩),.slice a m k] w (zBa Bv base B d M R L Lr room (N+2) tt cc nn w (zev room n c es ss)) :=
 h.lg (fun Av ep ec hs z hb=>zjq z hN a m k es hm (hE.sub (fun g hg=>hg.imp id (hb g))) (by omega))
theorem zma (h:TL Bv base w B d M R L Lr room N ss c n tt cc nn) (hc:zht 300 tt) (hr:zbf tt) (hn:nn+1<1099511627776) (hs:(zcc (walNm nn) tt).isSome=true) (a:Option Addr) (m k:Nat) (es:List EntI) (hm:es.length=m) (hml:m≤100000) (hle:cc.es.length+m≤1000000) (hE:EntsIn (fun g=>g<base∨Bv g) w a es):Calls Tryz.prog 30 #[.pointer (some ⟨Lr,0,none⟩),.slice a m k] w (zBb Bv base B d M R L Lr room N ss c n w (zev room nn cc es tt)):=by
 obtain⟨Fv0,ep,ec,hs',z,rl0,h3⟩:=h.at_;rw[← zrp hr hn hs]
 exact h.rg (fun Fv rl=>zoe rl hc hn a m k es hm hml hle hE (fun g hg=>by
  rcases hg with hg|hg
  ·have h1:=h.lowR;have h2:=h.lowL;exact⟨by omega,by omega⟩
  ·exact(h3 g hg).2))
end
end
end Go.Proofs.YtofllbpfajppeaaGreatDoor
