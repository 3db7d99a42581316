/- The document's disk in memory. -/
import Derived.Test.YtofllbpfajppeaaGreatDoorB24
import Derived.Test.YtofllbpfajppeaaGreatDoorB07
import Derived.Sort.Walk0
set_option linter.unusedVariables false
set_option maxRecDepth 20000
set_option maxHeartbeats 16000000
namespace Go.Proofs.YtofllbpfajppeaaGreatDoor
section
open Go.ChangeShapes Go.WideShapes Go.ChangeAt Go.RowKit Go.Maps
def zv9 (u:Un):List Value:=[.bool u.1,.int .i64 (u.2.1:Int),.int .u8 (u.2.2:Int)]
def zBz (us:List Un):List Value:=us.flatMap zv9
theorem zjz (us:List Un):(zBz us).length=us.length*3:=by
 induction us with
 |nil=>rfl
 |cons x xs ih=>simp only[zBz,List.flatMap_cons,List.length_append,List.length_cons,zv9,List.length_nil] at ih ⊢;omega
theorem zt0 {α:Type} (f:α→List Value) (n:Nat) (hf:∀ x,(f x).length=n):∀ (xs:List α) (i k:Nat) (hi:i<xs.length) (_:k<n),(xs.flatMap f)[i*n+k]? = (f xs[i])[k]?
 |[],i,_,hi,_=>by simp at hi
 |x::xs,0,k,_,hk=>by
  simp only[List.flatMap_cons,Nat.zero_mul,Nat.zero_add,List.getElem_cons_zero];rw[List.getElem?_append_left (by rw[hf];exact hk)]
 |x::xs,i+1,k,hi,hk=>by
  have ih:=zt0 f n hf xs i k (by simpa using hi) hk;simp only[List.flatMap_cons,List.getElem_cons_succ];rw[List.getElem?_append_right (by rw[hf,Nat.succ_mul];omega),hf];rw[show(i+1)*n+k - n=i*n+k by rw[Nat.succ_mul];omega];exact ih
theorem ztn {base:Nat} {w:World} {T:TypeId} {n:Nat} {sp:Option Addr} {c m:Nat} {α:Type} (f:α→List Value) (hf:∀ x,(f x).length=n) {xs:List α} (hm:xs.length=m) (h:w.ownsRow base T n (.slice sp m c) m (xs.flatMap f)) (i:Nat) (hi:i<xs.length) :
  ∃ g,sp=some ⟨g,0,none⟩∧∀ k v,(f xs[i])[k]? = some v→w.cell? ⟨g,i*n+k,none⟩=some v:=by
 subst hm;rcases h.2 with⟨_,h0⟩|⟨g,cap,cur,hv,_,hg,_,_,_,ht⟩
 ·omega
 ·simp only[Value.slice.injEq] at hv;obtain⟨rfl,_,_⟩:=hv;refine⟨g,rfl,fun k v hv=>?_⟩;have hk:k<n:=by rw[← hf xs[i]];exact(List.getElem?_eq_some_iff.1 hv).1
  rw[cell_of_row w g _ cur _ _ hg];have e:=zt0 f n hf xs i k hi hk;have hlt:i*n+k<xs.length*n:=by
   have h1:i+1≤xs.length:=hi;have h2:(i+1)*n≤xs.length*n:=Nat.mul_le_mul_right n h1;rw[Nat.succ_mul] at h2;omega
  rw[← ht,List.getElem?_take,if_pos hlt,hv] at e
  simpa using e
theorem zb9 {base:Nat} {w:World} {T:TypeId} {n m:Nat} {sp:Option Addr} {c:Nat} {l:List Value} (h:w.ownsRow base T n (.slice sp m c) m l):∀ g,blk sp=some g→base≤g∧g<w.heap.size∧∃ cur:Array Value,w.heap[g]? = some (.cells cur T (0,0)):=by
 intro g hg;rcases h.2 with⟨hv,_⟩|⟨g1,cap,cur,hv,hb,hh,_⟩
 ·simp only[Value.slice.injEq] at hv;rw[hv.1] at hg;cases hg
 ·simp only[Value.slice.injEq] at hv;rw[hv.1] at hg;obtain rfl:g1=g:=by simpa [blk] using hg
  exact⟨hb,(Array.getElem?_eq_some_iff.1 hh).1,_,hh⟩
theorem zck {base:Nat} {w w':World} {T:TypeId} {n m:Nat} {sp:Option Addr} {c:Nat} {l:List Value} (h:w.ownsRow base T n (.slice sp m c) m l) (hs:∀ g,blk sp=some g→w'.heap[g]? = w.heap[g]?):w'.ownsRow base T n (.slice sp m c) m l:=by
 refine⟨h.1,?_⟩;rcases h.2 with hv|⟨g,cap,cur,hv,hb,hg,r⟩
 ·exact .inl hv
 ·refine .inr ⟨g,cap,cur,hv,hb,(hs g ?_).trans hg,r⟩;simp only[Value.slice.injEq] at hv;rw[hv.1];rfl
theorem zhn {base base':Nat} {w:World} {T:TypeId} {n m:Nat} {sp:Option Addr} {c:Nat} {l:List Value} (h:w.ownsRow base T n (.slice sp m c) m l) (hb:base'≤base):w.ownsRow base' T n (.slice sp m c) m l:=⟨h.1,h.2.imp id (fun ⟨g,cap,cur,h1,h2,h3⟩=>⟨g,cap,cur,h1,Nat.le_trans hb h2,h3⟩)⟩
def zgq (base:Nat) (w:World) (sp:Option Addr) (c:Nat) (us:List Un):Prop:=w.ownsRow base 150 3 (.slice sp us.length c) us.length (us.flatMap zv9)
structure RV where
 s:Sp
 yp:Option Addr
 yc:Nat
 up:Option Addr
 uc:Nat
abbrev Rf:=Nm×RV
def zsh (x:Rf):List Value:=[.string (str x.1),.bool x.2.s.la,.slice x.2.yp x.2.s.y.length x.2.yc,.slice x.2.up x.2.s.us.length x.2.uc]
def zhv (x:Rf):Value:=.agg #[.string (str x.1),.bool x.2.s.la,.slice x.2.yp x.2.s.y.length x.2.yc,.slice x.2.up x.2.s.us.length x.2.uc]
def zba (x:Rf):Obj:=.cells #[.string (str x.1),.bool x.2.s.la,.slice x.2.yp x.2.s.y.length x.2.yc,.slice x.2.up x.2.s.us.length x.2.uc] 116
def Rf.foot (x:Rf) (g:Nat):Prop:=blk x.2.yp=some g∨blk x.2.up=some g
structure RfAt (base:Nat) (w:World) (x:Rf):Prop where
 ok:SOk x.2.s
 sure:Bx base w x.2.yp x.2.yc x.2.s.y
 units:zgq base w x.2.up x.2.uc x.2.s.us
 few:x.2.s.us.length≤100000000
structure OwnR (base:Nat) (w:World) (sp:Option Addr) (c:Nat) (rs:List Rf):Prop where
 row:w.ownsRow base 116 4 (.slice sp rs.length c) rs.length (rs.flatMap zsh)
 dat:∀ x∈rs,RfAt base w x
def zew (sp:Option Addr) (rs:List Rf) (g:Nat):Prop:=blk sp=some g∨∃ x∈rs,x.foot g
section
variable {base:Nat} {w w':World} {sp:Option Addr} {c:Nat} {rs:List Rf} {x:Rf}
theorem RfAt.lt (h:RfAt base w x) {g:Nat} (hg:x.foot g):base≤g∧g<w.heap.size:=by
 rcases hg with hg|hg
 ·exact⟨(h.sure.isT g hg).1,(h.sure.isT g hg).2.1⟩
 ·exact⟨(zb9 h.units g hg).1,(zb9 h.units g hg).2.1⟩
theorem RfAt.same (h:RfAt base w x) (hs:∀ g,x.foot g→w'.heap[g]? = w.heap[g]?):RfAt base w' x:=⟨h.ok,h.sure.same (fun g hg=>hs g (.inl hg)),zck h.units (fun g hg=>hs g (.inr hg)),h.few⟩
theorem RfAt.later (h:RfAt base w x) (hb:Below w.heap.size w w'):RfAt base w' x:=h.same (fun g hg=>hb.block g (h.lt hg).2)
theorem OwnR.lt (h:OwnR base w sp c rs) {g:Nat} (hg:zew sp rs g):base≤g∧g<w.heap.size:=by
 rcases hg with hg|⟨x,hx,hg⟩
 ·exact⟨(zb9 h.row g hg).1,(zb9 h.row g hg).2.1⟩
 ·exact(h.dat x hx).lt hg
theorem OwnR.same (h:OwnR base w sp c rs) (hs:∀ g,zew sp rs g→w'.heap[g]? = w.heap[g]?):OwnR base w' sp c rs:=⟨zck h.row (fun g hg=>hs g (.inl hg)),fun x hx=>(h.dat x hx).same (fun g hg=>hs g (.inr ⟨x,hx,hg⟩))⟩
theorem OwnR.later (h:OwnR base w sp c rs) (hb:Below w.heap.size w w'):OwnR base w' sp c rs:=h.same (fun g hg=>hb.block g (h.lt hg).2)
theorem zqn (x:Rf):(zsh x).length=4:=rfl
theorem OwnR.cells (h:OwnR base w sp c rs) (i:Nat) (hi:i<rs.length):∃ g,sp=some ⟨g,0,none⟩∧w.cell? ⟨g,i*4,none⟩=some (.string (str rs[i].1))∧w.cell? ⟨g,i*4+1,none⟩=some (.bool rs[i].2.s.la)∧w.cell? ⟨g,i*4+2,none⟩=some (.slice rs[i].2.yp rs[i].2.s.y.length rs[i].2.yc)∧w.cell? ⟨g,i*4+3,none⟩=some (.slice rs[i].2.up rs[i].2.s.us.length rs[i].2.uc):=by
 obtain⟨g,hg,hc⟩:=ztn zsh zqn rfl h.row i hi;exact⟨g,hg,hc 0 _ rfl,hc 1 _ rfl,hc 2 _ rfl,hc 3 _ rfl⟩
theorem zgq.cells {us:List Un} (h:zgq base w sp c us) (i:Nat) (hi:i<us.length):∃ g,sp=some ⟨g,0,none⟩∧w.cell? ⟨g,i*3,none⟩=some (.bool us[i].1)∧w.cell? ⟨g,i*3+1,none⟩=some (.int .i64 (us[i].2.1:Int))∧w.cell? ⟨g,i*3+2,none⟩=some (.int .u8 (us[i].2.2:Int)):=by
 obtain⟨g,hg,hc⟩:=ztn zv9 (fun _=>rfl) rfl h i hi;exact⟨g,hg,hc 0 _ rfl,hc 1 _ rfl,hc 2 _ rfl⟩
end
theorem zm3 (base:Nat) (w:World) (x:Rf) (h:RfAt base w x) (k:Int) :
  Calls Tryz.prog 78 #[zhv x,.int .i64 k] w fun e w'=>∃ sp n c,e=.returned (.slice sp n c)∧(zci x.2.s.us x.2.s.y k.toNat).length=n∧Bx w.heap.size w' sp c (zci x.2.s.us x.2.s.y k.toNat)∧Below w.heap.size w w':=by
 obtain⟨nm,s,yp,yc,up,uc⟩:=x;show Calls _ _ _ _ fun e w'=>∃ sp n c,e=.returned (.slice sp n c)∧(zci s.us s.y k.toNat).length=n∧Bx w.heap.size w' sp c (zci s.us s.y k.toNat)∧Below w.heap.size w w'
 have b1:Below w.heap.size w (w.alloc (zba (nm,⟨s,yp,yc,up,uc⟩))):=(Below.refl _ _).alloc (Nat.le_refl _) _;have B1:=zaa b1;have X1:=zaa (zad w (zba (nm,⟨s,yp,yc,up,uc⟩)));have hs1:(w.alloc (zba (nm,⟨s,yp,yc,up,uc⟩))).heap.size=w.heap.size+1:=by simp
 have A2:=zaa (show Below (w.alloc (zba (nm,⟨s,yp,yc,up,uc⟩))).heap.size (w.alloc (zba (nm,⟨s,yp,yc,up,uc⟩))) ((w.alloc (zba (nm,⟨s,yp,yc,up,uc⟩))).alloc (.cells #[] 5)) from(Below.refl _ _).alloc (Nat.le_refl _) _);have O2:=zaa ((OwnB.empty (w.alloc (zba (nm,⟨s,yp,yc,up,uc⟩))) (w.alloc (zba (nm,⟨s,yp,yc,up,uc⟩))).heap.size (Nat.le_refl _)).toBx);have HY:=zaa (((h.sure.later b1).later (za A2)).bytes);have HZ:=zaa h.sure.nil0;have h8:=h.ok.y8;have H:=zaa h;have hun:=h.few
 have XC:=zaa (show ∀ W:World,Below (w.alloc (zba (nm,⟨s,yp,yc,up,uc⟩))).heap.size (w.alloc (zba (nm,⟨s,yp,yc,up,uc⟩))) W→W.cell? ⟨w.heap.size,3,none⟩=some (.slice up s.us.length uc)∧W.cell? ⟨w.heap.size,2,none⟩=some (.slice yp s.y.length yc) from fun W b=>by
  rw[Below.cell b (p:=⟨w.heap.size,3,none⟩) (by simp),Below.cell b (p:=⟨w.heap.size,2,none⟩) (by simp)]
  exact⟨zan (za X1) 3 _ rfl,zan (za X1) 2 _ rfl⟩)
 obtain⟨_,c2⟩:=za XC _ (za A2);unfold zhv;rw[hs1] at O2;unfold zba at B1 X1 A2 O2 HY XC c2;clear h b1 hs1;generalize hny:s.y.length=ny at *;generalize hnu:s.us.length=nu at *;have HNY:=zaa hny;have HNU:=zaa hnu;clear hny hnu;go_enter Tryz.func78,Tryz.ntmps78
 go_wp2_with (at_builtin;refine zeb rfl (.tmp 8) (.tmp 10) rfl (w.heap.size+1) (some ⟨w.heap.size+1,0,none⟩) 0 0 [] rfl rfl (by exact za O2) yp ny yc rfl s.y (za HNY) (by exact za HY) (za HZ) (by simp;omega) (by simp) ?_;intro sp3 n3 c3 W3 hn3 hX3 hG3;refine za ?_)
 refine zaa ?_;rw[List.nil_append] at hn3 hX3;have hsz:(w.alloc (.cells #[.string (str nm),.bool s.la,.slice yp ny yc,.slice up nu uc] 116)).heap.size=w.heap.size+1:=by simp
 rw[hsz] at A2 XC;generalize w.alloc (.cells #[.string (str nm),.bool s.la,.slice yp ny yc,.slice up nu uc] 116)=V1 at *;have B3:=zaa (show Below (w.heap.size+1) V1 W3 from(za A2).grown hG3.grown (by have:=(za A2).size;omega) (fun g hg=>by simp[blk] at hg;omega));have X3:=zaa hX3;clear hX3 hG3 O2 HY X1 c2 A2
 go_wp2_with fail
 go_loopw [5,6] (fun v i wr=>∃ (j n:Nat) (sp:Option Addr) (c:Nat),j≤nu∧j≤k.toNat∧v=.slice sp n c∧i=.int .i64 (j:Int)∧Hid ((zci s.us s.y j).length=n)∧Hid (Bx (w.heap.size+1) wr sp c (zci s.us s.y j))∧Hid (Below (w.heap.size+1) V1 wr)) (fun _ i _=>nu - (intOf i).toNat)
 case atStart=>exact⟨0,n3,sp3,c3,by omega,by omega,rfl,rfl,by rw[zm2];exact hn3,X3,B3⟩
 case round =>
  obtain⟨j,n,sp,c,hj,hjk,rfl,rfl,HL,HX,HB⟩:=hrel;obtain⟨e3,_⟩:=za XC wr (za HB);have BW:=zaa ((za B1).trans ((za HB).mono (by omega)));by_cases hcd:j<nu∧(j:Int)<k
  ·obtain⟨h1,h2⟩:=hcd;have y1:(j:Int)<(nu:Int):=by omega
   have y0:(0:Int)≤(j:Int):=by omega
   have hju:j<s.us.length:=by rw[za HNU];exact h1
   obtain⟨ug,hug,p0,p1,p2⟩:=zgq.cells ((za H).later (za BW)).units j hju;simp only at hug;subst hug;simp only at p0 p1 p2;have n8:n≤262144:=by rw[← za HL];exact(za H).ok.len j
   have MS:=zaa (zm1 s.us s.y j hju);have CU:=zaa ((za H).ok.cut j hju);have hy:=(za H).ok.byte j hju;generalize s.us[j]=u at *;obtain⟨cut,z,cc⟩:=u;simp only at p0 p1 p2 hy;have AU:=zaa (show Below wr.heap.size wr (wr.alloc (.cells #[.bool cut,.int .i64 (z:Int),.int .u8 (cc:Int)] 150)) from(Below.refl _ _).alloc (Nat.le_refl _) _);have XU:=zaa ((za HX).later (za AU));have BU:=zaa ((za HB).trans ((za AU).mono (by have:=(za HB).size;omega)));cases cut with
   |true =>
    have hzl:z≤n:=by rw[← za HL];exact za CU rfl
    have hs8:=zfm sp n c z (Nat.le_trans hzl (by have:=(za HX).cap.1;rw[za HL] at this;exact this));rw[(za HX).slp0] at hs8;have M2:=zaa (show zci s.us s.y (j+1)=(zci s.us s.y j).take z by rw[za MS];rfl)
    have X2:=zaa (show Bx (w.heap.size+1) (wr.alloc (.cells #[.bool true,.int .i64 (z:Int),.int .u8 (cc:Int)] 150)) sp c (zci s.us s.y (j+1)) by
     rw[za M2];have hcap:=(za XU).cap.1
     exact(za XU).cut z c (by rw[za HL];exact hzl) (by rw[za HL] at hcap;omega) (Nat.le_refl _))
    have L2:=zaa (show(zci s.us s.y (j+1)).length=z by rw[za M2,List.length_take,za HL];omega)
    go_wp2
    exact⟨⟨j+1,z,sp,c,by omega,by omega,rfl,by go_num,za L2,za X2,za BU⟩,by simp[intOf];omega⟩
   |false =>
    by_cases hin:z<n
    ·have hin2:(z:Int)<(n:Int):=by omega
     have hz0:(0:Int)≤(z:Int):=by omega
     obtain⟨g,rfl,hbg,q0,q1,q2,q3⟩:=(za XU).set z (by rw[za HL];exact hin) cc hy
     have M2:=zaa (show zci s.us s.y (j+1)=(zci s.us s.y j).set z cc by
      rw[za MS];simp only[zvz,Bool.false_eq_true,if_false];rw[if_pos (by rw[za HL];exact hin)])
     rw[← za M2] at q2;have X2:=zaa q2;have L2:=zaa (show(zci s.us s.y (j+1)).length=n by rw[za M2,List.length_set];exact za HL);have B2:=zaa ((za BU).grown q3 (by have:=(za BU).size;have:=(za B1).size;omega) (fun g' hg'=>by have:=Option.some.inj hg';omega));clear q2 q3
     go_wp2
     exact⟨⟨j+1,n,some ⟨g,0,none⟩,c,by omega,by omega,rfl,by go_num,za L2,za X2,za B2⟩,by simp[intOf];omega⟩
    ·have hin2:¬ (z:Int)<(n:Int):=by omega
     have M2:=zaa (show zci s.us s.y (j+1)=zci s.us s.y j++[cc] by
      rw[za MS];simp only[zvz,Bool.false_eq_true,if_false];rw[if_neg (by rw[za HL];exact hin)])
     have hsU:(wr.alloc (.cells #[.bool false,.int .i64 (z:Int),.int .u8 (cc:Int)] 150)).heap.size=wr.heap.size+1:=by simp
     have AV:=zaa (show Below (wr.alloc (.cells #[.bool false,.int .i64 (z:Int),.int .u8 (cc:Int)] 150)).heap.size (wr.alloc (.cells #[.bool false,.int .i64 (z:Int),.int .u8 (cc:Int)] 150)) ((wr.alloc (.cells #[.bool false,.int .i64 (z:Int),.int .u8 (cc:Int)] 150)).alloc (.cells #[.int .u8 (cc:Int)] 5)) from(Below.refl _ _).alloc (Nat.le_refl _) _);have YV:=zaa (zw8 (wr.alloc (.cells #[.bool false,.int .i64 (z:Int),.int .u8 (cc:Int)] 150)) [cc] (0,0) (by simpa using hy));rw[hsU] at YV;have XV:=zaa ((za XU).later (za AV));have BV:=zaa ((za BU).trans ((za AV).mono (by have:=(za BU).size;have:=(za HB).size;omega)));have hV1:w.heap.size+1≤V1.heap.size:=by omega
     go_wp2_with (at_builtin;refine zeb rfl (.tmp 29) (.tmp 32) rfl (w.heap.size+1) sp n c (zci s.us s.y j) rfl (za HL) (by exact za XV) (some ⟨wr.heap.size+1,0,none⟩) 1 1 rfl [cc] rfl (by exact za YV) (by simp) (by rw[za HL];omega) (by exact Nat.le_trans hV1 (za BV).size) ?_;intro sp7 n7 c7 V7 hn7 hX7 hG7;refine za ?_)
     refine zaa ?_;rw[← za M2] at hn7 hX7;have X7:=zaa hX7;have B7:=zaa (show Below (w.heap.size+1) V1 V7 from(za BV).grown hG7.grown (by have:=(za BV).size;omega) (fun g' hg'=>((za HX).isT g' hg').1));clear hX7 hG7
     go_wp2
     exact⟨⟨j+1,n7,sp7,c7,by omega,by omega,rfl,by go_num,za hn7,za X7,za B7⟩,by simp[intOf];omega⟩
  ·have EQ:=zaa (show zci s.us s.y j=zci s.us s.y k.toNat by
    by_cases h1:j<nu
    ·rw[show j=k.toNat by omega]
    ·rw[zku _ _ _ (show s.us.length≤k.toNat by rw[za HNU];omega)]
     rw[zku _ _ j (by rw[za HNU];omega)])
   rcases(show ¬ j<nu∨(j<nu∧¬ (j:Int)<k) by omega) with q|⟨q,q'⟩
   ·have y1:¬ (j:Int)<(nu:Int):=by omega
    go_wp2
    go_ret
    exact⟨sp,n,c,rfl,by rw[← za EQ];exact za HL,by rw[← za EQ];exact(za HX).mono (by omega),za BW⟩
   ·have y1:(j:Int)<(nu:Int):=by omega
    go_wp2
    go_ret
    exact⟨sp,n,c,rfl,by rw[← za EQ];exact za HL,by rw[← za EQ];exact(za HX).mono (by omega),za BW⟩
theorem zf2 (base:Nat) (w:World) (x:Rf) (h:RfAt base w x) :
  Calls Tryz.prog 84 #[zhv x] w fun e w'=>∃ sp n c,e=.returned (.slice sp n c)∧x.2.s.now.length=n∧n≤262144∧Bx w.heap.size w' sp c x.2.s.now∧Below w.heap.size w w':=by
 have b1:Below w.heap.size w (w.alloc (zba x)):=(Below.refl _ _).alloc (Nat.le_refl _) _;have B1:=zaa b1;have MC:=zaa (zm3 base (w.alloc (zba x)) x (h.later b1) (x.2.s.us.length:Int));have c0:=zan (zad w (zba x)) 0 _ rfl;have c1:=zan (zad w (zba x)) 1 _ rfl;have c2:=zan (zad w (zba x)) 2 _ rfl;have c3:=zan (zad w (zba x)) 3 _ rfl;have HO:=zaa h.ok;unfold zhv at *;unfold zba at *;clear h b1;generalize hnu:x.2.s.us.length=nu at *;have HNU:=zaa hnu;clear hnu;go_enter Tryz.func84,Tryz.ntmps84
 go_wp2_with (go_at_call 78;refine(za MC).mono ?_;rintro e W ⟨sp,n,c,rfl,hn,hX,hb⟩;have X:=zaa hX;have N:=zaa hn;have B:=zaa hb;clear hX hn hb)
 go_ret
 have e1:zci x.2.s.us x.2.s.y ((nu:Int)).toNat=x.2.s.now:=by
  rw[Int.toNat_natCast,← za HNU];exact(za HO).now
 have hN:=za N;have hX:=za X;have h8:=(za HO).len ((nu:Int)).toNat;rw[e1] at hN hX h8;exact⟨sp,n,c,rfl,hN,by omega,hX.mono (za B1).size,(za B1).trans ((za B).mono (za B1).size)⟩
theorem zvj (x:Rf):∀ u∈zsh x,u.oneCell'=true:=by
 intro u hu;simp only[zsh,List.mem_cons,List.not_mem_nil,or_false] at hu;rcases hu with rfl|rfl|rfl|rfl <;> rfl
theorem infoR:(Tryz.prog.info? 116).map (fun i=>(i.zero,i.size,i.bytes))=some (some (.agg #[.string ByteArray.empty,.bool false,.slice none 0 0,.slice none 0 0]),4,72):=by kernel_rfl
section
variable {base:Nat} {w w':World} {sp:Option Addr} {c:Nat} {rs:List Rf}
theorem OwnR.empty (w:World) (base:Nat) (hb:base≤w.heap.size):OwnR base (w.alloc (.cells #[] 116)) (some ⟨w.heap.size,0,none⟩) 0 [] :=
 ⟨⟨rfl,.inr ⟨w.heap.size,0,#[],rfl,hb,zad w _,Nat.le_refl _,by simp[maxLen],rfl,rfl⟩⟩,by simp⟩
theorem zlf (hown:OwnR base w sp c rs) (B:Nat) (x:Rf) (hB:w.heap[B]? = some (zba x)) (hd:RfAt base w x) (hn:(rs.length+1)*72≤140737488355328) (hbase:base≤w.heap.size) (ty:TypeId) :
  ∃ sp' c' w',(Builtin.append_ #[99,99] ty #[.slice sp rs.length c,.slice (some ⟨B,0,none⟩) 1 1]).run Tryz.prog w=.ok (.slice sp' (rs.length+1) c') w'∧OwnR base w' sp' c' (rs++[x])∧Grew w sp w' sp':=by
 obtain⟨i0,hi,hz0,hz1,hz2⟩:=info_parts infoR;obtain⟨v',w',hrun,h1,h2,_,h5⟩:=run_append_own_at (P:=Tryz.prog) w base 99 ty 116 i0 _ 4 72 Tryz.underlying99 hi hz0 hz1 hz2 rfl (by omega) _ _ _ hown.row ⟨B,0,none⟩ 1 1 (zsh x) rfl
  (fun j u hu=>by have:=World.news_of_block (show w.heap[B]? = some (.cells (zsh x).toArray 116 (0,0)) from hB) j u;simp only at this;exact this hu) (zvj x) (by simp only[maxLen];omega) (by omega) hbase
 have hv:∃ sp' c',v'=.slice sp' (rs.length+1) c':=by
  rcases h1.2 with⟨hv,h0⟩|⟨g,cap,cur,hv,_⟩
  ·omega
  ·exact⟨_,_,hv⟩
 obtain⟨sp',c',rfl⟩:=hv;rw[zal] at h2;rw[zal,zal] at h5
 have hkeep:∀ y,RfAt base w y→RfAt base w' y:=fun y hy=>hy.same (fun g hg=>h2.block g (hy.lt hg).2 (fun e=>by
  obtain⟨_,_,cur,hc⟩:=zb9 hown.row g e.symm;rcases hg with hg|hg
  ·obtain⟨_,_,cur2,hc2⟩:=hy.sure.isT g hg;rw[hc] at hc2;simp at hc2
  ·obtain⟨_,_,cur2,hc2⟩:=zb9 hy.units g hg
   rw[hc] at hc2;simp at hc2))
 refine⟨sp',c',w',hrun,⟨?_,fun y hy=>?_⟩,⟨h2,fun g hg=>?_⟩⟩
 ·rw[List.flatMap_append,List.length_append]
  simpa using h1
 ·rcases List.mem_append.1 hy with hy|hy
  ·exact hkeep y (hown.dat y hy)
  ·obtain rfl:y=x:=by simpa using hy
   exact hkeep y hd
 ·rcases h5 with h5|h5
  ·exact .inl (h5.symm.trans hg)
  ·rw[h5] at hg;exact .inr (Nat.le_of_eq (Option.some.inj hg))
end
theorem zco {w:World} {ops:Array Oper} {rest:List Oper} {o:Oper} {a:Act} {Q:Exit→Act→World→Prop} (hgd:o.guard=none) (s x:Operand)
  (ho:o.op=.call { callee:=.builtin .append,args:=#[s,x],argTypes:=#[99,99] })
  (base:Nat) (sp:Option Addr) (n c:Nat) (rs:List Rf) (hs:a.eval s=.slice sp n c) (hn:rs.length=n) (hown:OwnR base w sp c rs) (B:Nat) (t:Rf) (hx:a.eval x=.slice (some ⟨B,0,none⟩) 1 1)
  (hB:w.heap[B]? = some (zba t)) (hd:RfAt base w t) (hsz:(n+1)*72≤140737488355328) (hbase:base≤w.heap.size)
  (hk:∀ sp' c' w',OwnR base w' sp' c' (rs++[t])→Grew w sp w' sp'→wpList Tryz.prog ops Q rest (a.put o.dst (.slice sp' (n+1) c')) w') :
  wpList Tryz.prog ops Q (o::rest) a w:=by
 subst hn;refine wpList_plain hgd fun K hK=>?_;obtain⟨sp',c',w',hrun,h1,h2⟩:=zlf hown B t hB hd hsz hbase o.type;unfold Oper.wp;simp[execOp,ho,resolve,invoke,builtin,hs,hx,hrun,Result.andThen];exact hK _ _ (hk sp' c' w' h1 h2)
theorem zfo {w:World} {ops:Array Oper} {o:Oper} {a:Act} {K:Act→World→Prop} {Q:Exit→Act→World→Prop} {E:Prop} (hgd:o.guard=none) (s x:Operand)
  (ho:o.op=.call { callee:=.builtin .append,args:=#[s,x],argTypes:=#[99,99] })
  (base:Nat) (sp:Option Addr) (n c:Nat) (rs:List Rf) (hs:a.eval s=.slice sp n c) (hn:rs.length=n) (hown:OwnR base w sp c rs) (B:Nat) (t:Rf) (hx:a.eval x=.slice (some ⟨B,0,none⟩) 1 1)
  (hB:w.heap[B]? = some (zba t)) (hd:RfAt base w t) (hsz:(n+1)*72≤140737488355328) (hbase:base≤w.heap.size)
  (hk:∀ sp' c' w',OwnR base w' sp' c' (rs++[t])→Grew w sp w' sp'→K (a.put o.dst (.slice sp' (n+1) c')) w') :
  if Region.wanted o (yielded ops a.tmps)=true then Oper.wp Tryz.prog o a w K Q else E:=by
 subst hn;have hw:Region.wanted o (yielded ops a.tmps)=true:=by simp[Region.wanted,hgd]
 rw[if_pos hw];obtain⟨sp',c',w',hrun,h1,h2⟩:=zlf hown B t hB hd hsz hbase o.type;unfold Oper.wp;simp[execOp,ho,resolve,invoke,builtin,hs,hx,hrun,Result.andThen];exact hk sp' c' w' h1 h2
structure RefAt (base:Nat) (w:World) (R room:Nat) (sp:Option Addr) (c:Nat) (rs:List Rf):Prop where
 box:w.heap[R]? = some (.cells #[.int .i64 (room:Int),.slice sp rs.length c] 101 (0,0))
 own:OwnR base w sp c rs
 low:base≤R
 rise:zbf rs
 few:rs.length≤16
section
variable {base R room:Nat} {w w':World} {sp:Option Addr} {c:Nat} {rs:List Rf}
theorem RefAt.ltR (h:RefAt base w R room sp c rs):R<w.heap.size:=(Array.getElem?_eq_some_iff.1 h.box).1
theorem RefAt.c0 (h:RefAt base w R room sp c rs):w.cell? ⟨R,0,none⟩=some (.int .i64 (room:Int)):=zan h.box 0 _ rfl
theorem RefAt.c1 (h:RefAt base w R room sp c rs):w.cell? ⟨R,1,none⟩=some (.slice sp rs.length c):=zan h.box 1 _ rfl
theorem RefAt.z1 (h:RefAt base w R room sp c rs):w.frozen? ⟨R,1,none⟩=false:=zio h.box 1
theorem RefAt.same (h:RefAt base w R room sp c rs) (hR:w'.heap[R]? = w.heap[R]?) (hs:∀ g,zew sp rs g→w'.heap[g]? = w.heap[g]?):RefAt base w' R room sp c rs:=⟨hR.trans h.box,h.own.same hs,h.low,h.rise,h.few⟩
theorem RefAt.later (h:RefAt base w R room sp c rs) (hb:Below w.heap.size w w'):RefAt base w' R room sp c rs:=⟨(hb.block R h.ltR).trans h.box,h.own.later hb,h.low,h.rise,h.few⟩
theorem RefAt.drew (h:RefAt base w R room sp c rs):RefAt base w.drew R room sp c rs:=h.same rfl (fun _ _=>rfl)
theorem RefAt.set (h:RefAt base w R room sp c rs) (sp':Option Addr) (c':Nat) (rs':List Rf) (ho:OwnR base w sp' c' rs') (hr:zbf rs') (hf:rs'.length≤16):RefAt base (w.setCell ⟨R,1,none⟩ (.slice sp' rs'.length c')) R room sp' c' rs':=by
 refine⟨?_,ho.same (fun g hg=>heap_setCell_other _ ⟨R,1,none⟩ g _ (fun e=>?_)),h.low,hr,hf⟩
 ·rw[heap_setCell_same w R 1 _ 101 _ h.box];rfl
 ·have e2:g=R:=e;rw[e2] at hg;rcases hg with hg|⟨x,hx,hg|hg⟩
  ·obtain⟨_,_,cur,hc⟩:=zb9 ho.row R hg;rw[h.box] at hc;simp at hc
  ·obtain⟨_,_,cur,hc⟩:=(ho.dat x hx).sure.isT R hg;rw[h.box] at hc;simp at hc
  ·obtain⟨_,_,cur,hc⟩:=zb9 (ho.dat x hx).units R hg;rw[h.box] at hc;simp at hc
def zro (rs:List Rf) (k:Nm) (e:Ending):Prop:=(∃ i,∃ hi:i<rs.length,rs[i].1=k∧e=.returned (.int .i64 (i:Int)))∨(k ∉ rs.map (·.1)∧e=.returned (.int .i64 (-1)))
theorem zcx (h:RefAt base w R room sp c rs) (s:ByteArray) :
  Calls Tryz.prog 83 #[.pointer (some ⟨R,0,none⟩),.string s] w fun e w'=>w'=w∧zro rs s.data.toList e:=by
 have c1:=h.c1;have H:=zaa h;have h16:=h.few;clear h;obtain⟨n,hn⟩:∃ n,rs.length=n:=⟨_,rfl⟩
 rw[hn] at c1 h16;have HN:=zaa hn;clear hn;go_enter Tryz.func83,Tryz.ntmps83
 go_wp2_with fail
 go_loopw [5] (fun i wr=>∃ j:Nat,j≤n∧i=.int .i64 (j:Int)∧Hid (s.data.toList ∉ (rs.take j).map (·.1))∧Hid (wr=w)) (fun i _=>n - (intOf i).toNat)
 case atStart=>exact⟨0,by omega,rfl,zaa (by simp),zaa rfl⟩
 case round =>
  obtain⟨j,hj,rfl,HM,HW⟩:=hrel;have hW:=za HW;subst hW;by_cases hjn:j<n
  ·have y1:(j:Int)<(n:Int):=by omega
   have y0:(0:Int)≤(j:Int):=by omega
   have hjr:j<rs.length:=by rw[za HN];exact hjn
   obtain⟨g,rfl,p0,_⟩:=(za H).own.cells j hjr;by_cases he:rs[j].1=s.data.toList
   ·have E1:=zaa he;rw[he,show str s.data.toList=s from by cases s;simp[str]] at p0;clear he
    go_wp2
    go_ret
    exact⟨rfl,.inl ⟨j,hjr,za E1,rfl⟩⟩
   ·have hne:((str rs[j].1).toList==s.toList)=false:=by
     rw[ByteArray.toList_eq,ByteArray.toList_eq,zam];simpa using he
    have M2:=zaa (show s.data.toList ∉ (rs.take (j+1)).map (·.1) by
     rw[List.take_succ_eq_append_getElem hjr,List.map_append,List.mem_append,not_or]
     exact⟨za HM,by simpa using fun e=>he e.symm⟩)
    clear he;generalize rs[j].1=t at *
    go_wp2
    exact⟨⟨j+1,by omega,by go_num,za M2,by first|exact zaa trivial|exact zaa rfl⟩,by simp[intOf];omega⟩
  ·have y1:¬ (j:Int)<(n:Int):=by omega
   have M2:=zaa (show s.data.toList ∉ rs.map (·.1) by
    have:=za HM;rw[List.take_of_length_le (by rw[za HN];omega)] at this
    exact this)
   go_wp2
   go_ret
   exact⟨rfl,.inr ⟨za M2,rfl⟩⟩
end
theorem zod {α:Type} {k:Nm} {v:α} : ∀ (p r:List (Nm×α)),(∀ y∈p,y.1<k)→zbi k v (p++r)=p++zbi k v r
 |[],_,_=>rfl
 |x::p,r,h=>by
  have e:zbi k v (x::(p++r))=if x.1<k then x::zbi k v (p++r) else if x.1=k then (k,v)::(p++r) else (k,v)::x::(p++r):=rfl
  show zbi k v (x::(p++r))=_
  rw[e,if_pos (h x List.mem_cons_self),zod p r (fun y hy=>h y (List.mem_cons_of_mem _ hy))];rfl
theorem zqa {α:Type} {k:Nm} {v:α} (z:Nm×α):∀ (p:List (Nm×α)),zbf (p++[z])→(∃ y∈p,¬ y.1<k)→zbi k v (p++[z])=zbi k v p++[z]∧z.1≠k
 |[],_,h=>by obtain⟨y,hy,_⟩:=h;simp at hy
 |x::p,hr,h=>by
  have h1:=List.pairwise_cons.1 (show(x::(p++[z])).Pairwise _ from hr);have hxz:x.1<z.1:=h1.1 z (by simp);show zbi k v (x::(p++[z]))=zbi k v (x::p)++[z]∧_
  unfold zbi;by_cases hx:x.1<k
  ·rw[if_pos hx,if_pos hx];obtain⟨y,hy,hyk⟩:=h;rcases List.mem_cons.1 hy with rfl|hy
   ·exact absurd hx hyk
   ·obtain⟨e1,e2⟩:=zqa (v:=v) z p h1.2 ⟨y,hy,hyk⟩;rw[e1];exact⟨rfl,e2⟩
  ·rw[if_neg hx,if_neg hx];have hzk:z.1≠k:=fun e=>by
    rw[e] at hxz;exact hx hxz
   refine⟨?_,hzk⟩;split <;> rfl
def zik (nm:Nm) (v:RV) (rs:List Rf) (j:Nat) (dn:Bool) (out:List Rf):Prop :=
 (dn=false∧out=rs.take j∧∀ y∈rs.take j,y.1<nm)∨(dn=true∧out=zbi nm v (rs.take j)∧∃ y∈rs.take j,¬ y.1<nm)
theorem zik.end_ {nm:Nm} {v:RV} {rs:List Rf} {dn:Bool} {out:List Rf} (h:zik nm v rs rs.length dn out):(dn=true∧out=zbi nm v rs)∨(dn=false∧out++[(nm,v)]=zbi nm v rs):=by
 unfold zik at h;rw[List.take_length] at h;rcases h with⟨h1,h2,h3⟩|⟨h1,h2,_⟩
 ·refine .inr ⟨h1,?_⟩;have:=zod (k:=nm) (v:=v) rs [] h3;rw[List.append_nil] at this;rw[this,h2];rfl
 ·exact .inl ⟨h1,h2⟩
theorem ze6 (s:ByteArray):str s.data.toList=s:=by
 cases s;simp[str]
theorem zjo (base:Nat) (w:World) (sp:Option Addr) (c:Nat) (rs:List Rf) (x:Rf) (h:OwnR base w sp c rs) (hr:zbf rs) (hf:rs.length≤16) (hx:RfAt base w x) (hbs:base≤w.heap.size) :
  Calls Tryz.prog 112 #[.slice sp rs.length c,zhv x] w fun e w'=>∃ sp' n' c',e=.returned (.slice sp' n' c')∧(zbi x.1 x.2 rs).length=n'∧OwnR base w' sp' c' (zbi x.1 x.2 rs)∧(∀ g,blk sp'=some g→w.heap.size≤g)∧Below w.heap.size w w':=by
 obtain⟨nm,s,yp,yc,up,uc⟩:=x;have b1:Below w.heap.size w (w.alloc (zba (nm,⟨s,yp,yc,up,uc⟩))):=(Below.refl _ _).alloc (Nat.le_refl _) _;have hs1:(w.alloc (zba (nm,⟨s,yp,yc,up,uc⟩))).heap.size=w.heap.size+1:=by simp
 have b2:Below (w.heap.size+1) (w.alloc (zba (nm,⟨s,yp,yc,up,uc⟩))) ((w.alloc (zba (nm,⟨s,yp,yc,up,uc⟩))).alloc (.cells #[] 116)):=by
  have:=(Below.refl (w.alloc (zba (nm,⟨s,yp,yc,up,uc⟩))).heap.size (w.alloc (zba (nm,⟨s,yp,yc,up,uc⟩)))).alloc (Nat.le_refl _) (.cells #[] 116);rw[hs1] at this;exact this
 have O0:=zaa (OwnR.empty (w.alloc (zba (nm,⟨s,yp,yc,up,uc⟩))) (w.heap.size+1) (by omega));rw[hs1] at O0;have B1:=zaa b1;have B2:=zaa b2
 have XC:=zaa (show ∀ W:World,Below (w.heap.size+1) (w.alloc (zba (nm,⟨s,yp,yc,up,uc⟩))) W→W.heap[w.heap.size]? = some (zba (nm,⟨s,yp,yc,up,uc⟩)) from fun W b=>by
  rw[b.block w.heap.size (by omega)]
  exact zad w _)
 have H:=zaa h;have HX:=zaa hx;have HR:=zaa hr;have HS:=zaa hbs;have hKK:(zbi nm (⟨s,yp,yc,up,uc⟩:RV) rs).length≤17:=by
  rw[zdb hr];split <;> omega
 have HF:=zaa hf;unfold zhv;clear h hx hr hbs b1 b2 hs1;simp only;generalize hn:rs.length=n at *;have HN:=zaa hn;clear hn
 have XCC:=zaa (show ∀ W:World,Below (w.heap.size+1) (w.alloc (zba (nm,⟨s,yp,yc,up,uc⟩))) W→W.cell? ⟨w.heap.size,0,none⟩=some (.string (str nm))∧W.cell? ⟨w.heap.size,1,none⟩=some (.bool s.la)∧W.cell? ⟨w.heap.size,2,none⟩=some (.slice yp s.y.length yc)∧W.cell? ⟨w.heap.size,3,none⟩=some (.slice up s.us.length uc) from fun W b=>by
  have hh:=za XC W b
  exact⟨zan hh 0 _ rfl,zan hh 1 _ rfl,zan hh 2 _ rfl,zan hh 3 _ rfl⟩)
 have RC:=zaa (show ∀ W:World,Below (w.heap.size+1) (w.alloc (zba (nm,⟨s,yp,yc,up,uc⟩))) W→OwnR base W sp c rs∧RfAt base W (nm,⟨s,yp,yc,up,uc⟩)∧w.heap.size+1≤W.heap.size from fun W b=>by
  have b3:=(za B1).trans (b.mono (by omega));have e:(w.alloc (zba (nm,⟨s,yp,yc,up,uc⟩))).heap.size=w.heap.size+1:=by simp
  exact⟨(za H).later b3,(za HX).later b3,by rw[← e];exact b.size⟩)
 have O0':=zaa (show OwnR base ((w.alloc (zba (nm,⟨s,yp,yc,up,uc⟩))).alloc (.cells #[] 116)) (some ⟨w.heap.size+1,0,none⟩) 0 [] from⟨zhn (za O0).row (by have:=za HS;omega),by simp⟩);unfold zba at O0' B2 XC B1 RC XCC;clear O0;go_enter Tryz.func112,Tryz.ntmps112
 go_wp2_with fail
 generalize w.alloc (.cells #[.string (str nm),.bool s.la,.slice yp s.y.length yc,.slice up s.us.length uc] 116)=V1 at *;have VS:=zaa (za RC V1 (Below.refl _ _)).2.2;go_loopw [5,6,7] (fun v5 v6 v7 wr=>∃ (j m:Nat) (op:Option Addr) (oc:Nat) (dn:Bool) (out:List Rf),j≤n∧m≤j+1∧v5=.slice op m oc∧v6=.bool dn∧v7=.int .i64 (j:Int)∧Hid (out.length=m)∧Hid (OwnR base wr op oc out)∧Hid (∀ g,blk op=some g→w.heap.size+1≤g)∧Hid (zik nm ⟨s,yp,yc,up,uc⟩ rs j dn out)∧Hid (Below (w.heap.size+1) V1 wr)) (fun _ _ v7 _=>n - (intOf v7).toNat)
 case atStart=>exact⟨0,0,_,0,false,[],by omega,by omega,rfl,rfl,rfl,rfl,O0',zaa (fun g hg=>by simp[blk] at hg;omega),zaa (.inl ⟨rfl,rfl,by simp⟩),B2⟩
 case round =>
  obtain⟨j,m,op,oc,dn,out,hj,hmj,rfl,rfl,rfl,HM,HO,HG,HP,HB⟩:=hrel;by_cases hjn:j<n
  ·have y1:(j:Int)<(n:Int):=by omega
   have y0:(0:Int)≤(j:Int):=by omega
   have hjr:j<rs.length:=by rw[za HN];exact hjn
   obtain⟨g,rfl,p0,p1,p2,p3⟩:=(za RC wr (za HB)).1.cells j hjr;obtain⟨x0,x1,x2,x3⟩:=za XCC wr (za HB);have ZM:=zaa (List.getElem_mem hjr);have TK:=zaa (List.take_succ_eq_append_getElem hjr);have RT:=zaa (show zbf (rs.take (j+1)) from(za HR).sublist (List.take_sublist _ _))
   have PC:=zaa (show ∀ W,Below (w.heap.size+1) V1 W→W.cell? ⟨g,j*4,none⟩=some (.string (str rs[j].1))∧W.cell? ⟨g,j*4+1,none⟩=some (.bool rs[j].2.s.la)∧W.cell? ⟨g,j*4+2,none⟩=some (.slice rs[j].2.yp rs[j].2.s.y.length rs[j].2.yc)∧W.cell? ⟨g,j*4+3,none⟩=some (.slice rs[j].2.up rs[j].2.s.us.length rs[j].2.uc) from fun W b=>by
    obtain⟨g',e',q⟩:=(za RC W b).1.cells j hjr;obtain rfl:g=g':=by simpa using e'
    exact q)
   generalize rs[j]=z at *;cases dn with
   |false =>
    have hP:out=rs.take j∧∀ y∈rs.take j,y.1<nm:=by
     rcases za HP with⟨_,h2⟩|⟨h1,_⟩
     ·exact h2
     ·cases h1
    have hmj2:m≤j:=by rw[← za HM,hP.1,List.length_take];omega
    have PE:=zaa (show zbi nm (⟨s,yp,yc,up,uc⟩:RV) (rs.take (j+1))=out++zbi nm ⟨s,yp,yc,up,uc⟩ [z] by rw[za TK,hP.1];exact zod _ _ hP.2);rcases zAh z.1 nm with hlt|heq|hgt
    ·have z1:Op.bytesLess (str z.1).toList (str nm).toList=true:=by
      rw[bytesLess_eq,ByteArray.toList_eq,ByteArray.toList_eq,zam,zam,decide_eq_true_eq];exact hlt
     have z2:((str z.1).toList==(str nm).toList)=false:=by
      rw[ByteArray.toList_eq,ByteArray.toList_eq,zam,zam];simp only[beq_eq_false_iff_ne];exact fun hh=>zbd _ (hh ▸ hlt)
     have P2:=zaa (show zik nm ⟨s,yp,yc,up,uc⟩ rs (j+1) false (out++[z]) from .inl ⟨rfl,by rw[hP.1,za TK],fun y hy=>by
      rw[za TK,List.mem_append] at hy;rcases hy with hy|hy
      ·exact hP.2 y hy
      ·obtain rfl:y=z:=by simpa using hy
       exact hlt⟩)
     clear hP hlt
     go_wp2_with fail
     go_quiet (fail)
     go_wp2_with fail
     go_quiet (fail)
     have AZ9:=zaa (show Below wr.heap.size wr (wr.alloc (zba z)) from(Below.refl _ _).alloc (Nat.le_refl _) _);have OZ9:=zaa ((za HO).later (za AZ9));have BZ9:=zaa ((za HB).trans ((za AZ9).mono (za RC _ (za HB)).2.2));have XZ9:=zaa (zad wr (zba z));have DZ9:=zaa ((za RC _ (za BZ9)).1.dat z (za ZM));have SZ9:=zaa (show base≤(wr.alloc (zba z)).heap.size from Nat.le_trans (by have:=za HS;omega) (za RC _ (za BZ9)).2.2);unfold zba at AZ9 OZ9 BZ9 DZ9 SZ9
     go_wp2_with (at_builtin;refine zco rfl (.tmp 39) (.tmp 44) rfl base op m oc out rfl (za HM) (by exact(za OZ9).same (fun _ _=>rfl)) wr.heap.size z rfl (by exact za XZ9) (by exact(za DZ9).same (fun _ _=>rfl)) (by omega) (by exact za SZ9) ?_;intro sp9 c9 V9 hO9 hG9;refine za ?_)
     refine zaa ?_;have O9:=zaa hO9;have B9':=zaa (show Below (w.heap.size+1) V1 V9 from(za BZ9).grown ⟨hG9.grown.os,hG9.grown.tape,hG9.grown.output,hG9.grown.size,hG9.grown.block⟩ (za RC _ (za BZ9)).2.2 (fun g' hg'=>za HG g' hg'))
     have G9:=zaa (show ∀ g,blk sp9=some g→w.heap.size+1≤g from fun g hg=>by
      rcases hG9.lies g hg with h1|h1
      ·exact za HG g h1
      ·exact Nat.le_trans (za RC _ (za BZ9)).2.2 h1)
     clear hO9 hG9
     go_wp2
     exact⟨⟨j+1,m+1,sp9,c9,false,out++[z],by omega,by omega,rfl,rfl,by go_num,by rw[List.length_append,za HM];rfl,za O9,za G9,za P2,za B9'⟩,by simp[intOf];omega⟩
    ·have z1:Op.bytesLess (str z.1).toList (str nm).toList=false:=by
      rw[bytesLess_eq,ByteArray.toList_eq,ByteArray.toList_eq,zam,zam,decide_eq_false_iff_not,heq];exact zbd _
     have z2:((str z.1).toList==(str nm).toList)=true:=by
      rw[ByteArray.toList_eq,ByteArray.toList_eq,zam,zam,heq];simp
     have P2:=zaa (show zik nm ⟨s,yp,yc,up,uc⟩ rs (j+1) true (out++[(nm,⟨s,yp,yc,up,uc⟩)]) from .inr ⟨rfl,by
      rw[za PE]
      simp[zbi,heq,zbd],z,by rw[za TK];simp,by rw[heq];exact zbd _⟩)
     clear hP heq
     go_wp2_with fail
     go_quiet (fail)
     have AZ5:=zaa (show Below wr.heap.size wr (wr.alloc (zba (nm,⟨s,yp,yc,up,uc⟩))) from(Below.refl _ _).alloc (Nat.le_refl _) _);have OZ5:=zaa ((za HO).later (za AZ5));have BZ5:=zaa ((za HB).trans ((za AZ5).mono (za RC _ (za HB)).2.2));have XZ5:=zaa (zad wr (zba (nm,⟨s,yp,yc,up,uc⟩)));have DZ5:=zaa ((za RC _ (za BZ5)).2.1);have SZ5:=zaa (show base≤(wr.alloc (zba (nm,⟨s,yp,yc,up,uc⟩))).heap.size from Nat.le_trans (by have:=za HS;omega) (za RC _ (za BZ5)).2.2);unfold zba at AZ5 OZ5 BZ5 DZ5 SZ5
     go_wp2_with (at_builtin;refine zco rfl (.tmp 27) (.tmp 29) rfl base op m oc out rfl (za HM) (by exact(za OZ5).same (fun _ _=>rfl)) wr.heap.size (nm,⟨s,yp,yc,up,uc⟩) rfl (by exact za XZ5) (by exact(za DZ5).same (fun _ _=>rfl)) (by omega) (by exact za SZ5) ?_;intro sp5 c5 V5 hO5 hG5;refine za ?_)
     refine zaa ?_;have O5:=zaa hO5;have B5':=zaa (show Below (w.heap.size+1) V1 V5 from(za BZ5).grown ⟨hG5.grown.os,hG5.grown.tape,hG5.grown.output,hG5.grown.size,hG5.grown.block⟩ (za RC _ (za BZ5)).2.2 (fun g' hg'=>za HG g' hg'))
     have G5:=zaa (show ∀ g,blk sp5=some g→w.heap.size+1≤g from fun g hg=>by
      rcases hG5.lies g hg with h1|h1
      ·exact za HG g h1
      ·exact Nat.le_trans (za RC _ (za BZ5)).2.2 h1)
     clear hO5 hG5;obtain⟨p0,p1,p2,p3⟩:=za PC V5 (za B5');obtain⟨x0,x1,x2,x3⟩:=za XCC V5 (za B5')
     go_wp2_with fail
     go_quiet (fail)
     go_wp2
     exact⟨⟨j+1,m+1,sp5,c5,true,out++[((nm,⟨s,yp,yc,up,uc⟩):Rf)],by omega,by omega,rfl,rfl,by go_num,by rw[List.length_append,za HM];rfl,zaa ((za O5).same (fun _ _=>rfl)),za G5,za P2,_root_.Go.below_drewN (za B5') _⟩,by simp[intOf];omega⟩
    ·have z1:Op.bytesLess (str z.1).toList (str nm).toList=false:=by
      rw[bytesLess_eq,ByteArray.toList_eq,ByteArray.toList_eq,zam,zam,decide_eq_false_iff_not];exact fun hh=>zbd _ (zis hh hgt)
     have z2:((str z.1).toList==(str nm).toList)=false:=by
      rw[ByteArray.toList_eq,ByteArray.toList_eq,zam,zam];simp only[beq_eq_false_iff_ne];exact fun hh=>zbd _ (hh ▸ hgt)
     have P2:=zaa (show zik nm ⟨s,yp,yc,up,uc⟩ rs (j+1) true ((out++[(nm,⟨s,yp,yc,up,uc⟩)])++[z]) from .inr ⟨rfl,by
      rw[za PE];have h1:¬ z.1<nm:=fun hh=>zbd _ (zis hh hgt);have h2:¬ z.1=nm:=fun hh=>zbd _ (hh ▸ hgt)
      simp[zbi,h1,h2],z,by rw[za TK];simp,fun hh=>zbd _ (zis hh hgt)⟩)
     clear hP hgt
     go_wp2_with fail
     go_quiet (fail)
     have AZ5:=zaa (show Below wr.heap.size wr (wr.alloc (zba (nm,⟨s,yp,yc,up,uc⟩))) from(Below.refl _ _).alloc (Nat.le_refl _) _);have OZ5:=zaa ((za HO).later (za AZ5));have BZ5:=zaa ((za HB).trans ((za AZ5).mono (za RC _ (za HB)).2.2));have XZ5:=zaa (zad wr (zba (nm,⟨s,yp,yc,up,uc⟩)));have DZ5:=zaa ((za RC _ (za BZ5)).2.1);have SZ5:=zaa (show base≤(wr.alloc (zba (nm,⟨s,yp,yc,up,uc⟩))).heap.size from Nat.le_trans (by have:=za HS;omega) (za RC _ (za BZ5)).2.2);unfold zba at AZ5 OZ5 BZ5 DZ5 SZ5
     go_wp2_with (at_builtin;refine zco rfl (.tmp 27) (.tmp 29) rfl base op m oc out rfl (za HM) (by exact(za OZ5).same (fun _ _=>rfl)) wr.heap.size (nm,⟨s,yp,yc,up,uc⟩) rfl (by exact za XZ5) (by exact(za DZ5).same (fun _ _=>rfl)) (by omega) (by exact za SZ5) ?_;intro sp5 c5 V5 hO5 hG5;refine za ?_)
     refine zaa ?_;have O5:=zaa hO5;have B5':=zaa (show Below (w.heap.size+1) V1 V5 from(za BZ5).grown ⟨hG5.grown.os,hG5.grown.tape,hG5.grown.output,hG5.grown.size,hG5.grown.block⟩ (za RC _ (za BZ5)).2.2 (fun g' hg'=>za HG g' hg'))
     have G5:=zaa (show ∀ g,blk sp5=some g→w.heap.size+1≤g from fun g hg=>by
      rcases hG5.lies g hg with h1|h1
      ·exact za HG g h1
      ·exact Nat.le_trans (za RC _ (za BZ5)).2.2 h1)
     clear hO5 hG5;obtain⟨p0,p1,p2,p3⟩:=za PC V5 (za B5');obtain⟨x0,x1,x2,x3⟩:=za XCC V5 (za B5')
     go_wp2_with fail
     go_quiet (fail)
     have AZ9:=zaa (show Below V5.heap.size V5 (V5.alloc (zba z)) from(Below.refl _ _).alloc (Nat.le_refl _) _);have OZ9:=zaa ((za O5).later (za AZ9));have BZ9:=zaa ((za B5').trans ((za AZ9).mono (za RC _ (za B5')).2.2));have XZ9:=zaa (zad V5 (zba z));have DZ9:=zaa ((za RC _ (za BZ9)).1.dat z (za ZM));have SZ9:=zaa (show base≤(V5.alloc (zba z)).heap.size from Nat.le_trans (by have:=za HS;omega) (za RC _ (za BZ9)).2.2);unfold zba at AZ9 OZ9 BZ9 DZ9 SZ9
     go_wp2_with (at_builtin;refine zco rfl (.tmp 39) (.tmp 44) rfl base sp5 (m+1) c5 (out++[(nm,⟨s,yp,yc,up,uc⟩)]) rfl (by rw[List.length_append,za HM];rfl) (by exact(za OZ9).same (fun _ _=>rfl)) V5.heap.size z rfl (by exact za XZ9) (by exact(za DZ9).same (fun _ _=>rfl)) (by omega) (by exact za SZ9) ?_;intro sp9 c9 V9 hO9 hG9;refine za ?_)
     refine zaa ?_;have O9:=zaa hO9;have B9':=zaa (show Below (w.heap.size+1) V1 V9 from(za BZ9).grown ⟨hG9.grown.os,hG9.grown.tape,hG9.grown.output,hG9.grown.size,hG9.grown.block⟩ (za RC _ (za BZ9)).2.2 (fun g' hg'=>za G5 g' hg'))
     have G9:=zaa (show ∀ g,blk sp9=some g→w.heap.size+1≤g from fun g hg=>by
      rcases hG9.lies g hg with h1|h1
      ·exact za G5 g h1
      ·exact Nat.le_trans (za RC _ (za BZ9)).2.2 h1)
     clear hO9 hG9
     go_wp2
     exact⟨⟨j+1,m+1+1,sp9,c9,true,(out++[((nm,⟨s,yp,yc,up,uc⟩):Rf)])++[z],by omega,by omega,rfl,rfl,by go_num,by rw[List.length_append,List.length_append,za HM];rfl,za O9,za G9,za P2,za B9'⟩,by simp[intOf];omega⟩
   |true =>
     have hP:out=zbi nm ⟨s,yp,yc,up,uc⟩ (rs.take j)∧∃ y∈rs.take j,¬ y.1<nm:=by
      rcases za HP with⟨h1,_⟩|⟨_,h2⟩
      ·cases h1
      ·exact h2
     obtain⟨hp1,hp2⟩:=zqa (k:=nm) (v:=(⟨s,yp,yc,up,uc⟩:RV)) z (rs.take j) (by rw[← za TK];exact za RT) hP.2;have z2:((str z.1).toList==(str nm).toList)=false:=by
      rw[ByteArray.toList_eq,ByteArray.toList_eq,zam,zam];simp only[beq_eq_false_iff_ne];exact hp2
     have P2:=zaa (show zik nm ⟨s,yp,yc,up,uc⟩ rs (j+1) true (out++[z]) from .inr ⟨rfl,by rw[za TK,hp1,hP.1],by
      obtain⟨y,hy,hyn⟩:=hP.2
      exact⟨y,by rw[za TK];exact List.mem_append_left _ hy,hyn⟩⟩)
     clear hP hp1 hp2
     go_wp2_with fail
     go_quiet (fail)
     go_wp2_with fail
     go_quiet (fail)
     have AZ9:=zaa (show Below wr.heap.size wr (wr.alloc (zba z)) from(Below.refl _ _).alloc (Nat.le_refl _) _);have OZ9:=zaa ((za HO).later (za AZ9));have BZ9:=zaa ((za HB).trans ((za AZ9).mono (za RC _ (za HB)).2.2));have XZ9:=zaa (zad wr (zba z));have DZ9:=zaa ((za RC _ (za BZ9)).1.dat z (za ZM));have SZ9:=zaa (show base≤(wr.alloc (zba z)).heap.size from Nat.le_trans (by have:=za HS;omega) (za RC _ (za BZ9)).2.2);unfold zba at AZ9 OZ9 BZ9 DZ9 SZ9
     go_wp2_with (at_builtin;refine zco rfl (.tmp 39) (.tmp 44) rfl base op m oc out rfl (za HM) (by exact(za OZ9).same (fun _ _=>rfl)) wr.heap.size z rfl (by exact za XZ9) (by exact(za DZ9).same (fun _ _=>rfl)) (by omega) (by exact za SZ9) ?_;intro sp9 c9 V9 hO9 hG9;refine za ?_)
     refine zaa ?_;have O9:=zaa hO9;have B9':=zaa (show Below (w.heap.size+1) V1 V9 from(za BZ9).grown ⟨hG9.grown.os,hG9.grown.tape,hG9.grown.output,hG9.grown.size,hG9.grown.block⟩ (za RC _ (za BZ9)).2.2 (fun g' hg'=>za HG g' hg'))
     have G9:=zaa (show ∀ g,blk sp9=some g→w.heap.size+1≤g from fun g hg=>by
      rcases hG9.lies g hg with h1|h1
      ·exact za HG g h1
      ·exact Nat.le_trans (za RC _ (za BZ9)).2.2 h1)
     clear hO9 hG9
     go_wp2
     exact⟨⟨j+1,m+1,sp9,c9,true,out++[z],by omega,by omega,rfl,rfl,by go_num,by rw[List.length_append,za HM];rfl,za O9,za G9,za P2,za B9'⟩,by simp[intOf];omega⟩
  ·have y1:¬ (j:Int)<(n:Int):=by omega
   have hjr:j=rs.length:=by rw[za HN];omega
   have PE:=zaa (zik.end_ (hjr ▸ za HP));clear hjr;cases dn with
   |true =>
     have E1:=zaa (show out=zbi nm ⟨s,yp,yc,up,uc⟩ rs by
      rcases za PE with⟨_,h⟩|⟨h,_⟩
      ·exact h
      ·cases h)
     go_wp2
     go_ret
     exact⟨op,m,oc,rfl,by rw[← za E1];exact za HM,by rw[← za E1];exact za HO,fun g hg=>by have:=za HG g hg;omega,(za B1).trans ((za HB).mono (by omega))⟩
   |false =>
     have E1:=zaa (show out++[(nm,⟨s,yp,yc,up,uc⟩)]=zbi nm ⟨s,yp,yc,up,uc⟩ rs by
      rcases za PE with⟨h,_⟩|⟨_,h⟩
      ·cases h
      ·exact h)
     obtain⟨x0,x1,x2,x3⟩:=za XCC wr (za HB);have AZ5:=zaa (show Below wr.heap.size wr (wr.alloc (zba (nm,⟨s,yp,yc,up,uc⟩))) from(Below.refl _ _).alloc (Nat.le_refl _) _);have OZ5:=zaa ((za HO).later (za AZ5));have BZ5:=zaa ((za HB).trans ((za AZ5).mono (za RC _ (za HB)).2.2));have XZ5:=zaa (zad wr (zba (nm,⟨s,yp,yc,up,uc⟩)));have DZ5:=zaa ((za RC _ (za BZ5)).2.1);have SZ5:=zaa (show base≤(wr.alloc (zba (nm,⟨s,yp,yc,up,uc⟩))).heap.size from Nat.le_trans (by have:=za HS;omega) (za RC _ (za BZ5)).2.2);unfold zba at AZ5 OZ5 BZ5 DZ5 SZ5
     go_wp2_with (at_builtin;refine zco rfl (.tmp 48) (.tmp 50) rfl base op m oc out rfl (za HM) (by exact(za OZ5).same (fun _ _=>rfl)) wr.heap.size (nm,⟨s,yp,yc,up,uc⟩) rfl (by exact za XZ5) (by exact(za DZ5).same (fun _ _=>rfl)) (by omega) (by exact za SZ5) ?_;intro sp5 c5 V5 hO5 hG5;refine za ?_)
     refine zaa ?_;have O5:=zaa hO5;have B5':=zaa (show Below (w.heap.size+1) V1 V5 from(za BZ5).grown ⟨hG5.grown.os,hG5.grown.tape,hG5.grown.output,hG5.grown.size,hG5.grown.block⟩ (za RC _ (za BZ5)).2.2 (fun g' hg'=>za HG g' hg'))
     have G5:=zaa (show ∀ g,blk sp5=some g→w.heap.size+1≤g from fun g hg=>by
      rcases hG5.lies g hg with h1|h1
      ·exact za HG g h1
      ·exact Nat.le_trans (za RC _ (za BZ5)).2.2 h1)
     clear hO5 hG5
     go_wp2
     go_ret
     exact⟨sp5,m+1,c5,rfl,by rw[← za E1,List.length_append,za HM];rfl,by rw[← za E1];exact za O5,fun g hg=>by have:=za G5 g hg;omega,(za B1).trans ((za B5').mono (by omega))⟩
end
end Go.Proofs.YtofllbpfajppeaaGreatDoor
