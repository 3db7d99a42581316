/- Conf, plain: what a command leaves true of a store; two stores that hold the same do the same. -/
import Derived.Test.YtjcjleaicjhpeaaGreatDoorB23
import Derived.Test.YtjcjleaicjhpeaaGreatDoorB10
import Derived.Test.YtjcjleaicjhpeaaGreatDoorB20
import Derived.Test.YtjcjleaicjhpeaaGreatDoorB12
set_option linter.unusedVariables false
set_option maxRecDepth 20000
set_option maxHeartbeats 16000000
namespace Go.Proofs.YtjcjleaicjhpeaaGreatDoor
section
open Go.ChangeShapes Go.WideShapes Go.ChangeAt Go.RowKit
section
variable {κ α:Type} [Kord κ]
theorem zi8 (kf:α→κ) (a p:α):∀ l:List α,p∈l→∃ q∈zbn kf a l,kf q=kf p
 |b::l,h=>by
  rw[zcc];by_cases h1:Kord.lt (kf b) (kf a)
  ·rw[if_pos h1];rcases List.mem_cons.1 h with rfl|h
   ·exact⟨_,List.mem_cons_self,rfl⟩
   ·obtain⟨q,hq,e⟩:=zi8 kf a p l h;exact⟨q,List.mem_cons_of_mem _ hq,e⟩
  ·rw[if_neg h1];by_cases h2:kf b=kf a
   ·rw[if_pos h2];rcases List.mem_cons.1 h with rfl|h
    ·exact⟨a,List.mem_cons_self,h2.symm⟩
    ·exact⟨p,List.mem_cons_of_mem _ h,rfl⟩
   ·rw[if_neg h2];exact⟨p,List.mem_cons_of_mem _ h,rfl⟩
end
theorem SmI.len {x:Sm} (h:SmI x):(zaq x.cf).length=2+(x.ps.flatMap (fun q=>zas q.po)).length+(x.rs.flatMap zan).length:=by
 rw[show x.cf=⟨x.ver,x.rs,x.ps.map Pq.po⟩ from rfl,zb3 _ _ _ (by rw[List.length_map];have:=h.pn;omega) (by have:=h.rn;omega),zcw]
theorem SmI.putP {x:Sm} (h:SmI x) (q:Pq):SmI (zce q x).2:=by
 have hs:=zgq qnm (fun q=>zas q.po) q x.ps h.kp;have hl:=zga qnm q x.ps h.kp;have hsz:=h.len;have hpn:=h.pn;have hrn:=h.rn;rw[show qnm q=q.po.nm from rfl] at hs hl
 have mk:(zbn qnm q x.ps).length≤32→2+((zbn qnm q x.ps).flatMap (fun q=>zas q.po)).length+(x.rs.flatMap zan).length≤12000→SmI { x with ps:=zbn qnm q x.ps }:=fun h1 h2=>⟨h.kp.put q,h.kr,h.kc,by
  show(zaq ⟨x.ver,x.rs,(zbn qnm q x.ps).map Pq.po⟩).length≤12000
  rw[zb3 _ _ _ (by rw[List.length_map];omega) (by omega),zcw];exact h2,h1,h.rn,fun r hr=>by
  obtain⟨p,hp,e⟩:=h.th r hr;obtain⟨p',hp',e'⟩:=zi8 qnm q p x.ps hp
  exact⟨p',hp',e'.trans e⟩⟩
 unfold zce;cases hg:zax qnm q.po.nm x.ps with
 |none =>
  rw[hg] at hs hl;dsimp only at hs ⊢;simp only[Option.isSome,Bool.false_eq_true,if_false] at hl;split
  ·exact h
  ·split
   ·exact mk (by omega) (by omega)
   ·exact h
 |some o =>
  rw[hg] at hs hl;dsimp only at hs ⊢;simp only[Option.isSome,if_true] at hl;split
  ·exact mk (by omega) (by omega)
  ·exact h
theorem SmI.putR {x:Sm} (h:SmI x) (r:Rt):SmI (zbt r x).2:=by
 have hs:=zgq rpl zan r x.rs h.kr;have hl:=zga rpl r x.rs h.kr;have hsz:=h.len;have hpn:=h.pn;have hrn:=h.rn;rw[show rpl r=(r.h,r.p) from rfl] at hs hl
 have mk:(∃ p∈x.ps,qnm p=r.l)→(zbn rpl r x.rs).length≤64→2+(x.ps.flatMap (fun q=>zas q.po)).length+((zbn rpl r x.rs).flatMap zan).length≤12000→SmI { x with rs:=zbn rpl r x.rs }:=fun h0 h1 h2=>⟨h.kp,h.kr.put r,h.kc,by
  show(zaq ⟨x.ver,zbn rpl r x.rs,x.ps.map Pq.po⟩).length≤12000
  rw[zb3 _ _ _ (by rw[List.length_map];omega) (by omega),zcw];exact h2,h.pn,h1,fun q hq=>by
  rcases zdl rpl r q x.rs hq with rfl|hq
  ·exact h0
  ·exact h.th q hq⟩
 unfold zbt;cases hp:zax qnm r.l x.ps with
 |none=>exact h
 |some p =>
  have hm:=zj3 qnm r.l p x.ps hp;dsimp only;cases hg:zax rpl (r.h,r.p) x.rs with
  |none =>
   rw[hg] at hs hl;dsimp only at hs ⊢;simp only[Option.isSome,Bool.false_eq_true,if_false] at hl;split
   ·exact h
   ·split
    ·exact mk ⟨p,hm⟩ (by omega) (by omega)
    ·exact h
  |some o =>
   rw[hg] at hs hl;dsimp only at hs ⊢;simp only[Option.isSome,if_true] at hl;split
   ·exact mk ⟨p,hm⟩ (by omega) (by omega)
   ·exact h
theorem SmI.dropP {x:Sm} (h:SmI x) (nm:ByteArray):SmI (zbc nm x).2:=by
 unfold zbc;cases hp:zax qnm nm x.ps with
 |none=>exact h
 |some p =>
  dsimp only;split
  ·exact h
  ·rename_i hu
   have h3:=zd4 (fun q:Pq=>zas q.po) (fun q=>decide (qnm q≠nm)) x.ps;have h4:=List.length_filter_le (fun q:Pq=>decide (qnm q≠nm)) x.ps;have hsz:=h.len;have hz:=h.sz;have hpn:=h.pn;have hrn:=h.rn;refine⟨h.kp.del nm,h.kr,h.kc,?_,?_,h.rn,fun r hr=>?_⟩
   ·show(zaq ⟨x.ver,x.rs,(zdw qnm nm x.ps).map Pq.po⟩).length≤12000
    rw[zb3 _ _ _ (by rw[List.length_map];unfold zdw;omega) (by omega),zcw];unfold zdw;omega
   ·show(zdw qnm nm x.ps).length≤32
    unfold zdw;omega
   ·obtain⟨p',hp',e⟩:=h.th r hr;refine⟨p',List.mem_filter.2 ⟨hp',decide_eq_true (fun k=>hu ?_)⟩,e⟩;exact List.any_eq_true.2 ⟨r,hr,decide_eq_true (e.symm.trans k)⟩
theorem SmI.dropR {x:Sm} (h:SmI x) (p:Pl):SmI (zbi p x).2:=by
 unfold zbi;cases hp:zax rpl p x.rs with
 |none=>exact h
 |some o =>
  have h3:=zd4 zan (fun q=>decide (rpl q≠p)) x.rs;have h4:=List.length_filter_le (fun q:Rt=>decide (rpl q≠p)) x.rs;have hsz:=h.len;have hz:=h.sz;have hpn:=h.pn;have hrn:=h.rn;refine⟨h.kp,h.kr.del p,h.kc,?_,h.pn,?_,fun r hr=>h.th r (List.mem_filter.1 hr).1⟩
  ·show(zaq ⟨x.ver,zdw rpl p x.rs,x.ps.map Pq.po⟩).length≤12000
   rw[zb3 _ _ _ (by rw[List.length_map];omega) (by unfold zdw;omega),zcw];unfold zdw;omega
  ·show(zdw rpl p x.rs).length≤64
   unfold zdw;omega
theorem SmI.actN {x:Sm} (h:SmI x) (c:Cmd) (a':Option Addr) (tc':Nat):SmI (actN c a' tc' x).2:=by
 unfold Go.Proofs.YtjcjleaicjhpeaaGreatDoor.actN;split
 ·exact h.putP _
 split
 ·exact h.dropP _
 split
 ·exact h.putR _
 ·exact h.dropR _
theorem SmI.ver {x:Sm} (h:SmI x) (v:Int):SmI { x with ver:=v }:=⟨h.kp,h.kr,h.kc,h.sz,h.pn,h.rn,h.th⟩
theorem SmI.done {x:Sm} (h:SmI x) (c:Cmd) (a':Option Addr) (tc':Nat):SmI (za4 (zbp c a' tc' x)).2:=by
 have h1:SmI (zbp c a' tc' x).2:=by
  by_cases hs:0≤c.exp∧c.exp≠x.ver
  ·unfold zbp;rw[if_pos hs];exact h
  ·have e:zbp c a' tc' x=Go.Proofs.YtjcjleaicjhpeaaGreatDoor.actN c a' tc' x:=by
    unfold zbp Go.Proofs.YtjcjleaicjhpeaaGreatDoor.actN;rw[if_neg hs]
   rw[e];exact h.actN c a' tc'
 unfold za4;split
 ·exact h1.ver _
 ·exact h1
theorem SmI.do {x:Sm} (h:SmI x) (c:Cmd) (a':Option Addr) (tc':Nat):SmI (doS c a' tc' x).2:=by
 have h1:=h.done c a' tc';unfold doS;split
 ·exact h
 split
 ·exact h1
 split
 ·exact h
 split
 ·exact h
 ·exact⟨h1.kp,h1.kr,h1.kc.put _,h1.sz,h1.pn,h1.rn,h1.th⟩
structure SmE (x y:Sm):Prop where
 ver:x.ver=y.ver
 rs:x.rs=y.rs
 cl:x.cl=y.cl
 ps:x.ps.map Pq.po=y.ps.map Pq.po
theorem SmE.refl (x:Sm):SmE x x:=⟨rfl,rfl,rfl,rfl⟩
theorem SmE.cf {x y:Sm} (h:SmE x y):x.cf=y.cf:=by
 unfold Sm.cf;rw[h.ver,h.rs,h.ps]
theorem SmE.len {x y:Sm} (h:SmE x y):x.ps.length=y.ps.length:=by
 have:=congrArg List.length h.ps
 rwa [List.length_map,List.length_map] at this
theorem SmE.get {x y:Sm} (h:SmE x y) (nm:ByteArray):(zax qnm nm x.ps).map Pq.po=(zax qnm nm y.ps).map Pq.po:=by
 rw[← zhv qnm Pq.po pnm (fun _=>rfl) nm x.ps,h.ps,zhv qnm Pq.po pnm (fun _=>rfl) nm y.ps]
theorem SmE.putp {x y:Sm} (h:SmE x y) (p:Po) (a b:Option Addr) (m n:Nat):SmE { x with ps:=zbn qnm ⟨p,a,m⟩ x.ps } { y with ps:=zbn qnm ⟨p,b,n⟩ y.ps } :=
 ⟨h.ver,h.rs,h.cl,by
  show(zbn qnm ⟨p,a,m⟩ x.ps).map Pq.po=(zbn qnm ⟨p,b,n⟩ y.ps).map Pq.po
  rw[zj4 qnm Pq.po pnm (fun _=>rfl) ⟨p,a,m⟩ x.ps,zj4 qnm Pq.po pnm (fun _=>rfl) ⟨p,b,n⟩ y.ps,h.ps]⟩
theorem SmE.delp {x y:Sm} (h:SmE x y) (nm:ByteArray):SmE { x with ps:=zdw qnm nm x.ps } { y with ps:=zdw qnm nm y.ps } :=
 ⟨h.ver,h.rs,h.cl,by
  show(zdw qnm nm x.ps).map Pq.po=(zdw qnm nm y.ps).map Pq.po
  rw[zj1 qnm Pq.po pnm (fun _=>rfl) nm x.ps,zj1 qnm Pq.po pnm (fun _=>rfl) nm y.ps,h.ps]⟩
theorem SmE.putP {x y:Sm} (h:SmE x y) (p:Po) (a b:Option Addr) (m n:Nat):(zce ⟨p,a,m⟩ x).1=(zce ⟨p,b,n⟩ y).1∧SmE (zce ⟨p,a,m⟩ x).2 (zce ⟨p,b,n⟩ y).2:=by
 have hg:=h.get p.nm;have hp:=h.putp p a b m n;unfold zce;dsimp only;rw[h.cf,h.len];cases e1:zax qnm p.nm x.ps with
 |none =>
  cases e2:zax qnm p.nm y.ps with
  |none =>
   dsimp only;split
   ·exact⟨rfl,h⟩
   ·split
    ·exact⟨rfl,hp⟩
    ·exact⟨rfl,h⟩
  |some o=>rw[e1,e2] at hg;cases hg
 |some o =>
  cases e2:zax qnm p.nm y.ps with
  |none=>rw[e1,e2] at hg;cases hg
  |some o2 =>
   rw[e1,e2] at hg;have ho:o.po=o2.po:=Option.some.inj hg;dsimp only;rw[ho];split
   ·exact⟨rfl,hp⟩
   ·exact⟨rfl,h⟩
theorem SmE.dropP {x y:Sm} (h:SmE x y) (nm:ByteArray):(zbc nm x).1=(zbc nm y).1∧SmE (zbc nm x).2 (zbc nm y).2:=by
 have hg:=h.get nm;have hp:=h.delp nm;unfold zbc;rw[h.rs];cases e1:zax qnm nm x.ps with
 |none =>
  cases e2:zax qnm nm y.ps with
  |none=>exact⟨rfl,h⟩
  |some o=>rw[e1,e2] at hg;cases hg
 |some o =>
  cases e2:zax qnm nm y.ps with
  |none=>rw[e1,e2] at hg;cases hg
  |some o2 =>
   dsimp only;split
   ·exact⟨rfl,h⟩
   ·exact⟨rfl,⟨h.ver,rfl,h.cl,hp.ps⟩⟩
theorem SmE.putR {x y:Sm} (h:SmE x y) (r:Rt):(zbt r x).1=(zbt r y).1∧SmE (zbt r x).2 (zbt r y).2:=by
 have hg:=h.get r.l;unfold zbt;rw[h.cf,h.rs];have same:SmE { x with rs:=zbn rpl r y.rs } { y with rs:=zbn rpl r y.rs }:=⟨h.ver,rfl,h.cl,h.ps⟩
 cases e1:zax qnm r.l x.ps with
 |none =>
  cases e2:zax qnm r.l y.ps with
  |none=>exact⟨rfl,h⟩
  |some o=>rw[e1,e2] at hg;cases hg
 |some o =>
  cases e2:zax qnm r.l y.ps with
  |none=>rw[e1,e2] at hg;cases hg
  |some o2 =>
   dsimp only;cases zax rpl (r.h,r.p) y.rs with
   |none =>
    dsimp only;split
    ·exact⟨rfl,h⟩
    ·split
     ·exact⟨rfl,same⟩
     ·exact⟨rfl,h⟩
   |some o3 =>
    dsimp only;split
    ·exact⟨rfl,same⟩
    ·exact⟨rfl,h⟩
theorem SmE.dropR {x y:Sm} (h:SmE x y) (p:Pl):(zbi p x).1=(zbi p y).1∧SmE (zbi p x).2 (zbi p y).2:=by
 unfold zbi;rw[h.rs];cases zax rpl p y.rs with
 |none=>exact⟨rfl,h⟩
 |some o=>exact⟨rfl,⟨h.ver,rfl,h.cl,h.ps⟩⟩
theorem SmE.act {x y:Sm} (h:SmE x y) (c:Cmd) (a b:Option Addr) (m n:Nat):(zbp c a m x).1=(zbp c b n y).1∧SmE (zbp c a m x).2 (zbp c b n y).2:=by
 unfold zbp;rw[h.ver];split
 ·exact⟨rfl,h⟩
 split
 ·exact h.putP _ _ _ _ _
 split
 ·exact h.dropP _
 split
 ·exact h.putR _
 ·exact h.dropR _
theorem SmE.done {x y:Sm} (h:SmE x y) (c:Cmd) (a b:Option Addr) (m n:Nat):(za4 (zbp c a m x)).1=(za4 (zbp c b n y)).1∧SmE (za4 (zbp c a m x)).2 (za4 (zbp c b n y)).2:=by
 obtain⟨h1,h2⟩:=h.act c a b m n;unfold za4;rw[h1,h2.ver];split
 ·exact⟨rfl,⟨rfl,h2.rs,h2.cl,h2.ps⟩⟩
 ·exact⟨rfl,h2⟩
theorem SmE.do {x y:Sm} (h:SmE x y) (c:Cmd) (a b:Option Addr) (m n:Nat):(doS c a m x).1=(doS c b n y).1∧SmE (doS c a m x).2 (doS c b n y).2:=by
 obtain⟨h1,h2⟩:=h.done c a b m n;unfold doS;have ht:zck c x=zck c y:=by unfold zck;rw[h.cl]
 rw[ht,h.ver];split
 ·exact⟨rfl,h⟩
 split
 ·exact⟨h1,h2⟩
 split
 ·exact⟨rfl,h⟩
 split
 ·exact⟨rfl,h⟩
 ·exact⟨h1,⟨h2.ver,h2.rs,by show zbn lid _ _=zbn lid _ _;rw[h1,h2.cl],h2.ps⟩⟩
theorem zde {w:World} {ops:Array Oper} {rest:List Oper} {o:Oper} {a:Act} {Q:Exit→Act→World→Prop} (hgd:o.guard=none) (s x:Operand)
  (ho:o.op=.call { callee:=.builtin .append,args:=#[s,x],argTypes:=#[117,117] }) (base:Nat) (sp:Option Addr) (n c:Nat) (l:List Ls) (hs:a.eval s=.slice sp n c) (hn:l.length=n) (hown:zjm base w sp c l)
  (B:Nat) (y:Ls) (hx:a.eval x=.slice (some ⟨B,0,none⟩) 1 1) (hB:w.heap[B]? = some (.cells (zfz y).toArray 123 (0,0))) (hsz:n≤100000) (hbase:base≤w.heap.size)
  (h:∀ sp' c' w',zjm base w' sp' c' (l++[y])→Below base w w'→wpList Tryz.prog ops Q rest (a.put o.dst (.slice sp' (n+1) c')) w') :
  wpList Tryz.prog ops Q (o::rest) a w:=by
 subst hn;refine zb2 hgd s x _ _ ho zto Tryz.underlying117 rfl (by omega) base sp l.length c (zf1 l) hs hown B (zfz y) hx hB rfl (zi9 y) (by omega) (by omega) hbase ?_;intro sp' c' w' h1 hg;refine h sp' c' w' ?_ (zfh hown hg hbase);unfold zjm;rw[List.length_append,show zf1 (l++[y])=zf1 l++zfz y from by simp[zf1]];exact h1
def ltL (a b:Ls):Bool:=decide (a.id<b.id)
def wL (z:Ls) (l:List Ls):List Ls:=l.filter (fun x=>ltL x z)++z::l.filter (fun x=>ltL z x)
theorem zc9 {base:Nat} {w:World} {a:Option Addr} {c r:Nat} {l:List Ls} {V0 V1 V2:Value} (h:zjm base w a c l) (z:Ls) (m:Nat) (hm:l.length=m) (hn:m≤1000) (hr:w.heap[r]? = some (.cells #[V0,V1,V2,.slice a m c] 119 (0,0))) :
  Calls Tryz.prog 71 #[.pointer (some ⟨r,0,none⟩),.agg #[.int .i64 z.id,.int .i64 z.seq,.int .i64 z.e,.int .i64 z.ver]] w fun e w'=>e=.returned (.tuple #[])∧∃ a' c',zjm w.heap.size w' a' c' (wL z l)∧w'.heap[r]? = some (.cells #[V0,V1,V2,.slice a' (wL z l).length c'] 119 (0,0))∧w.grownBy w' (some r):=by
 have WR:=zaa (show ∀ l1 l2,l1=l.filter (fun x=>ltL x z)→l2=l.filter (fun x=>ltL z x)→l1++[z]++l2=wL z l from fun l1 l2 h1 h2=>by rw[h1,h2,List.append_assoc];rfl);have FL:=zaa (show ∀ j,((l.take j).filter (fun x=>ltL x z)).length≤j from fun j=>za6 _ l j);have FD:=zaa (show ∀ j,((l.take j).filter (fun x=>ltL z x)).length≤j from fun j=>za6 _ l j);have HL:=zaa h;have HM:=zaa hm;have RL:=zaa (Array.getElem?_eq_some_iff.1 hr).1;have b1:Below w.heap.size w (w.alloc (.cells #[.int .i64 z.id,.int .i64 z.seq,.int .i64 z.e,.int .i64 z.ver] 123)):=(Below.refl _ _).alloc (Nat.le_refl _) _;have b2:=zaa (b1.alloc b1.size (.cells #[] 123));have s1:(w.alloc (.cells #[.int .i64 z.id,.int .i64 z.seq,.int .i64 z.e,.int .i64 z.ver] 123)).heap.size=w.heap.size+1:=by simp
 have X1:=zaa (show((w.alloc (.cells #[.int .i64 z.id,.int .i64 z.seq,.int .i64 z.e,.int .i64 z.ver] 123)).alloc (.cells #[] 123)).heap[w.heap.size]? = some (.cells #[.int .i64 z.id,.int .i64 z.seq,.int .i64 z.e,.int .i64 z.ver] 123 (0,0)) by rw[Below.heap_alloc _ _ _ (by simp)];exact zac _ _);have X2:=zaa (show((w.alloc (.cells #[.int .i64 z.id,.int .i64 z.seq,.int .i64 z.e,.int .i64 z.ver] 123)).alloc (.cells #[] 123)).heap[w.heap.size+1]? = some (.cells #[] 123 (0,0)) by rw[← s1];exact zac _ _);have Z2:=zaa (show((w.alloc (.cells #[.int .i64 z.id,.int .i64 z.seq,.int .i64 z.e,.int .i64 z.ver] 123)).alloc (.cells #[] 123)).heap.size=w.heap.size+2 by simp);have HR:=zaa hr;clear b1 s1 h hm hr;go_enter Tryz.func71,Tryz.ntmps71
 go_wp2_with fail
 generalize ((w.alloc (.cells #[.int .i64 z.id,.int .i64 z.seq,.int .i64 z.e,.int .i64 z.ver] 123)).alloc (.cells #[] 123))=V at *;have Z0:=zaa (show zjm (w.heap.size+1) V (some ⟨w.heap.size+1,0,none⟩) 0 [] from zgg 4 (za X2) (Nat.le_refl _));have FB:=zaa (show ∀ W:World,Below (w.heap.size+1) V W→Below w.heap.size w W from fun W hb=>(za b2).trans (hb.mono (by omega)));have XP:=zaa (show ∀ W:World,Below (w.heap.size+1) V W→W.heap[w.heap.size]? = some (.cells #[.int .i64 z.id,.int .i64 z.seq,.int .i64 z.e,.int .i64 z.ver] 123 (0,0)) from fun W hb=>(hb.block _ (by omega)).trans (za X1));have XR:=zaa (show ∀ W:World,Below (w.heap.size+1) V W→W.heap[r]? = some (.cells #[V0,V1,V2,.slice a m c] 119 (0,0)) from fun W hb=>((za FB W hb).block r (za RL)).trans (za HR));go_loopw [4,5] (fun v i wr=>∃ (j:Nat) (sp:Option Addr) (n c':Nat),j≤m∧v=.slice sp n c'∧i=.int .i64 (j:Int)∧Hid (((l.take j).filter (fun x=>ltL x z)).length=n)∧Hid (zjm (w.heap.size+1) wr sp c' ((l.take j).filter (fun x=>ltL x z)))∧Hid (Below (w.heap.size+1) V wr)) (fun _ i _=>m - (intOf i).toNat)
 case atStart=>exact⟨0,_,0,0,by omega,rfl,rfl,zaa rfl,Z0,zaa (Below.refl _ _)⟩
 case round =>
  obtain⟨j,sp,n,c',hj,rfl,rfl,NL,OW,BB⟩:=hrel;have PK:=zaa (za XP _ (za BB));have HB:=zaa (show w.heap.size+1≤wr.heap.size by have:=(za BB).size;have:=za Z2;omega);have e3:=zab (za XR _ (za BB)) 3 (.slice a m c) rfl;by_cases hjm:j<m
  ·as_aux_lemma =>
   have y0:(0:Int)≤(j:Int):=by omega
   have y1:(j:Int)<(m:Int):=by omega
   have hjl:j<l.length:=by rw[za HM];exact hjm
   have FT:=zaa (zbr (fun x=>ltL x z) l j hjl);obtain⟨g,rfl,hg1,q0,q1,q2,q3⟩:=(za HL).cell j hjl;have HN:=zaa (za FL j);generalize l[j]=x at *;have KP:=zaa (show ∀ W:World,Below wr.heap.size wr W→W.cell? ⟨r,3,none⟩=some (.slice (some ⟨g,0,none⟩) m c)∧W.cell? ⟨w.heap.size,0,none⟩=some (.int .i64 z.id)∧W.cell? ⟨g,j*4,none⟩=some (.int .i64 x.id)∧W.cell? ⟨g,j*4+1,none⟩=some (.int .i64 x.seq)∧W.cell? ⟨g,j*4+2,none⟩=some (.int .i64 x.e)∧W.cell? ⟨g,j*4+3,none⟩=some (.int .i64 x.ver) from fun W hb=>⟨cell_later hb e3,cell_later hb (zab (za PK) 0 _ rfl),cell_later hb (cell_later (za FB _ (za BB)) q0),cell_later hb (cell_later (za FB _ (za BB)) q1),cell_later hb (cell_later (za FB _ (za BB)) q2),cell_later hb (cell_later (za FB _ (za BB)) q3)⟩);clear q0 q1 q2 q3 e3;obtain⟨e3,z0,p0,p1,p2,p3⟩:=za KP _ (Below.refl _ _);have BN:∀ k,Below wr.heap.size wr (wr.drewN k):=fun k=>⟨(Below.refl wr.heap.size wr).os,(Below.refl wr.heap.size wr).tape,(Below.refl wr.heap.size wr).output,(Below.refl wr.heap.size wr).size,(Below.refl wr.heap.size wr).block⟩
   by_cases hlt:x.id<z.id
   ·as_aux_lemma =>
    rw[show ltL x z=true from decide_eq_true hlt,if_pos rfl] at FT
    go_wp2_with fail
    go_quiet (fail)
    generalize hVN:wr.drewN _=V1;have G:=zaa (show Below wr.heap.size wr V1 from hVN ▸ BN _);clear BN hVN;obtain⟨e3,z0,p0,p1,p2,p3⟩:=za KP _ (za G);have OA:=zaa (show zjm (w.heap.size+1) (V1.alloc (.cells #[.int .i64 x.id,.int .i64 x.seq,.int .i64 x.e,.int .i64 x.ver] 123)) sp c' ((l.take j).filter (fun x=>ltL x z)) from zae (za OW) ((za G).alloc (za G).size _));have XA:=zaa (zac V1 (.cells #[.int .i64 x.id,.int .i64 x.seq,.int .i64 x.e,.int .i64 x.ver] 123));have GA:=zaa (show Below wr.heap.size wr (V1.alloc (.cells #[.int .i64 x.id,.int .i64 x.seq,.int .i64 x.e,.int .i64 x.ver] 123)) from(za G).alloc (za G).size _)
    go_wp2_with (at_builtin;refine zde rfl (.tmp 28) (.tmp 36) rfl (w.heap.size+1) sp n c' _ rfl (za NL) (za OA) _ x rfl (za XA) (by have:=za HN;have:=za NL;omega) (by have:=(za GA).size;have:=za HB;omega) ?_;intro sp4 c4 W4 ho hb2;have O4:=zaa ho;have BW:=zaa hb2;clear ho hb2)
    exact⟨⟨j+1,sp4,n+1,c4,by omega,rfl,by go_num,zaa (by rw[za FT,List.length_append,za NL];rfl),zaa (by rw[za FT];exact za O4),zaa ((za BB).trans (((za GA).mono (za HB)).trans (za BW)))⟩,by simp[intOf];omega⟩
   ·as_aux_lemma =>
    rw[show ltL x z=false from decide_eq_false hlt,if_neg (by decide),List.append_nil] at FT
    go_wp2_with fail
    go_quiet (fail)
    generalize hVN:wr.drewN _=V1;have G:=zaa (show Below wr.heap.size wr V1 from hVN ▸ BN _);clear BN hVN
    go_wp2
    exact⟨⟨j+1,sp,n,c',by omega,rfl,by go_num,zaa (by rw[za FT];exact za NL),zaa (by rw[za FT];exact zae (za OW) (za G)),zaa ((za BB).trans ((za G).mono (za HB)))⟩,by simp[intOf];omega⟩
  ·as_aux_lemma =>
   have hjj:¬ (j:Int)<(m:Int):=by omega
   obtain rfl:m=j:=by omega
   have E1:=zaa (show(l.take m).filter (fun x=>ltL x z)=l.filter (fun x=>ltL x z) by rw[List.take_of_length_le (by rw[za HM];exact Nat.le_refl _)]);have HN:=zaa (za FL m);rw[za E1] at NL OW HN;have k0:=zab (za PK) 0 (.int .i64 z.id) rfl;have k1:=zab (za PK) 1 (.int .i64 z.seq) rfl;have k2:=zab (za PK) 2 (.int .i64 z.e) rfl;have k3:=zab (za PK) 3 (.int .i64 z.ver) rfl;have bA:=zaa (show Below wr.heap.size wr (wr.alloc (.cells #[.int .i64 z.id,.int .i64 z.seq,.int .i64 z.e,.int .i64 z.ver] 123)) from(Below.refl _ _).alloc (Nat.le_refl _) _);have OA:=zaa (show zjm (w.heap.size+1) (wr.alloc (.cells #[.int .i64 z.id,.int .i64 z.seq,.int .i64 z.e,.int .i64 z.ver] 123)) sp c' (l.filter (fun x=>ltL x z)) from zae (za OW) (za bA));have XA:=zaa (zac wr (.cells #[.int .i64 z.id,.int .i64 z.seq,.int .i64 z.e,.int .i64 z.ver] 123))
   go_wp2_with (at_builtin;refine zde rfl (.tmp 38) (.tmp 40) rfl (w.heap.size+1) sp n c' _ rfl (za NL) (za OA) _ z rfl (za XA) (by have:=za NL;have:=za HN;omega) (by have:=(za bA).size;have:=za HB;omega) ?_;intro sp2 c2 W2 ho hb2;have O2:=zaa ho;have BW:=zaa hb2;clear ho hb2)
   have B2:=zaa ((za BB).trans (((za bA).mono (za HB)).trans (za BW)));have N2:=zaa (show(l.filter (fun x=>ltL x z)++[z]).length=n+1 by rw[List.length_append,za NL];rfl);have WRE:=zaa (show l.filter (fun x=>ltL x z)++[z]++l.filter (fun x=>ltL z x)=wL z l from za WR _ _ rfl rfl);have LL:=zaa (show n≤m by have:=za NL;have:=za HN;omega);generalize l.filter (fun x=>ltL x z)++[z]=L1 at *;clear OA XA bA k0 k1 k2 k3 OW NL PK BW BB E1 e3;go_loopw [4,6] (fun v i wr=>∃ (k:Nat) (sp:Option Addr) (n2 c':Nat),k≤m∧v=.slice sp n2 c'∧i=.int .i64 (k:Int)∧Hid ((L1++(l.take k).filter (fun x=>ltL z x)).length=n2)∧Hid (zjm (w.heap.size+1) wr sp c' (L1++(l.take k).filter (fun x=>ltL z x)))∧Hid (Below (w.heap.size+1) V wr)) (fun _ i _=>m - (intOf i).toNat)
   case atStart=>exact⟨0,_,n+1,_,by omega,rfl,rfl,zaa (by simpa using za N2),zaa (by simpa using za O2),B2⟩
   case round =>
    obtain⟨k,sp3,n2,c3,hk,rfl,rfl,NL,OW,BB⟩:=hrel;have PK:=zaa (za XP _ (za BB));have HB:=zaa (show w.heap.size+1≤wr.heap.size by have:=(za BB).size;have:=za Z2;omega);have e3:=zab (za XR _ (za BB)) 3 (.slice a m c) rfl;by_cases hjm:k<m
    ·as_aux_lemma =>
     have y0:(0:Int)≤(k:Int):=by omega
     have y1:(k:Int)<(m:Int):=by omega
     have hjl:k<l.length:=by rw[za HM];exact hjm
     have FT:=zaa (zbr (fun x=>ltL z x) l k hjl);obtain⟨g,rfl,hg1,q0,q1,q2,q3⟩:=(za HL).cell k hjl;have HN:=zaa (za FD k);generalize l[k]=x at *;have KP:=zaa (show ∀ W:World,Below wr.heap.size wr W→W.cell? ⟨r,3,none⟩=some (.slice (some ⟨g,0,none⟩) m c)∧W.cell? ⟨w.heap.size,0,none⟩=some (.int .i64 z.id)∧W.cell? ⟨g,k*4,none⟩=some (.int .i64 x.id)∧W.cell? ⟨g,k*4+1,none⟩=some (.int .i64 x.seq)∧W.cell? ⟨g,k*4+2,none⟩=some (.int .i64 x.e)∧W.cell? ⟨g,k*4+3,none⟩=some (.int .i64 x.ver) from fun W hb=>⟨cell_later hb e3,cell_later hb (zab (za PK) 0 _ rfl),cell_later hb (cell_later (za FB _ (za BB)) q0),cell_later hb (cell_later (za FB _ (za BB)) q1),cell_later hb (cell_later (za FB _ (za BB)) q2),cell_later hb (cell_later (za FB _ (za BB)) q3)⟩);clear q0 q1 q2 q3 e3;obtain⟨e3,z0,p0,p1,p2,p3⟩:=za KP _ (Below.refl _ _);have BN:∀ k,Below wr.heap.size wr (wr.drewN k):=fun k=>⟨(Below.refl wr.heap.size wr).os,(Below.refl wr.heap.size wr).tape,(Below.refl wr.heap.size wr).output,(Below.refl wr.heap.size wr).size,(Below.refl wr.heap.size wr).block⟩
     by_cases hlt:z.id<x.id
     ·as_aux_lemma =>
      rw[show ltL z x=true from decide_eq_true hlt,if_pos rfl] at FT
      go_wp2_with fail
      go_quiet (fail)
      generalize hVN:wr.drewN _=V1;have G:=zaa (show Below wr.heap.size wr V1 from hVN ▸ BN _);clear BN hVN;obtain⟨e3,z0,p0,p1,p2,p3⟩:=za KP _ (za G);have OA:=zaa (show zjm (w.heap.size+1) (V1.alloc (.cells #[.int .i64 x.id,.int .i64 x.seq,.int .i64 x.e,.int .i64 x.ver] 123)) sp3 c3 (L1++(l.take k).filter (fun x=>ltL z x)) from zae (za OW) ((za G).alloc (za G).size _));have XA:=zaa (zac V1 (.cells #[.int .i64 x.id,.int .i64 x.seq,.int .i64 x.e,.int .i64 x.ver] 123));have GA:=zaa (show Below wr.heap.size wr (V1.alloc (.cells #[.int .i64 x.id,.int .i64 x.seq,.int .i64 x.e,.int .i64 x.ver] 123)) from(za G).alloc (za G).size _)
      go_wp2_with (at_builtin;refine zde rfl (.tmp 62) (.tmp 70) rfl (w.heap.size+1) sp3 n2 c3 _ rfl (za NL) (za OA) _ x rfl (za XA) (by have h1:=za NL;have h2:=za HN;have h3:=za N2;have h4:=za LL;rw[List.length_append] at h1;omega) (by have:=(za GA).size;have:=za HB;omega) ?_;intro sp4 c4 W4 ho hb2;have O4:=zaa ho;have BW:=zaa hb2;clear ho hb2)
      exact⟨⟨k+1,sp4,n2+1,c4,by omega,rfl,by go_num,zaa (by rw[za FT,← List.append_assoc,List.length_append,za NL];rfl),zaa (by rw[za FT,← List.append_assoc];exact za O4),zaa ((za BB).trans (((za GA).mono (za HB)).trans (za BW)))⟩,by simp[intOf];omega⟩
     ·as_aux_lemma =>
      rw[show ltL z x=false from decide_eq_false hlt,if_neg (by decide),List.append_nil] at FT
      go_wp2_with fail
      go_quiet (fail)
      generalize hVN:wr.drewN _=V1;have G:=zaa (show Below wr.heap.size wr V1 from hVN ▸ BN _);clear BN hVN
      go_wp2
      exact⟨⟨k+1,sp3,n2,c3,by omega,rfl,by go_num,zaa (by rw[za FT];exact za NL),zaa (by rw[za FT];exact zae (za OW) (za G)),zaa ((za BB).trans ((za G).mono (za HB)))⟩,by simp[intOf];omega⟩
    ·as_aux_lemma =>
     have hjj:¬ (k:Int)<(m:Int):=by omega
     obtain rfl:m=k:=by omega
     have E2:=zaa (show(l.take m).filter (fun x=>ltL z x)=l.filter (fun x=>ltL z x) by rw[List.take_of_length_le (by rw[za HM];exact Nat.le_refl _)]);rw[za E2,za WRE] at NL OW;have XR9:=zaa (za XR _ (za BB));have fo:wr.frozen? ⟨r,3,none⟩=false:=by simp[World.frozen?,za XR9]
     have G4:=zaa (zaf wr r 3 (.slice sp3 n2 c3));have A4:=zaa (show(wr.setCell ⟨r,3,none⟩ (.slice sp3 n2 c3)).heap[r]? = some (.cells #[V0,V1,V2,.slice sp3 n2 c3] 119 (0,0)) from heap_setCell_same wr r 3 _ 119 (.slice sp3 n2 c3) (za XR9));have O9:=zaa (zak (za OW) (za G4) (za XR9) (by decide));have HG:=zaa (show w.grownBy (wr.setCell ⟨r,3,none⟩ (.slice sp3 n2 c3)) (some r) from zah (zai (za7 w (some r)) (za FB _ (za BB))) (za G4))
     go_wp2
     generalize wr.setCell ⟨r,3,none⟩ (.slice sp3 n2 c3)=W9 at *
     go_end0
     exact⟨rfl,sp3,c3,zb4 (za O9) (by omega),by rw[za NL];exact za A4,za HG⟩
theorem zse {w:World} {b k:Nat} {v:Value} (h:w.cell? ⟨b,k,none⟩=some v):b<w.heap.size:=by
 rcases Nat.lt_or_ge b w.heap.size with hb|hb
 ·exact hb
 ·have:w.heap[b]? = none:=Array.getElem?_eq_none hb;simp[World.cell?,this] at h
structure RfH where
 ra:Option Addr
 rc:Nat
 pa:Option Addr
 pc:Nat
 la:Option Addr
 lc:Nat
def zrn (y:Sm) (k:RfH):Array Value:=#[.int .i64 y.ver,.slice k.ra y.rs.length k.rc,.slice k.pa y.ps.length k.pc,.slice k.la y.cl.length k.lc]
structure RtAt (w:World) (r:Nat) (k:RfH) (y:Sm):Prop where
 hd:w.heap[r]? = some (.cells (zrn y k) 119 (0,0))
 rw_:zdo 0 w k.ra k.rc y.rs
 pw:za8 0 w k.pa k.pc (y.ps.map Pq.pr)
 lw:zjm 0 w k.la k.lc y.cl
 dt:∀ p∈y.ps,TgD w p
theorem RtAt.later {w w':World} {r:Nat} {k:RfH} {y:Sm} (s:RtAt w r k y) (hb:Below w.heap.size w w'):RtAt w' r k y:=⟨zad hb s.hd,zae s.rw_ hb,zae s.pw hb,zae s.lw hb,fun p hp=>(s.dt p hp).later hb⟩
theorem RtAt.lt {w:World} {r:Nat} {k:RfH} {y:Sm} (s:RtAt w r k y):r<w.heap.size:=(Array.getElem?_eq_some_iff.1 s.hd).1
theorem zmt (w:World):Calls Tryz.prog 32 #[] w fun e w'=>∃ r,e=.returned (.pointer (some ⟨r,0,none⟩))∧RtAt w' r ⟨none,0,none,0,none,0⟩ sm0∧Below w.heap.size w w'∧w.heap.size≤r:=by
 have hb:=zaa (show Below w.heap.size w (w.alloc (.cells #[.int .i64 0,.slice none 0 0,.slice none 0 0,.slice none 0 0] 119)) from(Below.refl _ _).alloc (Nat.le_refl _) _);have hx:=zaa (zac w (.cells #[.int .i64 0,.slice none 0 0,.slice none 0 0,.slice none 0 0] 119));go_enter Tryz.func32,Tryz.ntmps32
 go_wp2
 go_ret
 exact⟨w.heap.size,rfl,⟨za hx,zdo.ofNil _ _,za8.ofNil _ _,zjm.ofNil _ _,by simp[sm0]⟩,za hb,Nat.le_refl _⟩
theorem zlf {w:World} {a:Option Addr} {c r m:Nat} {l:List Ls} {V0 V1 V2:Value} (h:zjm 0 w a c l) (hm:l.length=m) (hn:m≤1000) (hr:w.heap[r]? = some (.cells #[V0,V1,V2,.slice a m c] 119 (0,0))) (id:Int) :
  Calls Tryz.prog 35 #[.pointer (some ⟨r,0,none⟩),.int .i64 id] w fun e w'=>e=.returned (.tuple #[.int .i64 ((zax lid id l).getD ⟨id,0,0,0⟩).seq,.agg #[.int .i64 ((zax lid id l).getD ⟨id,0,0,0⟩).e,.int .i64 ((zax lid id l).getD ⟨id,0,0,0⟩).ver]])∧Below w.heap.size w w':=by
 have HL:=zaa h;have HM:=zaa hm;have HR:=zaa hr;have RL:=zaa (Array.getElem?_eq_some_iff.1 hr).1;have TG:=zaa (show ∀ t,(zax lid id l).getD ⟨id,0,0,0⟩=t→(zax lid id l).getD ⟨id,0,0,0⟩=t from fun t e=>e);have LG:=zaa (show ∀ t,zax lid id l=some t→(zax lid id l).getD ⟨id,0,0,0⟩=t from fun t e=>by rw[e];rfl);have LN:=zaa (show zax lid id l=none→(zax lid id l).getD ⟨id,0,0,0⟩=⟨id,0,0,0⟩ from fun e=>by rw[e];rfl);generalize (zax lid id l).getD ⟨id,0,0,0⟩=t at *;have b1:=zaa (show Below w.heap.size w (w.alloc (.cells #[.int .i64 0,.int .i64 0] 38)) from(Below.refl _ _).alloc (Nat.le_refl _) _);have X1:=zaa (zac w (.cells #[.int .i64 0,.int .i64 0] 38));have S1:=zaa (show(w.alloc (.cells #[.int .i64 0,.int .i64 0] 38)).heap.size=w.heap.size+1 by simp);clear h hm hr TG;go_enter Tryz.func35,Tryz.ntmps35
 go_wp2_with fail
 generalize w.alloc (.cells #[.int .i64 0,.int .i64 0] 38)=V at *;have FB:=zaa (show ∀ W:World,Below V.heap.size V W→Below w.heap.size w W from fun W hb=>(za b1).trans (hb.mono (za b1).size));go_loopw [6] (fun i wr=>∃ j:Nat,j≤m∧i=.int .i64 (j:Int)∧Hid (zax lid id l=zax lid id (l.drop j))∧Hid (Below V.heap.size V wr)) (fun i _=>m - (intOf i).toNat)
 case atStart=>exact⟨0,by omega,rfl,zaa rfl,zaa (Below.refl _ _)⟩
 case round =>
  obtain⟨j,hj,rfl,DJ,BB⟩:=hrel;have XR:=zaa (zad (za FB _ (za BB)) (za HR));have e3:=zab (za XR) 3 (.slice a m c) rfl;have XZ:=zaa (zad (za BB) (za X1));by_cases hjm:j<m
  ·as_aux_lemma =>
   have y0:(0:Int)≤(j:Int):=by omega
   have y1:(j:Int)<(m:Int):=by omega
   have hjl:j<l.length:=by rw[za HM];exact hjm
   have DC:=zaa (show l.drop j=l[j]::l.drop (j+1) from List.drop_eq_getElem_cons hjl);obtain⟨g,rfl,hg1,q0,q1,q2,q3⟩:=(za HL).cell j hjl;generalize l[j]=x at *;have p0:=cell_later (za FB _ (za BB)) q0;have p1:=cell_later (za FB _ (za BB)) q1;have p2:=cell_later (za FB _ (za BB)) q2;have p3:=cell_later (za FB _ (za BB)) q3;have QL:=zaa q0;clear q0 q1 q2 q3;rw[za DC,zgc] at DJ;by_cases hx:x.id=id
   ·as_aux_lemma =>
    rw[show lid x=x.id from rfl,if_pos hx] at DJ;have ET:=zaa (za LG x (za DJ));have hss:decide (x.id=id)=true:=decide_eq_true hx
    go_wp2_with fail
    have KS:=zaa (show wr.drew.cell? ⟨r,3,none⟩=some (.slice (some ⟨g,0,none⟩) m c)∧wr.drew.cell? ⟨g,j*4+1,none⟩=some (.int .i64 x.seq)∧wr.drew.cell? ⟨g,j*4+2,none⟩=some (.int .i64 x.e)∧wr.drew.cell? ⟨g,j*4+3,none⟩=some (.int .i64 x.ver) from⟨e3,p1,p2,p3⟩);have XZ2:=zaa (show wr.drew.heap[w.heap.size]? = some (.cells #[.int .i64 0,.int .i64 0] 38 (0,0)) from za XZ);have BD:=zaa (show Below w.heap.size w wr.drew from(za FB _ (za BB)).drew);have GL:=zaa (zse (za QL));refine wp_region_held_drew (S:=fun w'=>w'.cell? ⟨r,3,none⟩=some (.slice (some ⟨g,0,none⟩) m c)∧w'.cell? ⟨g,j*4+1,none⟩=some (.int .i64 x.seq)∧w'.cell? ⟨g,j*4+2,none⟩=some (.int .i64 x.e)∧w'.cell? ⟨g,j*4+3,none⟩=some (.int .i64 x.ver)) (by kernel_rfl) ?_ (fun hHeld=>?_)
    ·try dsimp only
     first|exact za KS|exact za KS2
    refine hT 0 ?_;refine hT 1 ?_;refine hT 2 ?_;refine hT 3 ?_;refine hT 4 ?_;refine hT 5 ?_;refine hT 6 ?_;refine hT 7 ?_;refine hT 8 ?_;refine hT 9 ?_;refine hT 10 ?_;refine hT 11 ?_;refine hT 12 ?_;refine hT 13 ?_;refine hT 14 ?_;refine hT 15 ?_;refine hT 16 ?_;refine wpAnyH_ready (rs:=[17]) (by kernel_rfl) (by simp) ?_;refine AllReadyH.cons rfl (fun K hK=>?_) ?_
    ·have z0:=zab (za XZ) 0 (.int .i64 0) rfl;have z1:=zab (za XZ) 1 (.int .i64 0) rfl;have f0:wr.frozen? ⟨w.heap.size,0,none⟩=false:=by simp[World.frozen?,za XZ]
     have f1:wr.frozen? ⟨w.heap.size,1,none⟩=false:=by simp[World.frozen?,za XZ]
     have A1:=zaa (show((wr.setCell ⟨w.heap.size,0,none⟩ (.int .i64 x.e)).setCell ⟨w.heap.size,1,none⟩ (.int .i64 x.ver)).drew.heap[w.heap.size]? = some (.cells #[.int .i64 x.e,.int .i64 x.ver] 38 (0,0)) from zav (zav (za XZ) 0 (.int .i64 x.e) #[.int .i64 x.e,.int .i64 0] rfl) 1 (.int .i64 x.ver) #[.int .i64 x.e,.int .i64 x.ver] rfl);have G1:=zaa (show wr.grownBy ((wr.setCell ⟨w.heap.size,0,none⟩ (.int .i64 x.e)).setCell ⟨w.heap.size,1,none⟩ (.int .i64 x.ver)).drew (some w.heap.size) from zai (zah (zaf wr w.heap.size 0 (.int .i64 x.e)) (zaf _ w.heap.size 1 (.int .i64 x.ver))) (Below.refl _ _).drew);have kr:=(za G1).block r (Nat.lt_of_lt_of_le (za RL) (za BD).size) (fun e=>by have:=Option.some.inj e;have:=za RL;omega);have kg:=(za G1).block g (Nat.lt_of_lt_of_le (za GL) (za BD).size) (fun e=>by have:=Option.some.inj e;have:=za GL;omega);have KS2:=zaa (And.intro ((World.cell?_of_block kr).trans (za KS).1) (And.intro ((World.cell?_of_block kg).trans (za KS).2.1) (And.intro ((World.cell?_of_block kg).trans (za KS).2.2.1) ((World.cell?_of_block kg).trans (za KS).2.2.2))));clear kr kg;go_simp
     clear z0 z1 f0 f1;refine hK.out _ _ ?_ (fun hHeld=>?_)
     ·try dsimp only
      first|exact za KS|exact za KS2
     clear hK K;refine hP ?_;refine wpAnyH_done (by kernel_rfl) ?_ _;generalize ((wr.setCell ⟨w.heap.size,0,none⟩ (.int .i64 x.e)).setCell ⟨w.heap.size,1,none⟩ (.int .i64 x.ver)).drew=W9 at *;clear hHeld KS KS2
     go_wp2
     have g0:=zab (za A1) 0 (.int .i64 x.e) rfl;have g1:=zab (za A1) 1 (.int .i64 x.ver) rfl;refine bodyPost_ret (v:=.tuple #[.int .i64 x.seq,.agg #[.int .i64 x.e,.int .i64 x.ver]]) (by simp[results,Tryz.results35,go_sem,g0,g1]) rfl ⟨by rw[za ET],(za FB _ (za BB)).grown (za G1) (za FB _ (za BB)).size (fun g e=>by have:=Option.some.inj e;omega)⟩
    exact AllReadyH.nil
   ·as_aux_lemma =>
    rw[show lid x=x.id from rfl,if_neg hx] at DJ;have hss:decide (x.id=id)=false:=decide_eq_false hx
    go_wp2
    exact⟨⟨j+1,by omega,by go_num,DJ,BB⟩,by simp[intOf];omega⟩
  ·as_aux_lemma =>
   have hjj:¬ (j:Int)<(m:Int):=by omega
   obtain rfl:m=j:=by omega
   rw[List.drop_of_length_le (by rw[za HM];exact Nat.le_refl _)] at DJ;have ET:=zaa (za LN (za DJ));have z0:=zab (za XZ) 0 (.int .i64 0) rfl;have z1:=zab (za XZ) 1 (.int .i64 0) rfl;have f0:wr.frozen? ⟨w.heap.size,0,none⟩=false:=by simp[World.frozen?,za XZ]
   have f1:wr.frozen? ⟨w.heap.size,1,none⟩=false:=by simp[World.frozen?,za XZ]
   have A1:=zaa (zav (zav (za XZ) 0 (.int .i64 0) #[.int .i64 0,.int .i64 0] rfl) 1 (.int .i64 0) #[.int .i64 0,.int .i64 0] rfl);have G1:=zaa (zah (zaf wr w.heap.size 0 (.int .i64 0)) (zaf _ w.heap.size 1 (.int .i64 0)))
   go_wp2
   generalize (wr.setCell ⟨w.heap.size,0,none⟩ (.int .i64 0)).setCell ⟨w.heap.size,1,none⟩ (.int .i64 0)=W9 at *;clear z0 z1 f0 f1;have g0:=zab (za A1) 0 (.int .i64 0) rfl;have g1:=zab (za A1) 1 (.int .i64 0) rfl;refine bodyPost_ret (v:=.tuple #[.int .i64 0,.agg #[.int .i64 0,.int .i64 0]]) (by simp[results,Tryz.results35,go_sem,g0,g1]) rfl ⟨by rw[za ET],(za FB _ (za BB)).grown (za G1) (za FB _ (za BB)).size (fun g e=>by have:=Option.some.inj e;omega)⟩
end
end Go.Proofs.YtjcjleaicjhpeaaGreatDoor
