/- Conf, plain: what a command leaves true of a store; two stores that hold the same do the same. -/
import Derived.Test.YtjcjleaicjhpeaaGreatDoorB22
import Derived.Test.YtjcjleaicjhpeaaGreatDoorB23
import Derived.Test.YtjcjleaicjhpeaaGreatDoorB01
import Derived.Test.YtjcjleaicjhpeaaGreatDoorB14
import Derived.Test.YtjcjleaicjhpeaaGreatDoorB26
import Derived.Test.YtjcjleaicjhpeaaGreatDoorB27
set_option linter.unusedVariables false
set_option maxRecDepth 20000
set_option maxHeartbeats 16000000
namespace Go.Proofs.YtjcjleaicjhpeaaGreatDoor
section
open Go.ChangeShapes Go.WideShapes Go.ChangeAt Go.RowKit
section
variable {κ α:Type} [Kord κ]
theorem zhf (kf:α→κ) (a p:α):∀ l:List α,p∈l→∃ q∈zbq kf a l,kf q=kf p
 |b::l,h=>by
  rw[zb7];by_cases h1:Kord.lt (kf b) (kf a)
  ·rw[if_pos h1];rcases List.mem_cons.1 h with rfl|h
   ·exact⟨_,List.mem_cons_self,rfl⟩
   ·obtain⟨q,hq,e⟩:=zhf kf a p l h;exact⟨q,List.mem_cons_of_mem _ hq,e⟩
  ·rw[if_neg h1];by_cases h2:kf b=kf a
   ·rw[if_pos h2];rcases List.mem_cons.1 h with rfl|h
    ·exact⟨a,List.mem_cons_self,h2.symm⟩
    ·exact⟨p,List.mem_cons_of_mem _ h,rfl⟩
   ·rw[if_neg h2];exact⟨p,List.mem_cons_of_mem _ h,rfl⟩
end
theorem SmI.len {x:Sm} (h:SmI x):(zaq x.cf).length=2+(x.ps.flatMap (fun q=>zav q.po)).length+(x.rs.flatMap zao).length:=by
 rw[show x.cf=⟨x.ver,x.rs,x.ps.map Pq.po⟩ from rfl,zbz _ _ _ (by rw[List.length_map];have:=h.pn;omega) (by have:=h.rn;omega),zco]
theorem SmI.putP {x:Sm} (h:SmI x) (q:Pq):SmI (zc q x).2:=by
 have hs:=zft qnm (fun q=>zav q.po) q x.ps h.kp;have hl:=zfh qnm q x.ps h.kp;have hsz:=h.len;have hpn:=h.pn;have hrn:=h.rn;rw[show qnm q=q.po.nm from rfl] at hs hl
 have mk:(zbq qnm q x.ps).length≤32→2+((zbq qnm q x.ps).flatMap (fun q=>zav q.po)).length+(x.rs.flatMap zao).length≤12000→SmI { x with ps:=zbq qnm q x.ps }:=fun h1 h2=>⟨h.kp.put q,h.kr,h.kc,by
  show(zaq ⟨x.ver,x.rs,(zbq qnm q x.ps).map Pq.po⟩).length≤12000
  rw[zbz _ _ _ (by rw[List.length_map];omega) (by omega),zco];exact h2,h1,h.rn,fun r hr=>by
  obtain⟨p,hp,e⟩:=h.th r hr;obtain⟨p',hp',e'⟩:=zhf qnm q p x.ps hp
  exact⟨p',hp',e'.trans e⟩⟩
 unfold zc;cases hg:zau qnm q.po.nm x.ps with
 |none =>
  rw[hg] at hs hl;dsimp only at hs ⊢;simp only[Option.isSome,Bool.false_eq_true,if_false] at hl;split
  ·exact h
  ·split
   ·exact mk (by omega) (by omega)
   ·exact h
 |some o =>
  rw[hg] at hs hl;dsimp only at hs ⊢;simp only[Option.isSome,if_true] at hl;split
  ·exact mk (by omega) (by omega)
  ·exact h
theorem SmI.putR {x:Sm} (h:SmI x) (r:Rt):SmI (zbm r x).2:=by
 have hs:=zft rpl zao r x.rs h.kr;have hl:=zfh rpl r x.rs h.kr;have hsz:=h.len;have hpn:=h.pn;have hrn:=h.rn;rw[show rpl r=(r.h,r.p) from rfl] at hs hl
 have mk:(∃ p∈x.ps,qnm p=r.l)→(zbq rpl r x.rs).length≤64→2+(x.ps.flatMap (fun q=>zav q.po)).length+((zbq rpl r x.rs).flatMap zao).length≤12000→SmI { x with rs:=zbq rpl r x.rs }:=fun h0 h1 h2=>⟨h.kp,h.kr.put r,h.kc,by
  show(zaq ⟨x.ver,zbq rpl r x.rs,x.ps.map Pq.po⟩).length≤12000
  rw[zbz _ _ _ (by rw[List.length_map];omega) (by omega),zco];exact h2,h.pn,h1,fun q hq=>by
  rcases zen rpl r q x.rs hq with rfl|hq
  ·exact h0
  ·exact h.th q hq⟩
 unfold zbm;cases hp:zau qnm r.l x.ps with
 |none=>exact h
 |some p =>
  have hm:=zh7 qnm r.l p x.ps hp;dsimp only;cases hg:zau rpl (r.h,r.p) x.rs with
  |none =>
   rw[hg] at hs hl;dsimp only at hs ⊢;simp only[Option.isSome,Bool.false_eq_true,if_false] at hl;split
   ·exact h
   ·split
    ·exact mk ⟨p,hm⟩ (by omega) (by omega)
    ·exact h
  |some o =>
   rw[hg] at hs hl;dsimp only at hs ⊢;simp only[Option.isSome,if_true] at hl;split
   ·exact mk ⟨p,hm⟩ (by omega) (by omega)
   ·exact h
theorem SmI.dropP {x:Sm} (h:SmI x) (nm:ByteArray):SmI (zba nm x).2:=by
 unfold zba;cases hp:zau qnm nm x.ps with
 |none=>exact h
 |some p =>
  dsimp only;split
  ·exact h
  ·rename_i hu
   have h3:=zdr (fun q:Pq=>zav q.po) (fun q=>decide (qnm q≠nm)) x.ps;have h4:=List.length_filter_le (fun q:Pq=>decide (qnm q≠nm)) x.ps;have hsz:=h.len;have hz:=h.sz;have hpn:=h.pn;have hrn:=h.rn;refine⟨h.kp.del nm,h.kr,h.kc,?_,?_,h.rn,fun r hr=>?_⟩
   ·show(zaq ⟨x.ver,x.rs,(zdd qnm nm x.ps).map Pq.po⟩).length≤12000
    rw[zbz _ _ _ (by rw[List.length_map];unfold zdd;omega) (by omega),zco];unfold zdd;omega
   ·show(zdd qnm nm x.ps).length≤32
    unfold zdd;omega
   ·obtain⟨p',hp',e⟩:=h.th r hr;refine⟨p',List.mem_filter.2 ⟨hp',decide_eq_true (fun k=>hu ?_)⟩,e⟩;exact List.any_eq_true.2 ⟨r,hr,decide_eq_true (e.symm.trans k)⟩
theorem SmI.dropR {x:Sm} (h:SmI x) (p:Pl):SmI (zbd p x).2:=by
 unfold zbd;cases hp:zau rpl p x.rs with
 |none=>exact h
 |some o =>
  have h3:=zdr zao (fun q=>decide (rpl q≠p)) x.rs;have h4:=List.length_filter_le (fun q:Rt=>decide (rpl q≠p)) x.rs;have hsz:=h.len;have hz:=h.sz;have hpn:=h.pn;have hrn:=h.rn;refine⟨h.kp,h.kr.del p,h.kc,?_,h.pn,?_,fun r hr=>h.th r (List.mem_filter.1 hr).1⟩
  ·show(zaq ⟨x.ver,zdd rpl p x.rs,x.ps.map Pq.po⟩).length≤12000
   rw[zbz _ _ _ (by rw[List.length_map];omega) (by unfold zdd;omega),zco];unfold zdd;omega
  ·show(zdd rpl p x.rs).length≤64
   unfold zdd;omega
theorem SmI.actN {x:Sm} (h:SmI x) (c:Cmd) (a':Option Addr) (tc':Nat):SmI (actN c a' tc' x).2:=by
 unfold Go.Proofs.YtjcjleaicjhpeaaGreatDoor.actN;split
 ·exact h.putP _
 split
 ·exact h.dropP _
 split
 ·exact h.putR _
 ·exact h.dropR _
theorem SmI.ver {x:Sm} (h:SmI x) (v:Int):SmI { x with ver:=v }:=⟨h.kp,h.kr,h.kc,h.sz,h.pn,h.rn,h.th⟩
theorem SmI.done {x:Sm} (h:SmI x) (c:Cmd) (a':Option Addr) (tc':Nat):SmI (za5 (zbp c a' tc' x)).2:=by
 have h1:SmI (zbp c a' tc' x).2:=by
  by_cases hs:0≤c.exp∧c.exp≠x.ver
  ·unfold zbp;rw[if_pos hs];exact h
  ·have e:zbp c a' tc' x=Go.Proofs.YtjcjleaicjhpeaaGreatDoor.actN c a' tc' x:=by
    unfold zbp Go.Proofs.YtjcjleaicjhpeaaGreatDoor.actN;rw[if_neg hs]
   rw[e];exact h.actN c a' tc'
 unfold za5;split
 ·exact h1.ver _
 ·exact h1
theorem SmI.do {x:Sm} (h:SmI x) (c:Cmd) (a':Option Addr) (tc':Nat):SmI (doS c a' tc' x).2:=by
 have h1:=h.done c a' tc';unfold doS;split
 ·exact h
 split
 ·exact h1
 split
 ·exact h
 split
 ·exact h
 ·exact⟨h1.kp,h1.kr,h1.kc.put _,h1.sz,h1.pn,h1.rn,h1.th⟩
structure SmE (x y:Sm):Prop where
 ver:x.ver=y.ver
 rs:x.rs=y.rs
 cl:x.cl=y.cl
 ps:x.ps.map Pq.po=y.ps.map Pq.po
theorem SmE.refl (x:Sm):SmE x x:=⟨rfl,rfl,rfl,rfl⟩
theorem SmE.cf {x y:Sm} (h:SmE x y):x.cf=y.cf:=by
 unfold Sm.cf;rw[h.ver,h.rs,h.ps]
theorem SmE.len {x y:Sm} (h:SmE x y):x.ps.length=y.ps.length:=by
 have:=congrArg List.length h.ps
 rwa [List.length_map,List.length_map] at this
theorem SmE.get {x y:Sm} (h:SmE x y) (nm:ByteArray):(zau qnm nm x.ps).map Pq.po=(zau qnm nm y.ps).map Pq.po:=by
 rw[← zh6 qnm Pq.po pnm (fun _=>rfl) nm x.ps,h.ps,zh6 qnm Pq.po pnm (fun _=>rfl) nm y.ps]
theorem SmE.putp {x y:Sm} (h:SmE x y) (p:Po) (a b:Option Addr) (m n:Nat):SmE { x with ps:=zbq qnm ⟨p,a,m⟩ x.ps } { y with ps:=zbq qnm ⟨p,b,n⟩ y.ps } :=
 ⟨h.ver,h.rs,h.cl,by
  show(zbq qnm ⟨p,a,m⟩ x.ps).map Pq.po=(zbq qnm ⟨p,b,n⟩ y.ps).map Pq.po
  rw[zgj qnm Pq.po pnm (fun _=>rfl) ⟨p,a,m⟩ x.ps,zgj qnm Pq.po pnm (fun _=>rfl) ⟨p,b,n⟩ y.ps,h.ps]⟩
theorem SmE.delp {x y:Sm} (h:SmE x y) (nm:ByteArray):SmE { x with ps:=zdd qnm nm x.ps } { y with ps:=zdd qnm nm y.ps } :=
 ⟨h.ver,h.rs,h.cl,by
  show(zdd qnm nm x.ps).map Pq.po=(zdd qnm nm y.ps).map Pq.po
  rw[zh4 qnm Pq.po pnm (fun _=>rfl) nm x.ps,zh4 qnm Pq.po pnm (fun _=>rfl) nm y.ps,h.ps]⟩
theorem SmE.putP {x y:Sm} (h:SmE x y) (p:Po) (a b:Option Addr) (m n:Nat):(zc ⟨p,a,m⟩ x).1=(zc ⟨p,b,n⟩ y).1∧SmE (zc ⟨p,a,m⟩ x).2 (zc ⟨p,b,n⟩ y).2:=by
 have hg:=h.get p.nm;have hp:=h.putp p a b m n;unfold zc;dsimp only;rw[h.cf,h.len];cases e1:zau qnm p.nm x.ps with
 |none =>
  cases e2:zau qnm p.nm y.ps with
  |none =>
   dsimp only;split
   ·exact⟨rfl,h⟩
   ·split
    ·exact⟨rfl,hp⟩
    ·exact⟨rfl,h⟩
  |some o=>rw[e1,e2] at hg;cases hg
 |some o =>
  cases e2:zau qnm p.nm y.ps with
  |none=>rw[e1,e2] at hg;cases hg
  |some o2 =>
   rw[e1,e2] at hg;have ho:o.po=o2.po:=Option.some.inj hg;dsimp only;rw[ho];split
   ·exact⟨rfl,hp⟩
   ·exact⟨rfl,h⟩
theorem SmE.dropP {x y:Sm} (h:SmE x y) (nm:ByteArray):(zba nm x).1=(zba nm y).1∧SmE (zba nm x).2 (zba nm y).2:=by
 have hg:=h.get nm;have hp:=h.delp nm;unfold zba;rw[h.rs];cases e1:zau qnm nm x.ps with
 |none =>
  cases e2:zau qnm nm y.ps with
  |none=>exact⟨rfl,h⟩
  |some o=>rw[e1,e2] at hg;cases hg
 |some o =>
  cases e2:zau qnm nm y.ps with
  |none=>rw[e1,e2] at hg;cases hg
  |some o2 =>
   dsimp only;split
   ·exact⟨rfl,h⟩
   ·exact⟨rfl,⟨h.ver,rfl,h.cl,hp.ps⟩⟩
theorem SmE.putR {x y:Sm} (h:SmE x y) (r:Rt):(zbm r x).1=(zbm r y).1∧SmE (zbm r x).2 (zbm r y).2:=by
 have hg:=h.get r.l;unfold zbm;rw[h.cf,h.rs];have same:SmE { x with rs:=zbq rpl r y.rs } { y with rs:=zbq rpl r y.rs }:=⟨h.ver,rfl,h.cl,h.ps⟩
 cases e1:zau qnm r.l x.ps with
 |none =>
  cases e2:zau qnm r.l y.ps with
  |none=>exact⟨rfl,h⟩
  |some o=>rw[e1,e2] at hg;cases hg
 |some o =>
  cases e2:zau qnm r.l y.ps with
  |none=>rw[e1,e2] at hg;cases hg
  |some o2 =>
   dsimp only;cases zau rpl (r.h,r.p) y.rs with
   |none =>
    dsimp only;split
    ·exact⟨rfl,h⟩
    ·split
     ·exact⟨rfl,same⟩
     ·exact⟨rfl,h⟩
   |some o3 =>
    dsimp only;split
    ·exact⟨rfl,same⟩
    ·exact⟨rfl,h⟩
theorem SmE.dropR {x y:Sm} (h:SmE x y) (p:Pl):(zbd p x).1=(zbd p y).1∧SmE (zbd p x).2 (zbd p y).2:=by
 unfold zbd;rw[h.rs];cases zau rpl p y.rs with
 |none=>exact⟨rfl,h⟩
 |some o=>exact⟨rfl,⟨h.ver,rfl,h.cl,h.ps⟩⟩
theorem SmE.act {x y:Sm} (h:SmE x y) (c:Cmd) (a b:Option Addr) (m n:Nat):(zbp c a m x).1=(zbp c b n y).1∧SmE (zbp c a m x).2 (zbp c b n y).2:=by
 unfold zbp;rw[h.ver];split
 ·exact⟨rfl,h⟩
 split
 ·exact h.putP _ _ _ _ _
 split
 ·exact h.dropP _
 split
 ·exact h.putR _
 ·exact h.dropR _
theorem SmE.done {x y:Sm} (h:SmE x y) (c:Cmd) (a b:Option Addr) (m n:Nat):(za5 (zbp c a m x)).1=(za5 (zbp c b n y)).1∧SmE (za5 (zbp c a m x)).2 (za5 (zbp c b n y)).2:=by
 obtain⟨h1,h2⟩:=h.act c a b m n;unfold za5;rw[h1,h2.ver];split
 ·exact⟨rfl,⟨rfl,h2.rs,h2.cl,h2.ps⟩⟩
 ·exact⟨rfl,h2⟩
theorem SmE.do {x y:Sm} (h:SmE x y) (c:Cmd) (a b:Option Addr) (m n:Nat):(doS c a m x).1=(doS c b n y).1∧SmE (doS c a m x).2 (doS c b n y).2:=by
 obtain⟨h1,h2⟩:=h.done c a b m n;unfold doS;have ht:zce c x=zce c y:=by unfold zce;rw[h.cl]
 rw[ht,h.ver];split
 ·exact⟨rfl,h⟩
 split
 ·exact⟨h1,h2⟩
 split
 ·exact⟨rfl,h⟩
 split
 ·exact⟨rfl,h⟩
 ·exact⟨h1,⟨h2.ver,h2.rs,by show zbq lid _ _=zbq lid _ _;rw[h1,h2.cl],h2.ps⟩⟩
def zkb (e:Int):Prop:=e=0∨e=6∨e=8∨e=12∨e=13
structure LsOk (v:Int) (c:Ls):Prop where
 id:1≤c.id∧c.id≤32
 sq:1≤c.seq∧c.seq≤1099511627776
 er:zkb c.e
 vr:0≤c.ver∧c.ver≤v
structure SmL (x:Sm):Prop where
 vr:0≤x.ver
 cl:∀ c∈x.cl,LsOk x.ver c
theorem smL0:SmL sm0:=⟨by simp[sm0],by simp[sm0]⟩
theorem LsOk.mono {u v:Int} {c:Ls} (h:LsOk u c) (huv:u≤v):LsOk v c:=⟨h.id,h.sq,h.er,h.vr.1,Int.le_trans h.vr.2 huv⟩
theorem zln (c:Cmd) (a':Option Addr) (tc':Nat) (x:Sm):zkb (actN c a' tc' x).1:=by
 unfold actN zc zba zbm zbd zkb
 repeat' split
 all_goals simp
theorem zlo (c:Cmd) (a':Option Addr) (tc':Nat) (x:Sm):zkb (zbp c a' tc' x).1:=by
 by_cases h:0≤c.exp∧c.exp≠x.ver
 ·rw[zkf h];exact .inr (.inr (.inr (.inl rfl)))
 ·rw[zjf h];exact zln c a' tc' x
theorem zk2 (c:Cmd) (a':Option Addr) (tc':Nat) (x:Sm):zkb (za5 (zbp c a' tc' x)).1.1∧(za5 (zbp c a' tc' x)).1.2=(za5 (zbp c a' tc' x)).2.ver∧x.ver≤(za5 (zbp c a' tc' x)).2.ver:=by
 have h1:=zlo c a' tc' x;have h2:=zke c a' tc' x;unfold za5;split
 ·exact⟨.inl rfl,rfl,by dsimp only;omega⟩
 ·exact⟨h1,rfl,by dsimp only;omega⟩
theorem SmL.do {x:Sm} (h:SmL x) (c:Cmd) (a':Option Addr) (tc':Nat):SmL (doS c a' tc' x).2:=by
 obtain⟨d1,d2,d3⟩:=zk2 c a' tc' x;have dc:=zh1 c a' tc' x;have hv:=h.vr;unfold doS;split
 ·exact h
 ·rename_i hk
  have hk:zam c=0:=by simpa using hk
  have hn:=(zb0 hk).1;unfold zbe at hn;simp only[Bool.and_eq_true,decide_eq_true_eq] at hn;split
  ·exact⟨by omega,fun q hq=>by rw[dc] at hq;exact(h.cl q hq).mono d3⟩
  split
  ·exact h
  split
  ·exact h
  ·rename_i hc _ _
   have hs:=hn.1.2;rw[if_neg hc] at hs;simp only[decide_eq_true_eq] at hs;refine⟨by dsimp only;omega,fun q hq=>?_⟩;dsimp only at hq ⊢;rw[dc] at hq;rcases zen lid _ q x.cl hq with rfl|hq
   ·exact⟨by dsimp only;omega,hs,d1,by dsimp only;omega⟩
   ·exact(h.cl q hq).mono d3
def lsB (c:Ls):List Nat:=zap c.id.toNat++(zap c.seq.toNat++(zap c.e.toNat++zap c.ver.toNat))
def zhj (x:Sm):List Nat:=zap x.ver.toNat++(zaq x.cf++(zap x.cl.length++x.cl.flatMap lsB))
theorem SmE.put {x y:Sm} (h:SmE x y):zhj x=zhj y:=by
 unfold zhj;rw[h.cf,h.ver,h.cl]
theorem ns4 (c:Ls):zg1 [c.id.toNat,c.seq.toNat,c.e.toNat,c.ver.toNat]=lsB c:=by simp[zg1,lsB]
theorem zkb.le {e:Int} (h:zkb e):0≤e∧e≤13:=by
 rcases h with rfl|rfl|rfl|rfl|rfl <;> decide
theorem LsOk.row {v:Int} {c:Ls} (h:LsOk v c) (hv:v≤1099511627776):zcc [c.id.toNat,c.seq.toNat,c.e.toNat,c.ver.toNat]=#[.int .i64 c.id,.int .i64 c.seq,.int .i64 c.e,.int .i64 c.ver]∧∀ n∈[c.id.toNat,c.seq.toNat,c.e.toNat,c.ver.toNat],n≤1099511627776:=by
 have h1:=h.id;have h2:=h.sq;have h3:=h.er.le;have h4:=h.vr;refine⟨?_,?_⟩
 ·have e1:(c.id.toNat:Int)=c.id:=by omega
  have e2:(c.seq.toNat:Int)=c.seq:=by omega
  have e3:(c.e.toNat:Int)=c.e:=by omega
  have e4:(c.ver.toNat:Int)=c.ver:=by omega
  simp[zcc,e1,e2,e3,e4]
 ·intro n hn;simp only[List.mem_cons,List.not_mem_nil,or_false] at hn;omega
theorem znv {v:Int} {c:Ls} (h:LsOk v c) (hv:v≤1099511627776):(lsB c).length≤24:=by
 have h1:=h.id;have h2:=h.sq;have h3:=h.er.le;have h4:=h.vr;unfold lsB;have a:=zan c.id.toNat (by omega);have b:=zan c.seq.toNat (by omega);have d:=zan c.e.toNat (by omega);have e:=zan c.ver.toNat (by omega);simp only[List.length_append];omega
theorem zm9 {v:Int} {l:List Ls} (h:∀ c∈l,LsOk v c) (hv:v≤1099511627776) (j:Nat):((l.take j).flatMap lsB).length≤24*j:=by
 have h1:=zb6 lsB 24 (l.take j) (fun c hc=>znv (h c (List.mem_of_mem_take hc)) hv);have h2:(l.take j).length≤j:=by rw[List.length_take];omega
 exact Nat.le_trans h1 (Nat.mul_le_mul_left _ h2)
theorem zls (x:Nat) (w:World):(callFunc 91 #[.float .f64 x]).run Tryz.prog w=.ok (.value (.int .u64 (x:Int))) w:=by
 rw[run_callFunc_extern Tryz.func91 (by kernel_rfl) (by kernel_rfl) (by kernel_rfl) (e:=Extern.MathFloatBits.float64bits) (by kernel_rfl)];rfl
theorem zj3 {w:World} {a b:Option Addr} {l:List Tg} (h1:TgsAt w a l) (h2:TgsAt w b l) (n c1 c2:Nat) (hn:l.length=n) (hx:n≤maxLen) :
  Calls Tryz.prog 47 #[.slice a n c1,.slice b n c2] w fun e w'=>e=.returned (.bool true)∧Below w.heap.size w w':=by
 have H1:=zaa h1;have H2:=zaa h2;have HN:=zaa hn;simp only[maxLen] at hx;clear h1 h2 hn;have hbits:=zls;go_enter Tryz.func47,Tryz.ntmps47
 go_wp2_with fail
 go_loopw [5] (fun i wr=>∃ j:Nat,j≤n∧i=.int .i64 (j:Int)∧Hid (Below w.heap.size w wr)) (fun i _=>n - (intOf i).toNat)
 case atStart=>exact⟨0,by omega,rfl,zaa (Below.refl _ _)⟩
 case round =>
  obtain⟨j,hj,rfl,B⟩:=hrel;by_cases hjn:j<n
  ·have y0:(0:Int)≤(j:Int):=by omega
   have y1:(j:Int)<(n:Int):=by omega
   have hjl:j<l.length:=by rw[za HN];exact hjn
   obtain⟨b1,o1,rfl,q0,q1⟩:=(za H1).cell j hjl;obtain⟨b2,o2,rfl,r0,r1⟩:=(za H2).cell j hjl;have p0:=cell_later (za B) q0;have p1:=cell_later (za B) q1;have s0:=cell_later (za B) r0;have s1:=cell_later (za B) r1;generalize l[j]=t at *;obtain⟨s,x⟩:=t;simp only at p0 p1 s0 s1;have hss:(s.toList==s.toList)=true:=by simp
   have BD:=zaa (show ∀ k,Below w.heap.size w (wr.drewN k) from fun k=>⟨(za B).os,(za B).tape,(za B).output,(za B).size,(za B).block⟩);clear q0 q1 r0 r1
   go_wp2_with fail
   go_quiet (fail)
   go_wp2
   exact⟨⟨j+1,by omega,by go_num,za BD _⟩,by simp[intOf];omega⟩
  ·have hjj:¬ (j:Int)<(n:Int):=by omega
   obtain rfl:j=n:=by omega
   go_wp2
   go_ret
   exact⟨rfl,za B⟩
theorem zj2 {w:World} {e:Cf} {h1 h2:CfH} (hc1:CfAt w e h1) (hc2:CfAt w e h2) :
  Calls Tryz.prog 21 #[zb4 e h1,zb4 e h2] w fun r w'=>r=.returned (.bool true)∧Below w.heap.size w w':=by
 unfold zb4;have b1:Below w.heap.size w (w.alloc (.cells #[.int .i64 e.ver,.slice h1.ra e.rs.length h1.rc,.slice h1.pa e.ps.length h1.pc] 45)):=(Below.refl _ _).alloc (Nat.le_refl _) _;have b2:=b1.alloc b1.size (.cells #[.int .i64 e.ver,.slice h2.ra e.rs.length h2.rc,.slice h2.pa e.ps.length h2.pc] 45);have s1:(w.alloc (.cells #[.int .i64 e.ver,.slice h1.ra e.rs.length h1.rc,.slice h1.pa e.ps.length h1.pc] 45)).heap.size=w.heap.size+1:=by simp
 have X1:=zaa (show((w.alloc (.cells #[.int .i64 e.ver,.slice h1.ra e.rs.length h1.rc,.slice h1.pa e.ps.length h1.pc] 45)).alloc (.cells #[.int .i64 e.ver,.slice h2.ra e.rs.length h2.rc,.slice h2.pa e.ps.length h2.pc] 45)).heap[w.heap.size]? = some (.cells #[.int .i64 e.ver,.slice h1.ra e.rs.length h1.rc,.slice h1.pa e.ps.length h1.pc] 45 (0,0)) by rw[Below.heap_alloc _ _ _ (by simp)];exact zad _ _);have X2:=zaa (show((w.alloc (.cells #[.int .i64 e.ver,.slice h1.ra e.rs.length h1.rc,.slice h1.pa e.ps.length h1.pc] 45)).alloc (.cells #[.int .i64 e.ver,.slice h2.ra e.rs.length h2.rc,.slice h2.pa e.ps.length h2.pc] 45)).heap[w.heap.size+1]? = some (.cells #[.int .i64 e.ver,.slice h2.ra e.rs.length h2.rc,.slice h2.pa e.ps.length h2.pc] 45 (0,0)) by rw[← s1];exact zad _ _);have B2:=zaa b2;have R1:=zaa hc1.rts;have R2:=zaa hc2.rts;have P1:=zaa hc1.pos;have P2:=zaa hc2.pos;have hrl:=hc1.rl.1;have hpl:=hc1.pl.1;obtain⟨ver,rs,ps⟩:=e;obtain⟨ra1,rc1,pa1,pc1⟩:=h1;obtain⟨ra2,rc2,pa2,pc2⟩:=h2;simp only at *;simp only[maxLen] at hrl hpl;generalize hn:rs.length=n at *;generalize hm:ps.length=m at *;have HN:=zaa hn;have HM:=zaa hm;clear hc1 hc2 b1 b2 s1 hn hm;have k10:=zab (za X1) 0 _ rfl;have k11:=zab (za X1) 1 _ rfl;have k12:=zab (za X1) 2 _ rfl;have k20:=zab (za X2) 0 _ rfl;have k21:=zab (za X2) 1 _ rfl;have k22:=zab (za X2) 2 _ rfl;go_enter Tryz.func21,Tryz.ntmps21
 go_wp2_with fail
 generalize ((w.alloc (.cells #[.int .i64 ver,.slice ra1 n rc1,.slice pa1 m pc1] 45)).alloc (.cells #[.int .i64 ver,.slice ra2 n rc2,.slice pa2 m pc2] 45))=W2 at *;go_loopw [5] (fun i wr=>∃ j:Nat,j≤m∧i=.int .i64 (j:Int)∧Hid (Below W2.heap.size W2 wr)) (fun i _=>m - (intOf i).toNat)
 case atStart=>exact⟨0,by omega,rfl,zaa (Below.refl _ _)⟩
 case round =>
  obtain⟨j,hj,rfl,B⟩:=hrel;have F:=zaa ((za B2).trans ((za B).mono (za B2).size));by_cases hjn:j<m
  ·have y0:(0:Int)≤(j:Int):=by omega
   have y1:(j:Int)<(m:Int):=by omega
   have hjl:j<ps.length:=by rw[za HM];exact hjn
   obtain⟨g1,o1,ta1,tc1,rfl,q0,q1,T1,hl1,_⟩:=(za P1).cell j hjl;obtain⟨g2,o2,ta2,tc2,rfl,r0,r1,T2,hl2,_⟩:=(za P2).cell j hjl;have p12:=cell_later (za B) k12;have p22:=cell_later (za B) k22;have p0:=cell_later (za F) q0;have p1:=cell_later (za F) q1;have s0:=cell_later (za F) r0;have s1:=cell_later (za F) r1;have BD:=zaa (show Below w.heap.size w wr.drew from(za F).drew);have BW:=zaa (show Below W2.heap.size W2 wr.drew from(za B).drew);have ST:=zaa (fun W (hb:Below w.heap.size w W)=>zj3 (T1.later hb) (T2.later hb) ps[j].ts.length tc1 tc2 rfl hl1.1);generalize ps[j].ts.length=tl at *;generalize ps[j].nm=nm at *;have hss:(nm.toList==nm.toList)=true:=by simp
   have KP:=zaa (show ∀ W:World,Below wr.heap.size wr W→W.cell? ⟨w.heap.size,2,none⟩=some (.slice (some ⟨g1,o1,none⟩) m pc1)∧W.cell? ⟨w.heap.size+1,2,none⟩=some (.slice (some ⟨g2,o2,none⟩) m pc2)∧W.cell? ⟨g1,o1+j*2,none⟩=some (.string nm)∧W.cell? ⟨g2,o2+j*2,none⟩=some (.string nm)∧W.cell? ⟨g1,o1+j*2+1,none⟩=some (.slice ta1 tl tc1)∧W.cell? ⟨g2,o2+j*2+1,none⟩=some (.slice ta2 tl tc2) from fun W hb=>⟨cell_later hb p12,cell_later hb p22,cell_later hb p0,cell_later hb s0,cell_later hb p1,cell_later hb s1⟩);clear q0 q1 r0 r1 T1 T2 hl1 hl2
   go_wp2_with fail
   refine wp_region_held_drew (S:=fun w'=>w'.cell? ⟨w.heap.size,2,none⟩=some (.slice (some ⟨g1,o1,none⟩) m pc1)∧w'.cell? ⟨w.heap.size+1,2,none⟩=some (.slice (some ⟨g2,o2,none⟩) m pc2)∧w'.cell? ⟨g1,o1+j*2,none⟩=some (.string nm)∧w'.cell? ⟨g2,o2+j*2,none⟩=some (.string nm)∧w'.cell? ⟨g1,o1+j*2+1,none⟩=some (.slice ta1 tl tc1)∧w'.cell? ⟨g2,o2+j*2+1,none⟩=some (.slice ta2 tl tc2)) (by kernel_rfl) ?_ (fun hHeld=>?_)
   ·try dsimp only
    first|(have hV:B7=B7:=rfl;clear hV;exact za KP _ (za B7))|exact⟨p12,p22,p0,s0,p1,s1⟩
   refine hT 0 ?_;refine hT 1 ?_;refine hT 2 ?_;refine hT 3 ?_;refine hT 4 ?_;refine hT 5 ?_;refine hT 6 ?_;refine hT 7 ?_;refine hT 8 ?_;refine hT 9 ?_;refine hT 10 ?_;refine hT 11 ?_;refine hT 12 ?_;refine hT 13 ?_;refine hT 14 ?_;refine hT 15 ?_;refine hT 16 ?_;refine hT 17 ?_;refine hT 18 ?_;refine hT 19 ?_;refine hT 20 ?_;refine hT 21 ?_;refine hT 22 ?_;refine hT 23 ?_;refine hT 24 ?_;refine hT 25 ?_;refine hO 26 (fun K hK=>?_);go_simp
   first
    |(go_at_call 47
      refine(za ST _ (za BD)).mono ?_;rintro e V1 ⟨rfl,v1⟩;have B7:=zaa (show Below wr.heap.size wr V1 from⟨v1.os,v1.tape,v1.output,v1.size,v1.block⟩);have B8:=zaa ((za B).trans ((za B7).mono (za B).size))
      clear v1)
   go_wp2_with fail
   refine hK.out _ _ ?_ (fun hHeld=>?_)
   ·try dsimp only
    first|(have hV:B7=B7:=rfl;clear hV;exact za KP _ (za B7))|exact⟨p12,p22,p0,s0,p1,s1⟩
   clear hK K;refine hP ?_;refine hT 27 ?_;refine hT 28 ?_;refine wpAnyH_done (by kernel_rfl) ?_ _
   go_wp2
   exact⟨⟨j+1,by omega,by go_num,za B8⟩,by simp[intOf];omega⟩
  ·have hjj:¬ (j:Int)<(m:Int):=by omega
   obtain rfl:j=m:=by omega
   have p12:=cell_later (za B) k12
   go_wp2_with fail
   go_loopw [6] (fun i wr=>∃ j2:Nat,j2≤n∧i=.int .i64 (j2:Int)∧Hid (Below W2.heap.size W2 wr)) (fun i _=>n - (intOf i).toNat)
   case atStart=>exact⟨0,by omega,rfl,B⟩
   case round =>
    obtain⟨j2,hj2,rfl,B'⟩:=hrel;have F':=zaa ((za B2).trans ((za B').mono (za B2).size));have p11:=cell_later (za B') k11;have p21:=cell_later (za B') k21;by_cases hjn2:j2<n
    ·have y0:(0:Int)≤(j2:Int):=by omega
     have y1:(j2:Int)<(n:Int):=by omega
     have hjl:j2<rs.length:=by rw[za HN];exact hjn2
     obtain⟨g1,o1,rfl,q0,q1,q2⟩:=(za R1).cell j2 hjl;obtain⟨g2,o2,rfl,r0,r1,r2⟩:=(za R2).cell j2 hjl;have a0:=cell_later (za F') q0;have a1:=cell_later (za F') q1;have a2:=cell_later (za F') q2;have d0:=cell_later (za F') r0;have d1:=cell_later (za F') r1;have d2:=cell_later (za F') r2;generalize rs[j2]=r at *;obtain⟨rh,rp,rl⟩:=r;simp only at a0 a1 a2 d0 d1 d2;have BD:=zaa (show ∀ k,Below W2.heap.size W2 (wr.drewN k) from fun k=>⟨(za B').os,(za B').tape,(za B').output,(za B').size,(za B').block⟩);clear q0 q1 q2 r0 r1 r2
     go_wp2_with fail
     go_quiet (fail)
     go_wp2
     exact⟨⟨j2+1,by omega,by go_num,za BD _⟩,by simp[intOf];omega⟩
    ·have hjj2:¬ (j2:Int)<(n:Int):=by omega
     obtain rfl:j2=n:=by omega
     go_wp2
     go_ret
     exact⟨rfl,za F'⟩
theorem StAt.notCells {w:World} {h:StH} {x:Sm} (s:StAt w h x) {g:Nat} {cur:Array Value} {T:TypeId} {fr:Nat×Nat} (hT:T≠79) (hg:w.heap[g]? = some (.cells cur T fr)):g<w.heap.size∧g≠h.S∧g≠h.P∧g≠h.R∧g≠h.C:=by
 obtain⟨e1,k1,m1⟩:=s.pm.isMap;obtain⟨e2,k2,m2⟩:=s.rm.isMap;obtain⟨e3,k3,m3⟩:=s.cm.isMap;refine⟨(Array.getElem?_eq_some_iff.1 hg).1,fun e=>?_,fun e=>?_,fun e=>?_,fun e=>?_⟩
 ·subst e;rw[s.hd] at hg;simp only[Option.some.injEq,Obj.cells.injEq] at hg;exact hT hg.2.1.symm
 ·subst e;rw[m1] at hg;cases hg
 ·subst e;rw[m2] at hg;cases hg
 ·subst e;rw[m3] at hg;cases hg
theorem zie {base:Nat} {w w':World} {h:StH} {x:Sm} (s:StAt w h x) (c:Chg h w w') {T:TypeId} {k n:Nat} {v:Value} {xs:List Value} (hT:T≠79) (r:w.ownsRow base T k v n xs):w'.ownsRow base T k v n xs:=by
 refine⟨r.1,?_⟩;rcases r.2 with hv|⟨g,cap,cur,hv,hb,hh,q⟩
 ·exact .inl hv
 ·obtain⟨g0,g1,g2,g3,g4⟩:=s.notCells hT hh;exact .inr ⟨g,cap,cur,hv,hb,(c.block g g0 g1 g2 g3 g4).trans hh,q⟩
theorem RtAt.chg {w w':World} {h:StH} {x y:Sm} {r:Nat} {k:RfH} (s:StAt w h x) (c:Chg h w w') (t:RtAt w r k y):RtAt w' r k y:=by
 obtain⟨g0,g1,g2,g3,g4⟩:=s.notCells (by decide) t.hd;exact⟨(c.block r g0 g1 g2 g3 g4).trans t.hd,zie s c (by decide) t.rw_,zie s c (by decide) t.pw,zie s c (by decide) t.lw,fun p hp=>⟨s.tgsC c (t.dt p hp).1,(t.dt p hp).2⟩⟩
theorem StAt.besideR {w w':World} {h:StH} {x y:Sm} {r:Nat} {k:RfH} (s:StAt w h x) (t:RtAt w r k y) (hg:w.grownBy w' (some r)):StAt w' h x :=
 s.aside hg t.hd (zic _ _) (Ne.symm (s.notCells (by decide) t.hd).2.1)
theorem SmE.trans {x y z:Sm} (h:SmE x y) (g:SmE y z):SmE x z:=⟨h.ver.trans g.ver,h.rs.trans g.rs,h.cl.trans g.cl,h.ps.trans g.ps⟩
structure Po8 (j b:Nat) (w:World) (h:StH) (z:Sm):Prop where
 ex:∃ x,StAt w h x∧SmE x z∧SmI x∧Smi j x∧SmL x
 nw:b≤h.S∧b≤h.P∧b≤h.R∧b≤h.C
structure Ro8 (j b:Nat) (w:World) (r:Nat) (z:Sm):Prop where
 ex:∃ x k,RtAt w r k x∧SmE x z∧SmI x∧Smi j x∧SmL x
 nw:b≤r
theorem Po8.later {j b:Nat} {w w':World} {h:StH} {z:Sm} (p:Po8 j b w h z) (hb:Below w.heap.size w w'):Po8 j b w' h z:=by
 obtain⟨x,h1,h2⟩:=p.ex;exact⟨⟨x,h1.later hb,h2⟩,p.nw⟩
theorem Ro8.later {j b:Nat} {w w':World} {r:Nat} {z:Sm} (p:Ro8 j b w r z) (hb:Below w.heap.size w w'):Ro8 j b w' r z:=by
 obtain⟨x,k,h1,h2⟩:=p.ex;exact⟨⟨x,k,h1.later hb,h2⟩,p.nw⟩
theorem Po8.mono {i j b:Nat} {w:World} {h:StH} {z:Sm} (p:Po8 i b w h z) (hij:i≤j):Po8 j b w h z:=by
 obtain⟨x,h1,h2,h3,h4,h5⟩:=p.ex;exact⟨⟨x,h1,h2,h3,h4.mono hij,h5⟩,p.nw⟩
theorem Ro8.mono {i j b:Nat} {w:World} {r:Nat} {z:Sm} (p:Ro8 i b w r z) (hij:i≤j):Ro8 j b w r z:=by
 obtain⟨x,k,h1,h2,h3,h4,h5⟩:=p.ex;exact⟨⟨x,k,h1,h2,h3,h4.mono hij,h5⟩,p.nw⟩
theorem Po8.lt {j b:Nat} {w:World} {h:StH} {z:Sm} (p:Po8 j b w h z):b<w.heap.size:=by
 obtain⟨x,h1,_⟩:=p.ex;have:=(Array.getElem?_eq_some_iff.1 h1.hd).1;have:=p.nw.1;omega
theorem Chg.toB {h:StH} {w w':World} {b:Nat} (c:Chg h w w') (hn:b≤h.S∧b≤h.P∧b≤h.R∧b≤h.C) (hb:b≤w.heap.size):Below b w w' :=
 ⟨c.os,c.tape,c.output,c.size,fun g hg=>c.block g (Nat.lt_of_lt_of_le hg hb) (by omega) (by omega) (by omega) (by omega)⟩
theorem Po8.do {j b:Nat} {w:World} {h:StH} {z:Sm} (p:Po8 j b w h z) (hj:j≤800) (c:Cmd) (a:Option Addr) (tc:Nat) (hc:CmdAt w c a tc) (hm:Mx w) :
  Calls Tryz.prog 18 #[.pointer (some ⟨h.S,0,none⟩),zas c a tc] w fun e w'=>e=.returned (.agg #[.int .i64 (doS c none 0 z).1.1,.int .i64 (doS c none 0 z).1.2])∧Po8 (j+1) b w' h (doS c none 0 z).2∧Below b w w'∧(∀ i b' r q,Ro8 i b' w r q→Ro8 i b' w' r q)∧(∃ x,StAt w h x∧Chg h w w'):=by
 obtain⟨x,h1,h2,h3,h4,h5⟩:=p.ex;have hv:=h4.vr;refine(zgg h1 (h4.ok (by omega)) (by omega) c a tc hc hm).mono ?_;rintro e w' ⟨a',tc',rfl,s,cg⟩;obtain⟨e1,e2⟩:=h2.do c a' none tc' 0;refine⟨by rw[e1],⟨⟨_,s,e2,h3.do c a' tc',h4.do c a' tc',h5.do c a' tc'⟩,p.nw⟩,cg.toB p.nw (Nat.le_of_lt p.lt),?_,⟨x,h1,cg⟩⟩;rintro i b' r q ⟨⟨y,k,t,g⟩,n⟩;exact⟨⟨y,k,t.chg h1 cg,g⟩,n⟩
theorem Ro8.lt {j b:Nat} {w:World} {r:Nat} {z:Sm} (p:Ro8 j b w r z):b<w.heap.size:=by
 obtain⟨x,k,h1,_⟩:=p.ex;have:=h1.lt;have:=p.nw;omega
theorem zlc {w:World} {r:Nat} {k:RfH} {y:Sm} (s:RtAt w r k y) (hi:SmI y) (hx:SmOk y) (hv:y.ver+1≤9223372036854775807) (c:Cmd) (a:Option Addr) (tc:Nat) (hc:CmdAt w c a tc) :
  Calls Tryz.prog 30 #[.pointer (some ⟨r,0,none⟩),zas c a tc] w (zfb w r c y):=by
 by_cases hk:zam c=0
 ·have hn:=(zb0 hk).1;unfold zbe at hn;simp only[Bool.and_eq_true,decide_eq_true_eq] at hn;by_cases hz:c.cli=0
  ·exact zlf s hi hx hv c a tc hc hk hz
  ·exact zle s hi hx hv c a tc hc hk (by omega)
 ·exact zld s hi hx hv c a tc hc hk
theorem Ro8.do {j b:Nat} {w:World} {r:Nat} {z:Sm} (p:Ro8 j b w r z) (hj:j≤800) (c:Cmd) (a:Option Addr) (tc:Nat) (hc:CmdAt w c a tc) :
  Calls Tryz.prog 30 #[.pointer (some ⟨r,0,none⟩),zas c a tc] w fun e w'=>e=.returned (.agg #[.int .i64 (doS c none 0 z).1.1,.int .i64 (doS c none 0 z).1.2])∧Ro8 (j+1) b w' r (doS c none 0 z).2∧Below b w w'∧(∀ i b' h q,Po8 i b' w h q→Po8 i b' w' h q):=by
 obtain⟨x,k,h1,h2,h3,h4,h5⟩:=p.ex;have hv:=h4.vr;have fin:∀ e w',zfb w r c x e w'→e=.returned (.agg #[.int .i64 (doS c none 0 z).1.1,.int .i64 (doS c none 0 z).1.2])∧Ro8 (j+1) b w' r (doS c none 0 z).2∧Below b w w'∧(∀ i b' h q,Po8 i b' w h q→Po8 i b' w' h q):=by
  rintro e w' ⟨a',tc',k',rfl,s,cg⟩;obtain⟨e1,e2⟩:=h2.do c a' none tc' 0;have hlt:=p.lt;have hn:=p.nw;refine⟨by rw[e1],⟨⟨_,k',s,e2,h3.do c a' tc',h4.do c a' tc',h5.do c a' tc'⟩,p.nw⟩,⟨cg.os,cg.tape,cg.output,cg.size,fun g hg=>cg.block g (by omega) (fun e=>by have:=Option.some.inj e;omega)⟩,?_⟩;rintro i b' h q ⟨⟨y,t,g⟩,n⟩;exact⟨⟨y,t.besideR h1 cg,g⟩,n⟩
 exact(zlc h1 h3 (h4.ok (by omega)) (by omega) c a tc hc).mono fin
end
end Go.Proofs.YtjcjleaicjhpeaaGreatDoor
