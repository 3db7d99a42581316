/- Conf: the document's store, step by step; its act over a store. -/
import Derived.Test.YtjcjleaicjhpeaaGreatDoorB24
import Derived.Test.YtjcjleaicjhpeaaGreatDoorB23
import Derived.Test.YtjcjleaicjhpeaaGreatDoorB06
import Derived.Test.YtjcjleaicjhpeaaGreatDoorB12
import Derived.Test.YtjcjleaicjhpeaaGreatDoorB13
import Derived.Test.YtjcjleaicjhpeaaGreatDoorB05
import Derived.Deep.RegionHeld3
import Derived.Test.YtjcjleaicjhpeaaGreatDoorB17
set_option linter.unusedVariables false
set_option maxRecDepth 20000
set_option maxHeartbeats 16000000
namespace Go.Proofs.YtjcjleaicjhpeaaGreatDoor
section
open Go.ChangeShapes Go.WideShapes Go.ChangeAt Go.RowKit
theorem zj9 (y:Sm) (k:RfH):∀ (i:Nat) (t:ByteArray),(zrn y k)[i]?≠some (.string t):=by
 intro i t e;unfold zrn at e
 match i with
 |0=>simp at e
 |1=>simp at e
 |2=>simp at e
 |3=>simp at e
 |_+4=>simp at e
theorem RtAt.setV {w:World} {r:Nat} {k:RfH} {y:Sm} (s:RtAt w r k y) (v:Int):RtAt (w.setCell ⟨r,0,none⟩ (.int .i64 v)) r k { y with ver:=v }:=by
 have hg:=zaf w r 0 (.int .i64 v);refine⟨zav s.hd 0 (.int .i64 v) _ rfl,zak s.rw_ hg s.hd (by decide),zak s.pw hg s.hd (by decide),zak s.lw hg s.hd (by decide),fun p hp=>zb1 (s.dt p hp) hg s.hd (zj9 _ _)⟩
theorem RtAt.other {w w':World} {r q:Nat} {k:RfH} {y:Sm} {cs:Array Value} {T:TypeId} (s:RtAt w r k y) (hg:w.grownBy w' (some q)) (hq:w.heap[q]? = some (.cells cs T (0,0))) (hcs:∀ (k:Nat) (t:ByteArray),cs[k]?≠some (Value.string t)) (h1:T≠56) (h2:T≠54) (h3:T≠123) (hne:r≠q):RtAt w' r k y :=
 ⟨(hg.block r s.lt (fun e=>hne (Option.some.inj e))).trans s.hd,zak s.rw_ hg hq h1,zak s.pw hg hq h2,zak s.lw hg hq h3,fun p hp=>zb1 (s.dt p hp) hg hq hcs⟩
theorem RtAt.cfg {w w':World} {r:Nat} {k:RfH} {y z:Sm} {ra pa:Option Addr} {rc pc:Nat} (s:RtAt w r k y) (hr:zdo 0 w ra rc z.rs) (hp:za8 0 w pa pc (z.ps.map Pq.pr)) (hd:∀ p∈z.ps,TgD w p) (hv:z.ver=y.ver) (hc:z.cl=y.cl) (hg:w.grownBy w' (some r)) (hw:w'.heap[r]? = some (.cells #[.int .i64 y.ver,.slice ra z.rs.length rc,.slice pa z.ps.length pc,.slice k.la y.cl.length k.lc] 119 (0,0))):RtAt w' r ⟨ra,rc,pa,pc,k.la,k.lc⟩ z:=by
 refine⟨?_,zak hr hg s.hd (by decide),zak hp hg s.hd (by decide),?_,fun p hp=>zb1 (hd p hp) hg s.hd (zj9 _ _)⟩
 ·unfold zrn;rw[hv,hc];exact hw
 ·rw[hc];exact zak s.lw hg s.hd (by decide)
theorem wL_is (z:Ls) (l:List Ls) (h:Kl lid l):wL z l=zbn lid z l:=by
 rw[zg2 lid z l h];have e1:(fun x:Ls=>ltL x z)=(fun x=>decide (Kord.lt (lid x) (lid z))):=by funext x;exact decide_eq_decide.2 Iff.rfl
 have e2:(fun x:Ls=>ltL z x)=(fun x=>decide (Kord.lt (lid z) (lid x))):=by funext x;exact decide_eq_decide.2 Iff.rfl
 unfold wL;rw[e1,e2]
theorem zbd {w u v:World} {r q:Nat} (h:w.grownBy u (some r)) (g:u.grownBy v (some q)) (hq:w.heap.size≤q):w.grownBy v (some r) :=
 ⟨g.os.trans h.os,g.tape.trans h.tape,g.output.trans h.output,Nat.le_trans h.size g.size,fun i hi hne=>(g.block i (Nat.lt_of_lt_of_le hi h.size) (fun e=>by have:=Option.some.inj e;omega)).trans (h.block i hi hne)⟩
theorem zfc (c:Cmd) (a':Option Addr) (tc':Nat) (x:Sm):(actN c a' tc' x).2.ver=x.ver∧(actN c a' tc' x).2.cl=x.cl:=by
 unfold actN zce zbc zbt zbi
 repeat' split
 all_goals exact⟨rfl,rfl⟩
theorem zm9 {c:Cmd} {x:Sm} (h:0≤c.exp∧c.exp≠x.ver) (a':Option Addr) (tc':Nat):zbp c a' tc' x=(12,x):=by
 unfold zbp;rw[if_pos h]
theorem zl0 {c:Cmd} {x:Sm} (h:¬ (0≤c.exp∧c.exp≠x.ver)) (a':Option Addr) (tc':Nat):zbp c a' tc' x=actN c a' tc' x:=by
 unfold zbp actN;rw[if_neg h]
theorem zec {w:World} {r:Nat} {k:RfH} {y:Sm} (s:RtAt w r k y) (hi:SmI y) (hx:SmOk y) (c:Cmd) (a:Option Addr) (tc:Nat) (hc:CmdAt w c a tc) (hck:zam c=0) :
  Calls Tryz.prog 70 #[.agg #[.int .i64 y.ver,.slice k.ra y.rs.length k.rc,.slice k.pa y.ps.length k.pc],zar c a tc] w fun e w'=>∃ a' tc' ra' rc' pa' pc' er z,actN c a' tc' y=(er,z)∧e=.returned (.tuple #[.agg #[.int .i64 y.ver,.slice ra' z.rs.length rc',.slice pa' z.ps.length pc'],.int .i64 er])∧zdo 0 w' ra' rc' z.rs∧za8 0 w' pa' pc' (z.ps.map Pq.pr)∧(∀ p∈z.ps,TgD w' p)∧Below w.heap.size w w':=by
 have hn:=(zbl hck).1;have ha:1≤c.act∧c.act≤4:=by
  unfold zbk at hn;simp only[Bool.and_eq_true,decide_eq_true_eq] at hn;exact hn.1.1.1
 refine(zow s.rw_ s.pw s.dt hx.ver (by have:=hx.t;exact this) y.rs.length y.ps.length rfl rfl (by have:=hi.rn;omega) (by have:=hi.pn;omega) c a tc hc (zh0 hck) ha).mono ?_;rintro e w' ⟨a',tc',ra',rc',pa',pc',rfl,h1,h2,h3,h4⟩;rw[zsx hi] at *;exact⟨a',tc',ra',rc',pa',pc',_,_,rfl,rfl,h1,h2,h3,h4⟩
def zls (e:Int):Prop:=e=0∨e=6∨e=8∨e=12∨e=13
structure LsOk (v:Int) (c:Ls):Prop where
 id:1≤c.id∧c.id≤32
 sq:1≤c.seq∧c.seq≤1099511627776
 er:zls c.e
 vr:0≤c.ver∧c.ver≤v
def zrj (p:Po):Prop:=zcg p.nm=true∧p.ts.all (fun t=>zcy t.1)=true∧zd8 p.ts=true
def znw (r:Rt):Prop:=zbe r.h=true∧zch r.p=true
structure SmL (x:Sm):Prop where
 vr:0≤x.ver
 cl:∀ c∈x.cl,LsOk x.ver c
 pv:∀ q∈x.ps,zrj q.po
 rv:∀ r∈x.rs,znw r
theorem smL0:SmL sm0:=⟨by simp[sm0],by simp[sm0],by simp[sm0],by simp[sm0]⟩
theorem SmL.act {x:Sm} (h:SmL x) {c:Cmd} (hc:zam c=0) (a':Option Addr) (tc':Nat):(∀ q∈(zbp c a' tc' x).2.ps,zrj q.po)∧(∀ r∈(zbp c a' tc' x).2.rs,znw r):=by
 have hn:=(zbl hc).2.2.1;have hw:=(zbl hc).2.2.2.1;unfold zb5 at hn;simp only[Bool.and_eq_true] at hn;obtain⟨⟨hn1,hn2⟩,hn3⟩:=hn;have same:(∀ q∈x.ps,zrj q.po)∧(∀ r∈x.rs,znw r):=⟨h.pv,h.rv⟩
 unfold zbp;split
 ·exact same
 split
 ·rename_i h1
  rcases znr ⟨⟨c.pool,c.ts⟩,a',tc'⟩ x with e|e
  ·rw[e];exact same
  ·rw[e];refine⟨fun p hp=>?_,h.rv⟩;rcases zdl qnm _ p x.ps hp with rfl|hp
   ·exact⟨by simpa [h1] using hn2,hn3,hw⟩
   ·exact h.pv p hp
 split
 ·rcases zks c.pool x with⟨y,_,e⟩|e
  ·rw[e];exact same
  ·rw[e];exact⟨fun p hp=>h.pv p (List.mem_filter.1 hp).1,h.rv⟩
 split
 ·rename_i h3
  rcases zns ⟨c.host,c.pre,c.pool⟩ x with⟨y,_,e⟩|e
  ·rw[e];exact same
  ·rw[e];refine⟨h.pv,fun r hr=>?_⟩;rcases zdl rpl _ r x.rs hr with rfl|hr
   ·have:zbm c.act=true:=by simp[zbm,h3]
    rw[this] at hn1;simp only[Bool.not_true,Bool.false_or,Bool.and_eq_true] at hn1;exact hn1
   ·exact h.rv r hr
 ·rcases zkt (c.host,c.pre) x with⟨y,_,e⟩|e
  ·rw[e];exact same
  ·rw[e];exact⟨h.pv,fun r hr=>h.rv r (List.mem_filter.1 hr).1⟩
theorem SmL.done {x:Sm} (h:SmL x) {c:Cmd} (hc:zam c=0) (a':Option Addr) (tc':Nat):(∀ q∈(za4 (zbp c a' tc' x)).2.ps,zrj q.po)∧(∀ r∈(za4 (zbp c a' tc' x)).2.rs,znw r):=by
 have h1:=h.act hc a' tc';unfold za4;split
 ·exact h1
 ·exact h1
theorem LsOk.mono {u v:Int} {c:Ls} (h:LsOk u c) (huv:u≤v):LsOk v c:=⟨h.id,h.sq,h.er,h.vr.1,Int.le_trans h.vr.2 huv⟩
theorem zpc (c:Cmd) (a':Option Addr) (tc':Nat) (x:Sm):zls (actN c a' tc' x).1:=by
 unfold actN zce zbc zbt zbi zls
 repeat' split
 all_goals simp
theorem zpd (c:Cmd) (a':Option Addr) (tc':Nat) (x:Sm):zls (zbp c a' tc' x).1:=by
 by_cases h:0≤c.exp∧c.exp≠x.ver
 ·rw[zm9 h];exact .inr (.inr (.inr (.inl rfl)))
 ·rw[zl0 h];exact zpc c a' tc' x
theorem zn9 (c:Cmd) (a':Option Addr) (tc':Nat) (x:Sm):zls (za4 (zbp c a' tc' x)).1.1∧(za4 (zbp c a' tc' x)).1.2=(za4 (zbp c a' tc' x)).2.ver∧x.ver≤(za4 (zbp c a' tc' x)).2.ver:=by
 have h1:=zpd c a' tc' x;have h2:=zm8 c a' tc' x;unfold za4;split
 ·exact⟨.inl rfl,rfl,by dsimp only;omega⟩
 ·exact⟨h1,rfl,by dsimp only;omega⟩
theorem SmL.do {x:Sm} (h:SmL x) (c:Cmd) (a':Option Addr) (tc':Nat):SmL (doS c a' tc' x).2:=by
 obtain⟨d1,d2,d3⟩:=zn9 c a' tc' x;have dc:=zjw c a' tc' x;have hv:=h.vr;unfold doS;split
 ·exact h
 ·rename_i hk
  have hk:zam c=0:=by simpa using hk
  have hn:=(zbl hk).1;unfold zbk at hn;simp only[Bool.and_eq_true,decide_eq_true_eq] at hn;have hdv:=h.done hk a' tc';split
  ·exact⟨by omega,fun q hq=>by rw[dc] at hq;exact(h.cl q hq).mono d3,hdv.1,hdv.2⟩
  split
  ·exact h
  split
  ·exact h
  ·rename_i hc _ _
   have hs:=hn.1.2;rw[if_neg hc] at hs;simp only[decide_eq_true_eq] at hs;refine⟨by dsimp only;omega,fun q hq=>?_,hdv.1,hdv.2⟩;dsimp only at hq ⊢;rw[dc] at hq;rcases zdl lid _ q x.cl hq with rfl|hq
   ·exact⟨by dsimp only;omega,hs,d1,by dsimp only;omega⟩
   ·exact(h.cl q hq).mono d3
def lsB (c:Ls):List Nat:=zao c.id.toNat++(zao c.seq.toNat++(zao c.e.toNat++zao c.ver.toNat))
def zhk (x:Sm):List Nat:=zao x.ver.toNat++(zaq x.cf++(zao x.cl.length++x.cl.flatMap lsB))
theorem SmE.put {x y:Sm} (h:SmE x y):zhk x=zhk y:=by
 unfold zhk;rw[h.cf,h.ver,h.cl]
theorem ns4 (c:Ls):zii [c.id.toNat,c.seq.toNat,c.e.toNat,c.ver.toNat]=lsB c:=by simp[zii,lsB]
theorem zls.le {e:Int} (h:zls e):0≤e∧e≤13:=by
 rcases h with rfl|rfl|rfl|rfl|rfl <;> decide
theorem LsOk.row {v:Int} {c:Ls} (h:LsOk v c) (hv:v≤1099511627776):zcj [c.id.toNat,c.seq.toNat,c.e.toNat,c.ver.toNat]=#[.int .i64 c.id,.int .i64 c.seq,.int .i64 c.e,.int .i64 c.ver]∧∀ n∈[c.id.toNat,c.seq.toNat,c.e.toNat,c.ver.toNat],n≤1099511627776:=by
 have h1:=h.id;have h2:=h.sq;have h3:=h.er.le;have h4:=h.vr;refine⟨?_,?_⟩
 ·have e1:(c.id.toNat:Int)=c.id:=by omega
  have e2:(c.seq.toNat:Int)=c.seq:=by omega
  have e3:(c.e.toNat:Int)=c.e:=by omega
  have e4:(c.ver.toNat:Int)=c.ver:=by omega
  simp[zcj,e1,e2,e3,e4]
 ·intro n hn;simp only[List.mem_cons,List.not_mem_nil,or_false] at hn;omega
theorem zss {v:Int} {c:Ls} (h:LsOk v c) (hv:v≤1099511627776):(lsB c).length≤24:=by
 have h1:=h.id;have h2:=h.sq;have h3:=h.er.le;have h4:=h.vr;unfold lsB;have a:=zay c.id.toNat (by omega);have b:=zay c.seq.toNat (by omega);have d:=zay c.e.toNat (by omega);have e:=zay c.ver.toNat (by omega);simp only[List.length_append];omega
theorem zt {v:Int} {l:List Ls} (h:∀ c∈l,LsOk v c) (hv:v≤1099511627776) (j:Nat):((l.take j).flatMap lsB).length≤24*j:=by
 have h1:=zca lsB 24 (l.take j) (fun c hc=>zss (h c (List.mem_of_mem_take hc)) hv);have h2:(l.take j).length≤j:=by rw[List.length_take];omega
 exact Nat.le_trans h1 (Nat.mul_le_mul_left _ h2)
section
variable {l r:List Nat} {k:Nat}
theorem zh1 {n m:Nat} (h:zdf l k (zao n++r)) (hn:n≤m) (hm:m≤1000):∃ k',zcu l k 0 m=(n,k',0)∧zdf l k' r:=by
 obtain⟨k1,e1,s1⟩:=zcq h (by omega);exact⟨k1,by unfold zcu;dsimp only;rw[e1];dsimp only;rw[if_neg (by omega)],s1⟩
def zka (x:Rt):Prop:=x.h.size≤128∧x.p.size≤128∧x.l.size≤128
theorem zqk {x:Rt} (h:zdf l k (zan x++r)) (hx:zka x):∃ k',zlw l k 0=(x,k',0)∧zdf l k' r:=by
 unfold zan at h;rw[List.append_assoc,List.append_assoc] at h;obtain⟨k1,e1,s1⟩:=ze9 h hx.1;obtain⟨k2,e2,s2⟩:=ze9 s1 hx.2.1;obtain⟨k3,e3,s3⟩:=ze9 s2 hx.2.2;exact⟨k3,by simp only[zlw,e1,e2,e3,ziq],s3⟩
theorem zlg:∀ (xs:List Rt) (k:Nat),zdf l k (xs.flatMap zan++r)→(∀ x∈xs,zka x)→∃ k',zje l xs.length k 0=(xs,k',0)∧zdf l k' r
 |[],k,h,_=>⟨k,rfl,by simpa using h⟩
 |x::xs,k,h,hx=>by
  rw[List.flatMap_cons,List.append_assoc] at h;obtain⟨k1,e1,s1⟩:=zqk h (hx x (by simp));obtain⟨k2,e2,s2⟩:=zlg xs k1 s1 (fun y hy=>hx y (by simp[hy]));refine⟨k2,?_,s2⟩;rw[List.length_cons,zgo,e1];dsimp only;rw[e2]
theorem zqm {xs:List Rt} (h:zdf l k (zao xs.length++(xs.flatMap zan++r))) (hn:xs.length≤64) (hx:∀ x∈xs,zka x):∃ k',zql l k 0=(xs,k',0)∧zdf l k' r:=by
 obtain⟨k1,e1,s1⟩:=zh1 h hn (by omega);obtain⟨k2,e2,s2⟩:=zlg xs k1 s1 hx;refine⟨k2,?_,s2⟩;unfold zql;dsimp only;rw[e1];exact e2
def zrg (x:Po):Prop:=x.nm.size≤128∧x.ts.length≤16∧(∀ t∈x.ts,t.1.size≤128)∧∀ t∈x.ts,t.2<18446744073709551616
theorem zqd {x:Po} (h:zdf l k (zas x++r)) (hx:zrg x):∃ k',zlc l k 0=(x,k',0)∧zdf l k' r:=by
 unfold zas at h;rw[List.append_assoc] at h;obtain⟨k1,e1,s1⟩:=ze9 h hx.1;obtain⟨k2,e2,s2⟩:=zqs s1 hx.2.1 hx.2.2.1 hx.2.2.2;exact⟨k2,by rw[zmn e1 e2,ziq],s2⟩
theorem zle:∀ (xs:List Po) (k:Nat),zdf l k (xs.flatMap zas++r)→(∀ x∈xs,zrg x)→∃ k',zld l xs.length k 0=(xs,k',0)∧zdf l k' r
 |[],k,h,_=>⟨k,rfl,by simpa using h⟩
 |x::xs,k,h,hx=>by
  rw[List.flatMap_cons,List.append_assoc] at h;obtain⟨k1,e1,s1⟩:=zqd h (hx x (by simp));obtain⟨k2,e2,s2⟩:=zle xs k1 s1 (fun y hy=>hx y (by simp[hy]));refine⟨k2,?_,s2⟩;rw[List.length_cons,zgi,e1];dsimp only;rw[e2]
theorem zqf {xs:List Po} (h:zdf l k (zao xs.length++(xs.flatMap zas++r))) (hn:xs.length≤32) (hx:∀ x∈xs,zrg x):∃ k',zqe l k 0=(xs,k',0)∧zdf l k' r:=by
 obtain⟨k1,e1,s1⟩:=zh1 h hn (by omega);obtain⟨k2,e2,s2⟩:=zle xs k1 s1 hx;refine⟨k2,?_,s2⟩;unfold zqe;dsimp only;rw[e1];exact e2
def zqu (x:Ls):Prop:=(0≤x.id∧x.id≤1099511627776)∧(0≤x.seq∧x.seq≤1099511627776)∧(0≤x.e∧x.e≤1099511627776)∧(0≤x.ver∧x.ver≤1099511627776)
theorem zpj {x:Ls} (h:zdf l k (lsB x++r)) (hx:zqu x):∃ k',zlv l k 0=(x,k',0)∧zdf l k' r:=by
 unfold lsB at h;rw[List.append_assoc,List.append_assoc,List.append_assoc] at h;obtain⟨a1,a2,a3,a4⟩:=hx;obtain⟨k1,e1,s1⟩:=zcq h (by omega);obtain⟨k2,e2,s2⟩:=zcq s1 (by omega);obtain⟨k3,e3,s3⟩:=zcq s2 (by omega);obtain⟨k4,e4,s4⟩:=zcq s3 (by omega);refine⟨k4,?_,s4⟩;rw[zl6 e1 e2 e3 e4,Int.toNat_of_nonneg a1.1,Int.toNat_of_nonneg a2.1,Int.toNat_of_nonneg a3.1,Int.toNat_of_nonneg a4.1]
theorem zkl:∀ (xs:List Ls) (k:Nat),zdf l k (xs.flatMap lsB++r)→(∀ x∈xs,zqu x)→∃ k',zkk l xs.length k 0=(xs,k',0)∧zdf l k' r
 |[],k,h,_=>⟨k,rfl,by simpa using h⟩
 |x::xs,k,h,hx=>by
  rw[List.flatMap_cons,List.append_assoc] at h;obtain⟨k1,e1,s1⟩:=zpj h (hx x (by simp));obtain⟨k2,e2,s2⟩:=zkl xs k1 s1 (fun y hy=>hx y (by simp[hy]));refine⟨k2,?_,s2⟩;rw[List.length_cons,zf8,e1];dsimp only;rw[e2]
theorem zpm {xs:List Ls} (h:zdf l k (zao xs.length++(xs.flatMap lsB++r))) (hn:xs.length≤32) (hx:∀ x∈xs,zqu x):∃ k',zpl l k 0=(xs,k',0)∧zdf l k' r:=by
 obtain⟨k1,e1,s1⟩:=zh1 h hn (by omega);obtain⟨k2,e2,s2⟩:=zkl xs k1 s1 hx;refine⟨k2,?_,s2⟩;unfold zpl;dsimp only;rw[e1];exact e2
end
theorem zdf.size {l r r':List Nat} {k k':Nat} {m:List Nat} (h:zdf l k (m++r)) (h':zdf l k' r):k' - k=m.length:=by
 have h1:=congrArg List.length h.2;have h2:=congrArg List.length h'.2;have h3:=h.1;have h4:=h'.1;simp only[List.length_drop,List.length_append] at h1 h2;omega
theorem zp6 (x:Sm) (hv:0≤x.ver∧x.ver≤1099511627776) (hp:x.cf.ps.length≤32) (hp1:∀ y∈x.cf.ps,zrg y) (hr:x.cf.rs.length≤64) (hr1:∀ y∈x.cf.rs,zka y) (hc:x.cl.length≤32) (hc1:∀ y∈x.cl,zqu y) :
  ∃ k1 k2 k3,zem (zhk x) 0 0=(x.ver.toNat,k1,0)∧zqe (zhk x) k1 0=(x.cf.ps,k2,0)∧zql (zhk x) k2 0=(x.cf.rs,k3,0)∧zpl (zhk x) k3 0=(x.cl,(zhk x).length,0)∧k3 - k1=(zaq x.cf).length:=by
 have E:zhk x=zao x.ver.toNat++(zao x.cf.ps.length++(x.cf.ps.flatMap zas++(zao x.cf.rs.length++(x.cf.rs.flatMap zan++(zao x.cl.length++x.cl.flatMap lsB))))):=by
  simp only[zhk,zaq,List.append_assoc]
 generalize zhk x=l at *;have S0:zdf l 0 (zao x.ver.toNat++(zao x.cf.ps.length++(x.cf.ps.flatMap zas++(zao x.cf.rs.length++(x.cf.rs.flatMap zan++(zao x.cl.length++x.cl.flatMap lsB)))))):=⟨Nat.zero_le _,by rw[List.drop_zero];exact E⟩
 obtain⟨k1,e1,s1⟩:=zcq S0 (by omega);obtain⟨k2,e2,s2⟩:=zqf s1 hp hp1;obtain⟨k3,e3,s3⟩:=zqm s2 hr hr1;obtain⟨k4,e4,s4⟩:=zpm (r:=[]) (by rw[List.append_nil];exact s3) hc hc1;have h4:k4=l.length:=by
  have h1:=congrArg List.length s4.2;have h2:=s4.1;simp only[List.length_drop,List.length_nil] at h1;omega
 subst h4;refine⟨k1,k2,k3,e1,e2,e3,e4,?_⟩;refine zdf.size (m:=zaq x.cf) (r':=[]) ?_ s3
 simpa only [zaq,List.append_assoc] using s1
def zlr (e:Int):Bool:=decide (e=0∨e=6∨e=8∨e=12∨e=13)
theorem zbx (e:Int) (w:World):Calls Tryz.prog 163 #[.int .i64 e] w fun en w'=>en=.returned (.bool (zlr e))∧w'=w:=by
 by_cases h0:e=0
 ·subst h0;go_enter Tryz.func163,Tryz.ntmps163
  go_wp2
  go_ret
  exact⟨rfl,rfl⟩
 have b0:(e==0)=false:=by simpa using h0
 by_cases h6:e=6
 ·subst h6;go_enter Tryz.func163,Tryz.ntmps163
  go_wp2
  go_ret
  exact⟨rfl,rfl⟩
 have b6:(e==6)=false:=by simpa using h6
 by_cases h8:e=8
 ·subst h8;go_enter Tryz.func163,Tryz.ntmps163
  go_wp2
  go_ret
  exact⟨rfl,rfl⟩
 have b8:(e==8)=false:=by simpa using h8
 by_cases h12:e=12
 ·subst h12;go_enter Tryz.func163,Tryz.ntmps163
  go_wp2
  go_ret
  exact⟨rfl,rfl⟩
 have b12:(e==12)=false:=by simpa using h12
 by_cases h13:e=13
 ·subst h13;go_enter Tryz.func163,Tryz.ntmps163
  go_wp2
  go_ret
  exact⟨rfl,rfl⟩
 have b13:(e==13)=false:=by simpa using h13
 have FE:=zaa (show zlr e=false by simp[zlr,h0,h6,h8,h12,h13]);go_enter Tryz.func163,Tryz.ntmps163
 go_wp2
 go_ret
 rw[za FE];exact⟨rfl,rfl⟩
def zda (x:Po):Bool:=zcg x.nm&&(x.ts.all (fun t=>zcy t.1)&&zd8 x.ts)
theorem zij {w:World} {a:Option Addr} (x:Po) (h:TgsAt w a x.ts) (hs:x.nm.size≤140737488355328) (hz:∀ t∈x.ts,t.1.size≤140737488355328) (n c:Nat) (hn:x.ts.length=n) (hx:n≤maxLen) :
  Calls Tryz.prog 113 #[.agg #[.string x.nm,.slice a n c]] w fun e w'=>e=.returned (.bool (zda x))∧Below w.heap.size w w':=by
 have bX:=zaa (show Below w.heap.size w (w.alloc (.cells #[.string x.nm,.slice a n c] 54)) from(Below.refl _ _).alloc (Nat.le_refl _) _);have XX:=zaa (zac w (.cells #[.string x.nm,.slice a n c] 54));have FN:=zaa (fun (W:World)=>zdk x.nm hs W);have FA:=zaa (fun (W:World) (hb:Below w.heap.size w W)=>zcx (h.later hb) hz n c hn hx);have FW:=zaa (fun (W:World) (hb:Below w.heap.size w W)=>zdn (h.later hb) n c hn hx);have EQ:=zaa (show zda x=(zcg x.nm&&(x.ts.all (fun t=>zcy t.1)&&zd8 x.ts)) from rfl);generalize zda x=ok at *;generalize x.ts.all (fun t=>zcy t.1)=b2 at *;generalize zd8 x.ts=b3 at *;generalize zcg x.nm=b1 at *;generalize x.nm=s at *;clear h hz hn;have d0:=zab (za XX) 0 (.string s) rfl;go_enter Tryz.func113,Tryz.ntmps113
 go_wp2_with fail
 go_at_call 78
 generalize (w.alloc (.cells #[.string s,.slice a n c] 54))=W0 at *;refine(za FN W0).mono ?_;rintro e W1 ⟨rfl,u1⟩;have BA:=zaa ((za bX).trans (u1.mono (za bX).size));have d1:=zab (zad u1 (za XX)) 1 (.slice a n c) rfl;have X1:=zaa (zad u1 (za XX));clear u1 d0 FN bX XX;cases b1 with
 |false =>
  have e1:ok=false:=by rw[za EQ];rfl
  subst e1
  go_wp2
  go_ret
  exact⟨rfl,za BA⟩
 |true =>
  have A1:=zaa (za FA W1 (za BA))
  go_wp2_with fail
  go_at_call 79
  refine(za A1).mono ?_;rintro e W2 ⟨rfl,u2⟩;have BB:=zaa ((za BA).trans (u2.mono (za BA).size));have d2:=zab (zad u2 (za X1)) 1 (.slice a n c) rfl;have A2:=zaa (za FW W2 (za BB));clear u2 d1 FA A1 BA X1 FW;cases b2 with
  |false =>
   have e1:ok=false:=by rw[za EQ];rfl
   subst e1
   go_wp2
   go_ret
   exact⟨rfl,za BB⟩
  |true =>
   have e1:ok=b3:=by rw[za EQ];rfl
   subst e1
   go_wp2_with fail
   go_at_call 39
   refine(za A2).mono ?_;rintro e W3 ⟨rfl,u3⟩;have BC:=zaa ((za BB).trans (u3.mono (za BB).size));clear u3 A2 BB d2
   go_wp2
   go_ret
   exact⟨rfl,za BC⟩
def zhh (v:Int) (x:Ls):Bool:=decide (1≤x.id∧x.id≤32)&&(decide (0<x.seq)&&(zlr x.e&&decide (x.ver≤v)))
theorem zgw {w:World} {S:Nat} {v:Int} (x:Ls) (hS:w.cell? ⟨S,0,none⟩=some (.int .i64 v)) :
  Calls Tryz.prog 119 #[.pointer (some ⟨S,0,none⟩),.agg #[.int .i64 x.id,.int .i64 x.seq,.int .i64 x.e,.int .i64 x.ver]] w fun e w'=>e=.returned (.bool (zhh v x))∧Below w.heap.size w w':=by
 have bX:=zaa (show Below w.heap.size w (w.alloc (.cells #[.int .i64 x.id,.int .i64 x.seq,.int .i64 x.e,.int .i64 x.ver] 156)) from(Below.refl _ _).alloc (Nat.le_refl _) _);have XX:=zaa (zac w (.cells #[.int .i64 x.id,.int .i64 x.seq,.int .i64 x.e,.int .i64 x.ver] 156));have HS:=zaa hS;have EQ:=zaa (show zhh v x=(decide (1≤x.id∧x.id≤32)&&(decide (0<x.seq)&&(zlr x.e&&decide (x.ver≤v)))) from rfl);generalize zhh v x=ok at *;clear hS;go_enter Tryz.func119,Tryz.ntmps119
 go_wp2_with fail
 generalize (w.alloc (.cells #[.int .i64 x.id,.int .i64 x.seq,.int .i64 x.e,.int .i64 x.ver] 156))=W0 at *;generalize hTD:w.heap.size=T at *;have BD:=zaa (show Below T w W0.drew by rw[← hTD];exact(by rw[hTD];exact za bX:Below w.heap.size w W0).drew);have bW:=zaa (show Below W0.heap.size W0 W0.drew from(Below.refl _ _).drew);have XD:=zaa (zad (za bW) (za XX));have KB:=zaa (show W0.drew.cell? ⟨T,0,none⟩=some (.int .i64 x.id)∧W0.drew.cell? ⟨T,1,none⟩=some (.int .i64 x.seq)∧W0.drew.cell? ⟨T,2,none⟩=some (.int .i64 x.e)∧W0.drew.cell? ⟨T,3,none⟩=some (.int .i64 x.ver)∧W0.drew.cell? ⟨S,0,none⟩=some (.int .i64 v) from⟨zab (za XD) 0 _ rfl,zab (za XD) 1 _ rfl,zab (za XD) 2 _ rfl,zab (za XD) 3 _ rfl,cell_later (by rw[hTD];exact za BD:Below w.heap.size w W0.drew) (za HS)⟩);clear bX XX HS bW XD;by_cases h1:1≤x.id∧x.id≤32
 ·have g1:decide (1≤x.id∧x.id≤32)=true:=decide_eq_true h1;by_cases h2:0<x.seq
  ·have g2:decide (0<x.seq)=true:=decide_eq_true h2;cases h3:zlr x.e with
   |true =>
    have e1:ok=decide (x.ver≤v):=by rw[za EQ];simp[h1,h2,h3]
    subst e1
    go_wp2_with fail
    refine wp_region_held_drew (S:=fun W=>W.cell? ⟨T,0,none⟩=some (.int .i64 x.id)∧W.cell? ⟨T,1,none⟩=some (.int .i64 x.seq)∧W.cell? ⟨T,2,none⟩=some (.int .i64 x.e)∧W.cell? ⟨T,3,none⟩=some (.int .i64 x.ver)∧W.cell? ⟨S,0,none⟩=some (.int .i64 v)) (by kernel_rfl) ?_ (fun hHeld=>?_)
    ·try dsimp only
     first|exact za K2|exact za K1|exact za KB
    refine hT 0 ?_;refine hT 1 ?_;refine hO 2 (fun K hK=>?_);go_simp
    first
     |(go_at_call 74
       refine(zap _ _ _ _).mono ?_;rintro e U1 ⟨rfl,rfl⟩
       have K1:=zaa (za KB))
     |(go_at_call 163
       refine(zbx _ _).mono ?_;rintro e U2 ⟨rfl,rfl⟩
       have K2:=zaa (za KB))
    go_wp2_with fail
    refine hK.out _ _ ?_ (fun hHeld=>?_)
    ·try dsimp only
     first|exact za K2|exact za K1|exact za KB
    clear hK K;refine hP ?_;refine hT 3 ?_;refine hT 4 ?_;refine hT 5 ?_;refine hT 6 ?_;refine hT 7 ?_;refine hT 8 ?_;refine hT 9 ?_;refine hT 10 ?_;refine hT 11 ?_;refine hT 12 ?_;refine hT 13 ?_;refine hO 14 (fun K hK=>?_);go_simp
    first
     |(go_at_call 74
       refine(zap _ _ _ _).mono ?_;rintro e U1 ⟨rfl,rfl⟩
       have K1:=zaa (za KB))
     |(go_at_call 163
       refine(zbx _ _).mono ?_;rintro e U2 ⟨rfl,rfl⟩
       have K2:=zaa (za KB))
    go_wp2_with fail
    refine hK.out _ _ ?_ (fun hHeld=>?_)
    ·try dsimp only
     first|exact za K2|exact za K1|exact za KB
    clear hK K;refine hP ?_;refine hT 15 ?_;refine hT 16 ?_;refine hT 17 ?_;refine hT 18 ?_;refine hT 19 ?_;refine hT 20 ?_;refine hT 21 ?_;refine hT 22 ?_;refine hT 23 ?_;refine hT 24 ?_;refine hT 25 ?_;refine hT 26 ?_;refine hT 27 ?_;refine wpAnyH_done (by kernel_rfl) ?_ _
    go_wp2
    go_ret
    exact⟨by first|rfl|simp_all,by rw[hTD];exact za BD⟩
   |false =>
    have e1:ok=false:=by rw[za EQ];simp[h3]
    subst e1
    go_wp2_with fail
    refine wp_region_held_drew (S:=fun W=>W.cell? ⟨T,0,none⟩=some (.int .i64 x.id)∧W.cell? ⟨T,1,none⟩=some (.int .i64 x.seq)∧W.cell? ⟨T,2,none⟩=some (.int .i64 x.e)∧W.cell? ⟨T,3,none⟩=some (.int .i64 x.ver)∧W.cell? ⟨S,0,none⟩=some (.int .i64 v)) (by kernel_rfl) ?_ (fun hHeld=>?_)
    ·try dsimp only
     first|exact za K2|exact za K1|exact za KB
    refine hT 0 ?_;refine hT 1 ?_;refine hO 2 (fun K hK=>?_);go_simp
    first
     |(go_at_call 74
       refine(zap _ _ _ _).mono ?_;rintro e U1 ⟨rfl,rfl⟩
       have K1:=zaa (za KB))
     |(go_at_call 163
       refine(zbx _ _).mono ?_;rintro e U2 ⟨rfl,rfl⟩
       have K2:=zaa (za KB))
    go_wp2_with fail
    refine hK.out _ _ ?_ (fun hHeld=>?_)
    ·try dsimp only
     first|exact za K2|exact za K1|exact za KB
    clear hK K;refine hP ?_;refine hT 3 ?_;refine hT 4 ?_;refine hT 5 ?_;refine hT 6 ?_;refine hT 7 ?_;refine hT 8 ?_;refine hT 9 ?_;refine hT 10 ?_;refine hT 11 ?_;refine hT 12 ?_;refine hT 13 ?_;refine hO 14 (fun K hK=>?_);go_simp
    first
     |(go_at_call 74
       refine(zap _ _ _ _).mono ?_;rintro e U1 ⟨rfl,rfl⟩
       have K1:=zaa (za KB))
     |(go_at_call 163
       refine(zbx _ _).mono ?_;rintro e U2 ⟨rfl,rfl⟩
       have K2:=zaa (za KB))
    go_wp2_with fail
    refine hK.out _ _ ?_ (fun hHeld=>?_)
    ·try dsimp only
     first|exact za K2|exact za K1|exact za KB
    clear hK K;refine hP ?_;refine hT 15 ?_;refine hT 16 ?_;refine hN 17 ?_;refine hN 18 ?_;refine hN 19 ?_;refine hN 20 ?_;refine hN 21 ?_;refine hN 22 ?_;refine hN 23 ?_;refine hN 24 ?_;refine hN 25 ?_;refine hT 26 ?_;refine hT 27 ?_;refine wpAnyH_done (by kernel_rfl) ?_ _
    go_wp2
    go_ret
    exact⟨by first|rfl|simp_all,by rw[hTD];exact za BD⟩
  ·have g2:decide (0<x.seq)=false:=decide_eq_false h2;have e1:ok=false:=by rw[za EQ];simp[h2]
   subst e1
   go_wp2_with fail
   refine wp_region_held_drew (S:=fun W=>W.cell? ⟨T,0,none⟩=some (.int .i64 x.id)∧W.cell? ⟨T,1,none⟩=some (.int .i64 x.seq)∧W.cell? ⟨T,2,none⟩=some (.int .i64 x.e)∧W.cell? ⟨T,3,none⟩=some (.int .i64 x.ver)∧W.cell? ⟨S,0,none⟩=some (.int .i64 v)) (by kernel_rfl) ?_ (fun hHeld=>?_)
   ·try dsimp only
    first|exact za K2|exact za K1|exact za KB
   refine hT 0 ?_;refine hT 1 ?_;refine hO 2 (fun K hK=>?_);go_simp
   first
    |(go_at_call 74
      refine(zap _ _ _ _).mono ?_;rintro e U1 ⟨rfl,rfl⟩
      have K1:=zaa (za KB))
    |(go_at_call 163
      refine(zbx _ _).mono ?_;rintro e U2 ⟨rfl,rfl⟩
      have K2:=zaa (za KB))
   go_wp2_with fail
   refine hK.out _ _ ?_ (fun hHeld=>?_)
   ·try dsimp only
    first|exact za K2|exact za K1|exact za KB
   clear hK K;refine hP ?_;refine hT 3 ?_;refine hT 4 ?_;refine hT 5 ?_;refine hT 6 ?_;refine hT 7 ?_;refine hT 8 ?_;refine hT 9 ?_;refine hN 10 ?_;refine hN 11 ?_;refine hN 12 ?_;refine hN 13 ?_;refine zdv 14 (by kernel_rfl) rfl (by rfl) (by assumption) ?_;refine hP ?_;refine hT 15 ?_;refine hT 16 ?_;refine hN 17 ?_;refine hN 18 ?_;refine hN 19 ?_;refine hN 20 ?_;refine hN 21 ?_;refine hN 22 ?_;refine hN 23 ?_;refine hN 24 ?_;refine hN 25 ?_;refine hT 26 ?_;refine hT 27 ?_;refine wpAnyH_done (by kernel_rfl) ?_ _
   go_wp2
   go_ret
   exact⟨by first|rfl|simp_all,by rw[hTD];exact za BD⟩
 ·have g1:decide (1≤x.id∧x.id≤32)=false:=decide_eq_false h1;have e1:ok=false:=by rw[za EQ];simp[h1]
  subst e1
  go_wp2_with fail
  refine wp_region_held_drew (S:=fun W=>W.cell? ⟨T,0,none⟩=some (.int .i64 x.id)∧W.cell? ⟨T,1,none⟩=some (.int .i64 x.seq)∧W.cell? ⟨T,2,none⟩=some (.int .i64 x.e)∧W.cell? ⟨T,3,none⟩=some (.int .i64 x.ver)∧W.cell? ⟨S,0,none⟩=some (.int .i64 v)) (by kernel_rfl) ?_ (fun hHeld=>?_)
  ·try dsimp only
   first|exact za K2|exact za K1|exact za KB
  refine hT 0 ?_;refine hT 1 ?_;refine hO 2 (fun K hK=>?_);go_simp
  first
   |(go_at_call 74
     refine(zap _ _ _ _).mono ?_;rintro e U1 ⟨rfl,rfl⟩
     have K1:=zaa (za KB))
   |(go_at_call 163
     refine(zbx _ _).mono ?_;rintro e U2 ⟨rfl,rfl⟩
     have K2:=zaa (za KB))
  go_wp2_with fail
  refine hK.out _ _ ?_ (fun hHeld=>?_)
  ·try dsimp only
   first|exact za K2|exact za K1|exact za KB
  clear hK K;refine hP ?_;refine hT 3 ?_;refine hN 4 ?_;refine hN 5 ?_;refine hN 6 ?_;refine hN 7 ?_;refine hT 8 ?_;refine hT 9 ?_;refine hN 10 ?_;refine hN 11 ?_;refine hN 12 ?_;refine hN 13 ?_;refine zdv 14 (by kernel_rfl) rfl (by rfl) (by assumption) ?_;refine hP ?_;refine hT 15 ?_;refine hT 16 ?_;refine hN 17 ?_;refine hN 18 ?_;refine hN 19 ?_;refine hN 20 ?_;refine hN 21 ?_;refine hN 22 ?_;refine hN 23 ?_;refine hN 24 ?_;refine hN 25 ?_;refine hT 26 ?_;refine hT 27 ?_;refine wpAnyH_done (by kernel_rfl) ?_ _
  go_wp2
  go_ret
  exact⟨by first|rfl|simp_all,by rw[hTD];exact za BD⟩
def zdb (x:Sm) (r:Rt):Bool:=zbe r.h&&(zch r.p&&(zax qnm r.l x.ps).isSome)
theorem zhl {w:World} {h:StH} {x:Sm} (s:StAt w h x) (hm:Mx w) (rh rp rl:ByteArray) (hr:rh.size≤1000000∧rp.size≤1000000∧rl.size≤1000000) :
  Calls Tryz.prog 116 #[.pointer (some ⟨h.S,0,none⟩),.agg #[.string rh,.string rp,.string rl]] w fun e w'=>e=.returned (.bool (zdb x ⟨rh,rp,rl⟩))∧Below w.heap.size w w':=by
 have b1:=zaa (show Below w.heap.size w (w.alloc (.cells #[.string rh,.string rp,.string rl] 56)) from(Below.refl _ _).alloc (Nat.le_refl _) _);have X1:=zaa (zac w (.cells #[.string rh,.string rp,.string rl] 56))
 have SS:=zaa (show ∀ W:World,Below (w.alloc (.cells #[.string rh,.string rp,.string rl] 56)).heap.size (w.alloc (.cells #[.string rh,.string rp,.string rl] 56)) W→W.cell? ⟨h.S,1,none⟩=some (.map (some h.P))∧W.cell? ⟨w.heap.size,0,none⟩=some (.string rh)∧W.cell? ⟨w.heap.size,1,none⟩=some (.string rp)∧W.cell? ⟨w.heap.size,2,none⟩=some (.string rl)∧(Instr.lookup 75 (.map (some h.P)) (.string rl) true).run Tryz.prog W=.ok (.tuple #[pqV ((zax qnm rl x.ps).getD ⟨⟨⟨#[]⟩,[]⟩,none,0⟩),.bool (zax qnm rl x.ps).isSome]) W from fun W hb=>by
  have st:=s.later ((za b1).trans (hb.mono (za b1).size));have hk:=zad hb (za X1)
  exact⟨st.cell.2.1,zab hk 0 _ rfl,zab hk 1 _ rfl,zab hk 2 _ rfl,zq9 st rl (by simp only[maxLen];omega)⟩)
 have FH:=zaa (fun (W:World) (hb:Below w.heap.size w W)=>zhd rh (by omega) W (hm.later hb));have FP:=zaa (fun (W:World)=>zfs rp (by omega) W);have EQ:=zaa (show zdb x ⟨rh,rp,rl⟩=(zbe rh&&(zch rp&&(zax qnm rl x.ps).isSome)) from rfl);generalize zdb x ⟨rh,rp,rl⟩=ok at *;generalize zbe rh=c1 at *;generalize zch rp=c2 at *;clear s hm;go_enter Tryz.func116,Tryz.ntmps116
 go_wp2_with fail
 generalize hB:w.heap.size=B at *;generalize w.alloc (.cells #[.string rh,.string rp,.string rl] 56)=V at *;have BV:=zaa (show B<V.heap.size from(Array.getElem?_eq_some_iff.1 (za X1)).1);generalize hq:((zax qnm rl x.ps).getD ⟨⟨⟨#[]⟩,[]⟩,none,0⟩)=q at *;generalize hi:(zax qnm rl x.ps).isSome=ii at *;have F:=zaa (show Below V.heap.size V V.drew from(Below.refl _ _).drew);clear hi hq;obtain⟨⟨qn,qt⟩,qa,qc⟩:=q;simp only[pqV] at SS;refine wp_region_held_drew (S:=fun w'=>w'.cell? ⟨h.S,1,none⟩=some (.map (some h.P))∧w'.cell? ⟨B,2,none⟩=some (.string rl)∧(Instr.lookup 75 (.map (some h.P)) (.string rl) true).run Tryz.prog w'=.ok (.tuple #[.agg #[.string qn,.slice qa qt.length qc],.bool ii]) w') (by kernel_rfl) ?_ (fun hHeld=>?_)
 ·try dsimp only
  exact⟨(za SS _ (za F)).1,(za SS _ (za F)).2.2.2.1,(za SS _ (za F)).2.2.2.2⟩
 refine hT 0 ?_;refine hT 1 ?_;refine hT 2 ?_;refine hT 3 ?_;refine hT 4 ?_;refine hT 5 ?_;refine hT 6 ?_;refine hT 7 ?_;refine hT 8 ?_;refine hT 9 ?_;refine wpAnyH_ready (rs:=[10]) (by kernel_rfl) (by simp) ?_;refine AllReadyH.cons rfl (fun K hK=>?_) ?_
 ·refine zm1 rfl rfl ?_;intro E U hE hEn hb;have LE:=zaa (show V.heap.size≤E by rw[← hE];exact(za F).size);have HE:=zaa hEn;have F:=zaa ((za F).trans (hb.mono (za F).size));clear hE hEn hb;refine hK.out _ _ ?_ (fun hHeld=>?_)
  ·try dsimp only
   exact⟨(za SS _ (za F)).1,(za SS _ (za F)).2.2.2.1,(za SS _ (za F)).2.2.2.2⟩
  clear hK K;refine hP ?_;refine wpAnyH_ready (rs:=[11]) (by kernel_rfl) (by simp) ?_;refine AllReadyH.cons rfl (fun K hK=>?_) ?_
  ·have z0:=zab (za HE) 0 _ rfl;have z1:=zab (za HE) 1 _ rfl;have f0:U.frozen? ⟨E,0,none⟩=false:=by simp[World.frozen?,za HE]
   have f1:U.frozen? ⟨E,1,none⟩=false:=by simp[World.frozen?,za HE]
   have a1:=zqx (x:=.string qn) (y:=.slice qa qt.length qc) (za HE);have F:=zaa ((za F).grown a1.2 (za F).size (fun g e=>by have:=Option.some.inj e;have:=za LE;omega));clear a1;go_simp
   clear z0 z1 f0 f1;refine hK.out _ _ ?_ (fun hHeld=>?_)
   ·try dsimp only
    exact⟨(za SS _ (za F)).1,(za SS _ (za F)).2.2.2.1,(za SS _ (za F)).2.2.2.2⟩
   clear hK K;refine hP ?_;refine hT 12 ?_;refine wpAnyH_done (by kernel_rfl) ?_ _;generalize ((U.setCell ⟨E,0,none⟩ (.string qn)).setCell ⟨E,1,none⟩ (.slice qa qt.length qc))=U2 at *;clear hHeld HE LE;have b2:=zaa (show Below w.heap.size w U2 by rw[hB];exact(za b1).trans ((za F).mono (by have:=(za b1).size;omega)));have d0:=(za SS _ (za F)).2.1;have FH2:=zaa (za FH U2 (by rw[← hB];exact za b2))
   go_wp2_with fail
   go_at_call 76
   refine(za FH2).mono ?_;rintro e W1 ⟨rfl,u1⟩;have F:=zaa ((za F).trans (u1.mono (za F).size));have b2:=zaa ((za b2).trans (u1.mono (za b2).size));have d1:=(za SS _ (za F)).2.2.1;clear u1 d0 FH2 FH;cases c1 with
   |false=>as_aux_lemma =>
    have e1:ok=false:=by rw[za EQ];rfl
    subst e1
    go_wp2
    go_ret
    exact⟨rfl,za b2⟩
   |true =>
    have FP2:=zaa (za FP W1)
    go_wp2_with fail
    go_at_call 77
    refine(za FP2).mono ?_;rintro e W2 ⟨rfl,u2⟩;have b2:=zaa ((za b2).trans (u2.mono (za b2).size));clear u2 FP2 d1;have e1:ok=(c2&&ii):=by rw[za EQ];rfl
    subst e1;cases c2 with
    |false=>as_aux_lemma =>
     go_wp2
     go_ret
     exact⟨rfl,za b2⟩
    |true=>as_aux_lemma =>
     go_wp2
     go_ret
     exact⟨rfl,za b2⟩
  exact AllReadyH.nil
 exact AllReadyH.nil
end
end Go.Proofs.YtjcjleaicjhpeaaGreatDoor
