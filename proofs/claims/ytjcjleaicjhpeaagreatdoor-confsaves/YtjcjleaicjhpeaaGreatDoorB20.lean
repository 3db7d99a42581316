/- Conf: the document's act. -/
import Derived.Test.YtjcjleaicjhpeaaGreatDoorB13
import Derived.Test.YtjcjleaicjhpeaaGreatDoorB14
import Derived.Test.YtjcjleaicjhpeaaGreatDoorB15
import Derived.Test.YtjcjleaicjhpeaaGreatDoorB19
set_option linter.unusedVariables false
set_option maxRecDepth 20000
set_option maxHeartbeats 16000000
namespace Go.Proofs.YtjcjleaicjhpeaaGreatDoor
open Go.ChangeShapes Go.WideShapes Go.ChangeAt Go.RowKit
def TgD (w:World) (p:Pq):Prop:=TgsAt w p.ta p.po.ts∧p.po.ts.length≤p.tc∧(p.ta=none→p.tc=0)
theorem TgD.later {w w':World} {p:Pq} (h:TgD w p) (hb:Below w.heap.size w w'):TgD w' p:=⟨h.1.later hb,h.2⟩
def isP (nm:ByteArray) (l:List Pq):Bool:=l.any (fun q=>decide (q.po.nm=nm))
def dP (nm:ByteArray) (l:List Pq):List Pq:=l.filter (fun q=>!decide (q.po.nm=nm))
def isU (nm:ByteArray) (rs:List Rt):Bool:=rs.any (fun r=>decide (r.l=nm))
def isR (h p:ByteArray) (rs:List Rt):Bool:=rs.any (fun r=>decide (r.h=h∧r.p=p))
def dR (h p:ByteArray) (rs:List Rt):List Rt:=rs.filter (fun r=>!decide (r.h=h∧r.p=p))
def wQ (q:Pq) (l:List Pq):List Pq:=l.filter (fun x=>decide (Kord.lt x.po.nm q.po.nm))++q::l.filter (fun x=>decide (Kord.lt q.po.nm x.po.nm))
theorem zrz (q:Pq) (l:List Pq):(wQ q l).map Pq.pr=wP q.pr (l.map Pq.pr):=by
 unfold wQ wP;rw[List.map_append,List.map_cons,List.filter_map,List.filter_map];rfl
def zgs (ver:Int) (rs:List Rt) (l:List Pq) (rs':List Rt) (l':List Pq):Int×List Rt×List Pq:=if 12000<(zaq ⟨ver,rs',l'.map Pq.po⟩).length then (6,rs,l) else (0,rs',l')
def zgk (c:Cmd) (a':Option Addr) (tc':Nat) (ver:Int) (rs:List Rt) (l:List Pq):Int×List Rt×List Pq :=
 if c.act=1 then (if isP c.pool l=false∧32≤l.length then (6,rs,l) else zgs ver rs l rs (wQ ⟨⟨c.pool,c.ts⟩,a',tc'⟩ (dP c.pool l)))
 else if c.act=2 then (if isP c.pool l=false then (8,rs,l) else if isU c.pool rs=true then (13,rs,l) else zgs ver rs l rs (dP c.pool l))
 else if c.act=3 then (if isP c.pool l=false then (8,rs,l) else if isR c.host c.pre rs=false∧64≤rs.length then (6,rs,l) else zgs ver rs l (wR ⟨c.host,c.pre,c.pool⟩ (dR c.host c.pre rs)) l)
 else (if isR c.host c.pre rs=false then (8,rs,l) else zgs ver rs l (dR c.host c.pre rs) l)
def zo9 (w:World) (c:Cmd) (ver:Int) (rs:List Rt) (l:List Pq) (e:Ending) (w':World):Prop :=
 ∃ a' tc' ra' rc' pa' pc',e=.returned (.tuple #[.agg #[.int .i64 ver,.slice ra' (zgk c a' tc' ver rs l).2.1.length rc',.slice pa' (zgk c a' tc' ver rs l).2.2.length pc'],.int .i64 (zgk c a' tc' ver rs l).1]) ∧
  zdo 0 w' ra' rc' (zgk c a' tc' ver rs l).2.1∧za8 0 w' pa' pc' ((zgk c a' tc' ver rs l).2.2.map Pq.pr)∧(∀ p∈(zgk c a' tc' ver rs l).2.2,TgD w' p)∧Below w.heap.size w w'
theorem zpf {w w':World} {c:Cmd} {ver:Int} {rs rs':List Rt} {l l':List Pq} {a':Option Addr} {tc':Nat} {er:Int} (hv:zgk c a' tc' ver rs l=(er,rs',l')) {ra' pa':Option Addr} {rc' pc' n' m':Nat} (hn:rs'.length=n') (hm:l'.length=m')
  (h1:zdo 0 w' ra' rc' rs') (h2:za8 0 w' pa' pc' (l'.map Pq.pr)) (h3:∀ p∈l',TgD w' p) (h4:Below w.heap.size w w') :
  zo9 w c ver rs l (.returned (.tuple #[.agg #[.int .i64 ver,.slice ra' n' rc',.slice pa' m' pc'],.int .i64 er])) w' :=
 ⟨a',tc',ra',rc',pa',pc',by rw[hv,← hn,← hm],by rw[hv];exact h1,by rw[hv];exact h2,by rw[hv];exact h3,h4⟩
theorem zb1 {w w':World} {p:Pq} {r:Nat} {cs:Array Value} {T:TypeId} (h:TgD w p) (hg:w.grownBy w' (some r)) (hr:w.heap[r]? = some (.cells cs T (0,0))) (hcs:∀ (k:Nat) (t:ByteArray),cs[k]?≠some (Value.string t)):TgD w' p:=by
 refine⟨⟨h.1.lt,fun i hi=>?_⟩,h.2⟩;obtain⟨b,off,e,h1,h2⟩:=h.1.cell i hi;have hb:b<w.heap.size:=by
  rcases Nat.lt_or_ge b w.heap.size with hb|hb
  ·exact hb
  ·have:w.heap[b]? = none:=Array.getElem?_eq_none hb;simp[World.cell?,this] at h1
 have hne:b≠r:=fun e=>by
  subst e;rw[cell_of_row _ _ _ _ _ _ hr] at h1;exact hcs _ _ h1
 have hk:=hg.block b hb (fun e=>hne (Option.some.inj e));exact⟨b,off,e,(World.cell?_of_block hk).trans h1,(World.cell?_of_block hk).trans h2⟩
theorem zfd (v:Int) (a b:Option Addr) (n c m d:Nat):∀ (k:Nat) (t:ByteArray),(#[Value.int .i64 v,Value.slice a n c,Value.slice b m d]:Array Value)[k]?≠some (.string t):=by
 intro k t e
 match k with
 |0=>simp at e
 |1=>simp at e
 |2=>simp at e
 |_+3=>simp at e
theorem zjp {α:Type} (q:α→Bool) (l:List α) (j:Nat) (h:j<l.length):(l.take (j+1)).any q=((l.take j).any q||q l[j]):=by
 rw[List.take_succ_eq_append_getElem h,List.any_append];simp
theorem zak {base:Nat} {w w':World} {T T':TypeId} {k n r:Nat} {v:Value} {xs:List Value} {cs:Array Value} {fr:Nat×Nat} (h:w.ownsRow base T k v n xs) (hg:w.grownBy w' (some r)) (hr:w.heap[r]? = some (.cells cs T' fr)) (hT:T'≠T):w'.ownsRow base T k v n xs:=by
 refine⟨h.1,?_⟩;rcases h.2 with hv|⟨g,cap,cur,hv,hbg,hgg,r'⟩
 ·exact .inl hv
 ·refine .inr ⟨g,cap,cur,hv,hbg,(hg.block g (Array.getElem?_eq_some_iff.1 hgg).1 (fun e=>?_)).trans hgg,r'⟩;have:=Option.some.inj e;subst this;rw[hgg] at hr;simp only[Option.some.injEq,Obj.cells.injEq] at hr;exact hT hr.2.1.symm
theorem zf3 {α:Type} (p q:α→Bool) (h:∀ x,¬ (p x=true∧q x=true)):∀ l:List α,(l.filter p).length+(l.filter q).length≤l.length
 |[]=>by simp
 |x::r=>by
  have ih:=zf3 p q h r;have hx:=h x;simp only[List.filter_cons];by_cases h1:p x=true
  ·have h2:¬ q x=true:=fun e=>hx ⟨h1,e⟩;rw[if_pos h1,if_neg h2];simp only[List.length_cons];omega
  ·rw[if_neg h1];by_cases h2:q x=true
   ·rw[if_pos h2];simp only[List.length_cons];omega
   ·rw[if_neg h2];simp only[List.length_cons];omega
theorem zr7 (q:Pq) (l:List Pq):(wQ q l).length≤l.length+1:=by
 have:=zf3 (fun x:Pq=>decide (Kord.lt x.po.nm q.po.nm)) (fun x:Pq=>decide (Kord.lt q.po.nm x.po.nm)) (fun x e=>Kord.irr _ (Kord.tr (of_decide_eq_true e.1) (of_decide_eq_true e.2))) l;unfold wQ;rw[List.length_append,List.length_cons];omega
theorem zr8 (r:Rt) (l:List Rt):(wR r l).length≤l.length+1:=by
 have:=zf3 (fun x:Rt=>ltR x r) (fun x:Rt=>ltR r x) (fun x e=>Kord.irr _ (Kord.tr (of_decide_eq_true e.1) (of_decide_eq_true e.2))) l;unfold wR;rw[List.length_append,List.length_cons];omega
theorem znk {q x:Pq} {l:List Pq} (h:x∈wQ q l):x=q∨x∈l:=by
 unfold wQ at h;rcases List.mem_append.1 h with h|h
 ·exact .inr (List.mem_filter.1 h).1
 ·rcases List.mem_cons.1 h with h|h
  ·exact .inl h
  ·exact .inr (List.mem_filter.1 h).1
theorem zr4 {q x:Rt} {l:List Rt} (h:x∈wR q l):x=q∨x∈l:=by
 unfold wR at h;rcases List.mem_append.1 h with h|h
 ·exact .inr (List.mem_filter.1 h).1
 ·rcases List.mem_cons.1 h with h|h
  ·exact .inl h
  ·exact .inr (List.mem_filter.1 h).1
theorem zkp (nm:ByteArray) (l:List Pq):(dP nm l).length≤l.length:=List.length_filter_le _ _
theorem zkq (h p:ByteArray) (l:List Rt):(dR h p l).length≤l.length:=List.length_filter_le _ _
theorem zj {nm:ByteArray} {l:List Pq} {x:Pq} (h:x∈dP nm l):x∈l:=(List.mem_filter.1 h).1
theorem zp7 {h p:ByteArray} {l:List Rt} {x:Rt} (k:x∈dR h p l):x∈l:=(List.mem_filter.1 k).1
theorem zfj {ver:Int} {rs rs':List Rt} {l l':List Pq} (hs:SmallT ⟨ver,rs,l.map Pq.po⟩) (h1:rs'.length≤1000) (h2:l'.length≤1000) (h3:∀ r∈rs',r∈rs∨(r.h.size≤1000000∧r.p.size≤1000000∧r.l.size≤1000000)) (h4:∀ p∈l',p∈l∨(p.po.nm.size≤1000000∧p.po.ts.length≤100∧∀ t∈p.po.ts,t.1.size≤1000000)):SmallT ⟨ver,rs',l'.map Pq.po⟩:=by
 refine⟨h1,by show(List.map _ _).length≤_;rw[List.length_map];exact h2,fun r hr=>(h3 r hr).elim (fun h=>hs.rs r h) id,fun p hp=>?_⟩;obtain⟨q,hq,rfl⟩:=List.mem_map.1 hp;exact(h4 q hq).elim (fun h=>hs.ps _ (List.mem_map_of_mem h)) id
theorem zn7 {W:World} {ra pa:Option Addr} {rc pc:Nat} {rs:List Rt} {l:List Pq} {ver:Int} (hR:zdo 0 W ra rc rs) (hP:za8 0 W pa pc (l.map Pq.pr)) (hD:∀ p∈l,TgD W p) (hv:-9223372036854775808≤ver∧ver≤9223372036854775807) (hs:SmallT ⟨ver,rs,l.map Pq.po⟩):CfAt W ⟨ver,rs,l.map Pq.po⟩ ⟨ra,rc,pa,pc⟩:=by
 have hr:=(show zer 0 W ra rc rs from hR).at_ (fun r hr=>by have:=hs.rs r hr;simp only[maxLen];omega);have hrn:=hs.rn;have hpn:=hs.pn;simp only at hrn hpn;refine⟨hv,hr.1,⟨fun i hi=>?_⟩,⟨by simp only[maxLen];omega,hr.2.1⟩,⟨by simp only[maxLen];omega,?_⟩,hr.2.2⟩
 ·have hi':i<l.length:=by simpa using hi
  obtain⟨g,rfl,_,q0,q1⟩:=hP.cell i (by simpa using hi');have hd:=hD _ (List.getElem_mem hi');have hz:=hs.ps _ (List.mem_map_of_mem (List.getElem_mem hi'));refine⟨g,0,l[i].ta,l[i].tc,rfl,?_,?_,?_,?_,?_⟩
  ·simpa [Pq.pr] using q0
  ·simpa [Pq.pr] using q1
  ·simpa using hd.1
  ·have:=hz.2.1;simp only[List.getElem_map,maxLen];exact⟨by omega,hd.2.1⟩
  ·exact hd.2.2
 ·show(List.map Pq.po l).length≤pc
  rw[List.length_map];rcases Nat.eq_zero_or_pos l.length with h0|h0
  ·omega
  ·obtain⟨g,_,_,_,hle,_⟩:=ze1 hP (by simpa using h0)
   simpa using hle
theorem zc3 {W:World} {ra pa:Option Addr} {rc pc:Nat} {rs:List Rt} {l:List Pq} {ver:Int} (hR:zdo 0 W ra rc rs) (hP:za8 0 W pa pc (l.map Pq.pr)) (hD:∀ p∈l,TgD W p) (hv:-9223372036854775808≤ver∧ver≤9223372036854775807) (hs:SmallT ⟨ver,rs,l.map Pq.po⟩) (n m:Nat) (hn:rs.length=n) (hm:l.length=m) :
  Calls Tryz.prog 73 #[.slice none 0 0,.agg #[.int .i64 ver,.slice ra n rc,.slice pa m pc]] W fun e w'=>∃ sp' n' c',e=.returned (.slice sp' n' c')∧(zaq ⟨ver,rs,l.map Pq.po⟩).length=n'∧Below W.heap.size W w':=by
 subst hn;subst hm;have h:=zi0 W.heap.size (zn7 hR hP hD hv hs) hs (Below.refl _ _) (Nat.le_refl _) (sp:=none) (n0:=0) (c:=0) (l:=[]) rfl (OwnB.ofNil _ _) (by simp) (Nat.le_refl _);unfold zgv at h;simp only[List.length_map] at h;refine h.mono ?_;rintro e w' ⟨sp',n',c',rfl,h1,h2,h3⟩;have h4:=za h1;rw[List.nil_append] at h4;exact⟨sp',n',c',rfl,h4,h3.below (OwnB.ofNil _ _) (Nat.le_refl _)⟩
theorem zow {w:World} {ra pa:Option Addr} {rc pc:Nat} {rs:List Rt} {l:List Pq} {ver:Int} (hR:zdo 0 w ra rc rs) (hP:za8 0 w pa pc (l.map Pq.pr)) (hD:∀ p∈l,TgD w p) (hv:-9223372036854775808≤ver∧ver≤9223372036854775807) (hs:SmallT ⟨ver,rs,l.map Pq.po⟩) (n m:Nat) (hn:rs.length=n) (hm:l.length=m) (hn9:n≤900) (hm9:m≤900)
  (c:Cmd) (a:Option Addr) (tc:Nat) (hc:CmdAt w c a tc) (hsc:SmallCmd c) (hact:1≤c.act∧c.act≤4) :
  Calls Tryz.prog 70 #[.agg #[.int .i64 ver,.slice ra n rc,.slice pa m pc],zar c a tc] w (zo9 w c ver rs l):=by
 have OE:=zaa (fun (a':Option Addr) (tc':Nat) (er:Int) (rs':List Rt) (l':List Pq) (ra' pa':Option Addr) (rc' pc' n' m':Nat) (W:World) (q:zgk c a' tc' ver rs l=(er,rs',l')) (h1:rs'.length=n') (h2:l'.length=m') (h3:zdo 0 W ra' rc' rs') (h4:za8 0 W pa' pc' (l'.map Pq.pr)) (h5:∀ p∈l',TgD W p) (h6:Below w.heap.size w W)=>zpf q h1 h2 h3 h4 h5 h6);have AE:=zaa (fun (er:Int) (W:World) (q:zgk c none 0 ver rs l=(er,rs,l)) (hb:Below w.heap.size w W)=>zpf q hn hm (zae hR hb) (zae hP hb) (fun p hp=>(hD p hp).later hb) hb);have RV:=zaa (show ∀ a' tc',zgk c a' tc' ver rs l=_ from fun a' tc'=>by unfold zgk;rfl);have HR:=zaa hR;have HP:=zaa hP;have HD:=zaa hD;have HS:=zaa hs;have HN:=zaa hn;have HM:=zaa hm;have HC:=zaa hc;have SC:=zaa hsc;unfold zar;generalize zo9 w c ver rs l=Post at *;generalize zgk c=RVF at *;obtain⟨act,cli,seq,exp,host,pre,pool,ts⟩:=c;simp only at *;have c1:Below w.heap.size w (w.alloc (.cells #[.int .i64 ver,.slice ra n rc,.slice pa m pc] 45)):=(Below.refl _ _).alloc (Nat.le_refl _) _;have s1:(w.alloc (.cells #[.int .i64 ver,.slice ra n rc,.slice pa m pc] 45)).heap.size=w.heap.size+1:=zbz _ _;have c2:Below (w.alloc (.cells #[.int .i64 ver,.slice ra n rc,.slice pa m pc] 45)).heap.size (w.alloc (.cells #[.int .i64 ver,.slice ra n rc,.slice pa m pc] 45)) ((w.alloc (.cells #[.int .i64 ver,.slice ra n rc,.slice pa m pc] 45)).alloc (.cells #[.int .i64 act,.int .i64 cli,.int .i64 seq,.int .i64 exp,.string host,.string pre,.string pool,.slice a ts.length tc] 33)):=(Below.refl _ _).alloc (Nat.le_refl _) _
 have s2:((w.alloc (.cells #[.int .i64 ver,.slice ra n rc,.slice pa m pc] 45)).alloc (.cells #[.int .i64 act,.int .i64 cli,.int .i64 seq,.int .i64 exp,.string host,.string pre,.string pool,.slice a ts.length tc] 33)).heap.size=w.heap.size+2:=by rw[zbz,s1]
 have c3:Below ((w.alloc (.cells #[.int .i64 ver,.slice ra n rc,.slice pa m pc] 45)).alloc (.cells #[.int .i64 act,.int .i64 cli,.int .i64 seq,.int .i64 exp,.string host,.string pre,.string pool,.slice a ts.length tc] 33)).heap.size ((w.alloc (.cells #[.int .i64 ver,.slice ra n rc,.slice pa m pc] 45)).alloc (.cells #[.int .i64 act,.int .i64 cli,.int .i64 seq,.int .i64 exp,.string host,.string pre,.string pool,.slice a ts.length tc] 33)) (((w.alloc (.cells #[.int .i64 ver,.slice ra n rc,.slice pa m pc] 45)).alloc (.cells #[.int .i64 act,.int .i64 cli,.int .i64 seq,.int .i64 exp,.string host,.string pre,.string pool,.slice a ts.length tc] 33)).alloc (.cells #[.int .i64 0,.slice none 0 0,.slice none 0 0] 45)):=(Below.refl _ _).alloc (Nat.le_refl _) _;have s3:(((w.alloc (.cells #[.int .i64 ver,.slice ra n rc,.slice pa m pc] 45)).alloc (.cells #[.int .i64 act,.int .i64 cli,.int .i64 seq,.int .i64 exp,.string host,.string pre,.string pool,.slice a ts.length tc] 33)).alloc (.cells #[.int .i64 0,.slice none 0 0,.slice none 0 0] 45)).heap.size=w.heap.size+3:=by rw[zbz,s2]
 have c4:Below (((w.alloc (.cells #[.int .i64 ver,.slice ra n rc,.slice pa m pc] 45)).alloc (.cells #[.int .i64 act,.int .i64 cli,.int .i64 seq,.int .i64 exp,.string host,.string pre,.string pool,.slice a ts.length tc] 33)).alloc (.cells #[.int .i64 0,.slice none 0 0,.slice none 0 0] 45)).heap.size (((w.alloc (.cells #[.int .i64 ver,.slice ra n rc,.slice pa m pc] 45)).alloc (.cells #[.int .i64 act,.int .i64 cli,.int .i64 seq,.int .i64 exp,.string host,.string pre,.string pool,.slice a ts.length tc] 33)).alloc (.cells #[.int .i64 0,.slice none 0 0,.slice none 0 0] 45)) ((((w.alloc (.cells #[.int .i64 ver,.slice ra n rc,.slice pa m pc] 45)).alloc (.cells #[.int .i64 act,.int .i64 cli,.int .i64 seq,.int .i64 exp,.string host,.string pre,.string pool,.slice a ts.length tc] 33)).alloc (.cells #[.int .i64 0,.slice none 0 0,.slice none 0 0] 45)).alloc (.cells #[] 54)):=(Below.refl _ _).alloc (Nat.le_refl _) _;have Z4:=zaa (show((((w.alloc (.cells #[.int .i64 ver,.slice ra n rc,.slice pa m pc] 45)).alloc (.cells #[.int .i64 act,.int .i64 cli,.int .i64 seq,.int .i64 exp,.string host,.string pre,.string pool,.slice a ts.length tc] 33)).alloc (.cells #[.int .i64 0,.slice none 0 0,.slice none 0 0] 45)).alloc (.cells #[] 54)).heap.size=w.heap.size+4 by rw[zbz,s3]);have X0:=zaa (show((((w.alloc (.cells #[.int .i64 ver,.slice ra n rc,.slice pa m pc] 45)).alloc (.cells #[.int .i64 act,.int .i64 cli,.int .i64 seq,.int .i64 exp,.string host,.string pre,.string pool,.slice a ts.length tc] 33)).alloc (.cells #[.int .i64 0,.slice none 0 0,.slice none 0 0] 45)).alloc (.cells #[] 54)).heap[w.heap.size]? = some (.cells #[.int .i64 ver,.slice ra n rc,.slice pa m pc] 45 (0,0)) from zad c4 (zad c3 (zad c2 (zac _ _))))
 have X1:=zaa (show((((w.alloc (.cells #[.int .i64 ver,.slice ra n rc,.slice pa m pc] 45)).alloc (.cells #[.int .i64 act,.int .i64 cli,.int .i64 seq,.int .i64 exp,.string host,.string pre,.string pool,.slice a ts.length tc] 33)).alloc (.cells #[.int .i64 0,.slice none 0 0,.slice none 0 0] 45)).alloc (.cells #[] 54)).heap[w.heap.size+1]? = some (.cells #[.int .i64 act,.int .i64 cli,.int .i64 seq,.int .i64 exp,.string host,.string pre,.string pool,.slice a ts.length tc] 33 (0,0)) by have:=zad c4 (zad c3 (zac (w.alloc (.cells #[.int .i64 ver,.slice ra n rc,.slice pa m pc] 45)) (.cells #[.int .i64 act,.int .i64 cli,.int .i64 seq,.int .i64 exp,.string host,.string pre,.string pool,.slice a ts.length tc] 33)));rwa [s1] at this);have X2:=zaa (show((((w.alloc (.cells #[.int .i64 ver,.slice ra n rc,.slice pa m pc] 45)).alloc (.cells #[.int .i64 act,.int .i64 cli,.int .i64 seq,.int .i64 exp,.string host,.string pre,.string pool,.slice a ts.length tc] 33)).alloc (.cells #[.int .i64 0,.slice none 0 0,.slice none 0 0] 45)).alloc (.cells #[] 54)).heap[w.heap.size+2]? = some (.cells #[.int .i64 0,.slice none 0 0,.slice none 0 0] 45 (0,0)) by have:=zad c4 (zac ((w.alloc (.cells #[.int .i64 ver,.slice ra n rc,.slice pa m pc] 45)).alloc (.cells #[.int .i64 act,.int .i64 cli,.int .i64 seq,.int .i64 exp,.string host,.string pre,.string pool,.slice a ts.length tc] 33)) (.cells #[.int .i64 0,.slice none 0 0,.slice none 0 0] 45));rwa [s2] at this);have X3:=zaa (show((((w.alloc (.cells #[.int .i64 ver,.slice ra n rc,.slice pa m pc] 45)).alloc (.cells #[.int .i64 act,.int .i64 cli,.int .i64 seq,.int .i64 exp,.string host,.string pre,.string pool,.slice a ts.length tc] 33)).alloc (.cells #[.int .i64 0,.slice none 0 0,.slice none 0 0] 45)).alloc (.cells #[] 54)).heap[w.heap.size+3]? = some (.cells #[] 54 (0,0)) by have:=zac (((w.alloc (.cells #[.int .i64 ver,.slice ra n rc,.slice pa m pc] 45)).alloc (.cells #[.int .i64 act,.int .i64 cli,.int .i64 seq,.int .i64 exp,.string host,.string pre,.string pool,.slice a ts.length tc] 33)).alloc (.cells #[.int .i64 0,.slice none 0 0,.slice none 0 0] 45)) (.cells #[] 54);rwa [s3] at this)
 have b4:=zaa (c1.trans ((c2.trans ((c3.trans (c4.mono c3.size)).mono c2.size)).mono c1.size));clear c1 s1 c2 s2 c3 s3 c4 hR hP hD hs hn hm hc hsc;go_enter Tryz.func70,Tryz.ntmps70
 go_wp2_with fail
 generalize ((((w.alloc (.cells #[.int .i64 ver,.slice ra n rc,.slice pa m pc] 45)).alloc (.cells #[.int .i64 act,.int .i64 cli,.int .i64 seq,.int .i64 exp,.string host,.string pre,.string pool,.slice a ts.length tc] 33)).alloc (.cells #[.int .i64 0,.slice none 0 0,.slice none 0 0] 45)).alloc (.cells #[] 54))=V at *;have FB:=zaa (show ∀ W:World,Below (w.heap.size+3) V W→Below w.heap.size w W from fun W hb=>(za b4).trans (hb.mono (by omega)));have XC:=zaa (show ∀ W:World,Below (w.heap.size+3) V W→W.heap[w.heap.size]? = some (.cells #[.int .i64 ver,.slice ra n rc,.slice pa m pc] 45 (0,0)) from fun W hb=>(hb.block _ (by omega)).trans (za X0));have XX:=zaa (show ∀ W:World,Below (w.heap.size+3) V W→W.heap[w.heap.size+1]? = some (.cells #[.int .i64 act,.int .i64 cli,.int .i64 seq,.int .i64 exp,.string host,.string pre,.string pool,.slice a ts.length tc] 33 (0,0)) from fun W hb=>(hb.block _ (by omega)).trans (za X1));have XZ:=zaa (show ∀ W:World,Below (w.heap.size+3) V W→W.heap[w.heap.size+1+1]? = some (.cells #[.int .i64 0,.slice none 0 0,.slice none 0 0] 45 (0,0)) from fun W hb=>(hb.block _ (by omega)).trans (za X2));have Z0:=zaa (show za8 (w.heap.size+3) V (some ⟨w.heap.size+3,0,none⟩) 0 [] from zgg 2 (za X3) (Nat.le_refl _));clear X0 X1 X2 X3;go_loopw [6,8,9] (fun b v i wr=>∃ (j:Nat) (bb:Bool) (sp:Option Addr) (k c':Nat),j≤m∧b=.bool bb∧v=.slice sp k c'∧i=.int .i64 (j:Int)∧Hid (isP pool (l.take j)=bb)∧Hid ((dP pool (l.take j)).length=k)∧Hid (za8 (w.heap.size+3) wr sp c' ((dP pool (l.take j)).map Pq.pr))∧Hid (Below (w.heap.size+3) V wr)) (fun _ _ i _=>m - (intOf i).toNat)
 case atStart=>exact⟨0,false,_,0,0,by omega,rfl,rfl,rfl,zaa rfl,zaa rfl,Z0,zaa (Below.refl _ _)⟩
 case round =>
  obtain⟨j,bb,sp,k,c',hj,rfl,rfl,rfl,PB,NL,OW,BB⟩:=hrel;have HB:=zaa (show w.heap.size+3≤wr.heap.size by have:=(za BB).size;have:=za Z4;omega);have e2:=zab (za XC _ (za BB)) 2 _ rfl;by_cases hjm:j<m
  ·as_aux_lemma =>
   have y0:(0:Int)≤(j:Int):=by omega
   have y1:(j:Int)<(m:Int):=by omega
   have hjl:j<l.length:=by rw[za HM];exact hjm
   have FT:=zaa (show dP pool (l.take (j+1))=dP pool (l.take j)++(if (!decide (l[j].po.nm=pool))=true then [l[j]] else []) from zbr (fun q:Pq=>!decide (q.po.nm=pool)) l j hjl);have AT:=zaa (show isP pool (l.take (j+1))=(isP pool (l.take j)||decide (l[j].po.nm=pool)) from zjp (fun q:Pq=>decide (q.po.nm=pool)) l j hjl);obtain⟨g,rfl,hg1,q0,q1⟩:=(za HP).cell j (by simpa using hjl);have q0':w.cell? ⟨g,j*2,none⟩=some (.string l[j].po.nm):=by simpa [Pq.pr] using q0
   have q1':w.cell? ⟨g,j*2+1,none⟩=some (.slice l[j].ta l[j].po.ts.length l[j].tc):=by simpa [Pq.pr] using q1
   have c6:=zab (za XX _ (za BB)) 6 _ rfl;have KN:=zaa (show k≤j by have:=za6 (fun q:Pq=>!decide (q.po.nm=pool)) l j;have h2:=za NL;unfold dP at h2;omega);have KP:=zaa (show ∀ W:World,Below wr.heap.size wr W→W.cell? ⟨w.heap.size,2,none⟩=some (.slice (some ⟨g,0,none⟩) m pc)∧W.cell? ⟨w.heap.size+1,6,none⟩=some (.string pool)∧W.cell? ⟨g,j*2,none⟩=some (.string l[j].po.nm)∧W.cell? ⟨g,j*2+1,none⟩=some (.slice l[j].ta l[j].po.ts.length l[j].tc) from fun W hb=>⟨cell_later hb e2,cell_later hb c6,cell_later hb (cell_later (za FB _ (za BB)) q0'),cell_later hb (cell_later (za FB _ (za BB)) q1')⟩);clear q0 q1 q0' q1' c6;generalize l[j]=x at *;have EP:=zaa (show x.pr=⟨x.po.nm,x.ta,x.po.ts.length,x.tc⟩ from rfl);obtain⟨kp2,kp6,p0,p1⟩:=za KP _ (Below.refl _ _);by_cases hq:x.po.nm=pool
   ·as_aux_lemma =>
    have hss:(x.po.nm.toList==pool.toList)=true:=by rw[zc];exact decide_eq_true hq
    rw[decide_eq_true hq] at FT AT;rw[if_neg (by decide),List.append_nil] at FT;rw[Bool.or_true] at AT;have BN:∀ k,Below wr.heap.size wr (wr.drewN k):=fun k=>⟨(Below.refl wr.heap.size wr).os,(Below.refl wr.heap.size wr).tape,(Below.refl wr.heap.size wr).output,(Below.refl wr.heap.size wr).size,(Below.refl wr.heap.size wr).block⟩
    go_wp2_with fail
    go_quiet (fail)
    generalize hVN:wr.drewN _=V1;have GV1:=zaa (show Below wr.heap.size wr V1 from hVN ▸ BN _);clear BN hVN;obtain⟨_,_,_,_⟩:=za KP _ (za GV1)
    go_wp2
    exact⟨⟨j+1,true,sp,k,c',by omega,rfl,rfl,by go_num,AT,zaa (by rw[za FT];exact za NL),zaa (by rw[za FT];exact zae (za OW) (za GV1)),zaa ((za BB).trans ((za GV1).mono (za HB)))⟩,by simp[intOf];omega⟩
   ·as_aux_lemma =>
    have hss:(x.po.nm.toList==pool.toList)=false:=by rw[zc];exact decide_eq_false hq
    rw[decide_eq_false hq] at FT AT;rw[if_pos (by decide)] at FT;rw[Bool.or_false] at AT;have BN:∀ k,Below wr.heap.size wr (wr.drewN k):=fun k=>⟨(Below.refl wr.heap.size wr).os,(Below.refl wr.heap.size wr).tape,(Below.refl wr.heap.size wr).output,(Below.refl wr.heap.size wr).size,(Below.refl wr.heap.size wr).block⟩
    go_wp2_with fail
    go_quiet (fail)
    generalize hVN:wr.drewN _=V1;have GV1:=zaa (show Below wr.heap.size wr V1 from hVN ▸ BN _);clear BN hVN;obtain⟨kp2,kp6,p0,p1⟩:=za KP _ (za GV1);have OA:=zaa (show za8 (w.heap.size+3) (V1.alloc (.cells #[.string x.po.nm,.slice x.ta x.po.ts.length x.tc] 54)) sp c' ((dP pool (l.take j)).map Pq.pr) from zae (za OW) ((za GV1).alloc (za GV1).size _));have XA:=zaa (zac V1 (.cells #[.string x.po.nm,.slice x.ta x.po.ts.length x.tc] 54));have GA:=zaa (show Below wr.heap.size wr (V1.alloc (.cells #[.string x.po.nm,.slice x.ta x.po.ts.length x.tc] 54)) from(za GV1).alloc (za GV1).size _);have NL2:=zaa (show((dP pool (l.take j)).map Pq.pr).length=k by rw[List.length_map];exact za NL)
    go_wp2_with (at_builtin;refine zcf rfl (.tmp 31) (.tmp 37) rfl (w.heap.size+3) sp k c' _ rfl (za NL2) (za OA) _ x.pr rfl (za XA) (by have:=za KN;omega) (by have:=(za GA).size;have:=za HB;omega) ?_;intro sp2 c2 W2 ho hb2;have O2:=zaa ho;have BW:=zaa hb2;clear ho hb2)
    exact⟨⟨j+1,bb,sp2,k+1,c2,by omega,rfl,rfl,by go_num,zaa (by rw[za AT];exact za PB),zaa (by rw[za FT,List.length_append,za NL];rfl),zaa (by rw[za FT,List.map_append];exact za O2),zaa ((za BB).trans (((za GA).mono (za HB)).trans (za BW)))⟩,by simp[intOf];omega⟩
  ·as_aux_lemma =>
   have hjj:¬ (j:Int)<(m:Int):=by omega
   obtain rfl:m=j:=by omega
   rw[List.take_of_length_le (by rw[za HM];exact Nat.le_refl _)] at PB NL OW;have bA:=zaa (show Below wr.heap.size wr (wr.alloc (.cells #[] 56)) from(Below.refl _ _).alloc (Nat.le_refl _) _);have XR:=zaa (zac wr (.cells #[] 56))
   go_wp2_with fail
   have BP:=zaa (show ∀ W:World,Below wr.heap.size (wr.alloc (.cells #[] 56)) W→Below wr.heap.size wr W from fun W hb=>(za bA).trans hb);have PW:=zaa (show ∀ W:World,Below wr.heap.size (wr.alloc (.cells #[] 56)) W→za8 (w.heap.size+3) W sp c' ((dP pool l).map Pq.pr) from fun W hb=>zae (za OW) (za BP _ hb));have FE:=zaa (show ∀ W:World,Below wr.heap.size (wr.alloc (.cells #[] 56)) W→Below (w.heap.size+3) V W from fun W hb=>(za BB).trans ((za BP _ hb).mono (za HB)));have ES:=zaa (za bA).size;generalize wr.alloc (.cells #[] 56)=W2 at *;clear BP bA OW BB e2;generalize wr.heap.size=E at *;have ZR:=zaa (show zdo E W2 (some ⟨E,0,none⟩) 0 [] from zgg 3 (za XR) (Nat.le_refl _));clear XR;go_loopw [7,10,11,12] (fun u k v i wr=>∃ (j:Nat) (bu bk:Bool) (sp2:Option Addr) (k2 c2:Nat),j≤n∧u=.bool bu∧k=.bool bk∧v=.slice sp2 k2 c2∧i=.int .i64 (j:Int)∧Hid (isU pool (rs.take j)=bu)∧Hid (isR host pre (rs.take j)=bk)∧Hid ((dR host pre (rs.take j)).length=k2)∧Hid (zdo E wr sp2 c2 (dR host pre (rs.take j)))∧Hid (Below E W2 wr)) (fun _ _ _ i _=>n - (intOf i).toNat)
   case atStart=>exact⟨0,false,false,_,0,0,by omega,rfl,rfl,rfl,rfl,zaa rfl,zaa rfl,zaa rfl,ZR,zaa (Below.refl _ _)⟩
   case round =>
    obtain⟨j,bu,bk,sp2,k2,c2,hj,rfl,rfl,rfl,rfl,UB,KB,NL2,OW,BB⟩:=hrel;have HB2:=zaa (show E≤wr.heap.size from Nat.le_trans (za ES) (za BB).size);have BV:=zaa (za FE _ (za BB));have e1:=zab (za XC _ (za BV)) 1 _ rfl;by_cases hjn:j<n
    ·as_aux_lemma =>
     have y0:(0:Int)≤(j:Int):=by omega
     have y1:(j:Int)<(n:Int):=by omega
     have hjl:j<rs.length:=by rw[za HN];exact hjn
     have FT:=zaa (show dR host pre (rs.take (j+1))=dR host pre (rs.take j)++(if (!decide (rs[j].h=host∧rs[j].p=pre))=true then [rs[j]] else []) from zbr (fun r:Rt=>!decide (r.h=host∧r.p=pre)) rs j hjl);have AU:=zaa (show isU pool (rs.take (j+1))=(isU pool (rs.take j)||decide (rs[j].l=pool)) from zjp (fun r:Rt=>decide (r.l=pool)) rs j hjl);have AK:=zaa (show isR host pre (rs.take (j+1))=(isR host pre (rs.take j)||decide (rs[j].h=host∧rs[j].p=pre)) from zjp (fun r:Rt=>decide (r.h=host∧r.p=pre)) rs j hjl);obtain⟨g,rfl,hg1,q0,q1,q2⟩:=(za HR).cell j hjl;have x4:=zab (za XX _ (za BV)) 4 _ rfl;have x5:=zab (za XX _ (za BV)) 5 _ rfl;have x6:=zab (za XX _ (za BV)) 6 _ rfl;have KN:=zaa (show k2≤j by have:=za6 (fun r:Rt=>!decide (r.h=host∧r.p=pre)) rs j;have h2:=za NL2;unfold dR at h2;omega);generalize hxx:rs[j]=x at *;have KP:=zaa (show ∀ W:World,Below wr.heap.size wr W→W.cell? ⟨w.heap.size,1,none⟩=some (.slice (some ⟨g,0,none⟩) n rc)∧W.cell? ⟨w.heap.size+1,4,none⟩=some (.string host)∧W.cell? ⟨w.heap.size+1,5,none⟩=some (.string pre)∧W.cell? ⟨w.heap.size+1,6,none⟩=some (.string pool)∧W.cell? ⟨g,j*3,none⟩=some (.string x.h)∧W.cell? ⟨g,j*3+1,none⟩=some (.string x.p)∧W.cell? ⟨g,j*3+2,none⟩=some (.string x.l) from fun W hb=>⟨cell_later hb e1,cell_later hb x4,cell_later hb x5,cell_later hb x6,cell_later hb (cell_later (za FB _ (za BV)) q0),cell_later hb (cell_later (za FB _ (za BV)) q1),cell_later hb (cell_later (za FB _ (za BV)) q2)⟩)
     clear q0 q1 q2 x4 x5 x6 hxx e1;rw[za UB] at AU;rw[za KB] at AK;obtain⟨a1,a4,a5,a6,p0,p1,p2⟩:=za KP _ (Below.refl _ _);cases bu with
     |true =>
      rw[Bool.true_or] at AU;have BN:∀ k,Below wr.heap.size wr (wr.drewN k):=fun k=>⟨(Below.refl wr.heap.size wr).os,(Below.refl wr.heap.size wr).tape,(Below.refl wr.heap.size wr).output,(Below.refl wr.heap.size wr).size,(Below.refl wr.heap.size wr).block⟩
      go_wp2_with fail
      go_quiet (fail)
      generalize hVN:wr.drewN _=V1;have GV1:=zaa (show Below wr.heap.size wr V1 from hVN ▸ BN _);clear BN hVN;obtain⟨a1,a4,a5,a6,p0,p1,p2⟩:=za KP _ (za GV1);by_cases hh:x.h=host
      ·have t1:(x.h.toList==host.toList)=true:=by rw[zc];exact decide_eq_true hh
       by_cases hp:x.p=pre
       ·as_aux_lemma =>
        have t2:(x.p.toList==pre.toList)=true:=by rw[zc];exact decide_eq_true hp
        rw[decide_eq_true (And.intro hh hp)] at FT AK;clear hh hp;rw[if_neg (by decide),List.append_nil] at FT;rw[Bool.or_true] at AK;have BN:∀ k,Below V1.heap.size V1 (V1.drewN k):=fun k=>⟨(Below.refl V1.heap.size V1).os,(Below.refl V1.heap.size V1).tape,(Below.refl V1.heap.size V1).output,(Below.refl V1.heap.size V1).size,(Below.refl V1.heap.size V1).block⟩
        go_wp2_with fail
        go_quiet (fail)
        generalize hVN:V1.drewN _=V3;have GV3:=zaa (show Below V1.heap.size V1 V3 from hVN ▸ BN _);clear BN hVN;have GV:=zaa ((za GV1).trans ((za GV3).mono (za GV1).size))
        go_wp2
        exact⟨⟨j+1,true,true,sp2,k2,c2,by omega,rfl,rfl,rfl,by go_num,AU,AK,zaa (by rw[za FT];exact za NL2),zaa (by rw[za FT];exact zae (za OW) (za GV)),zaa ((za BB).trans ((za GV).mono (za HB2)))⟩,by simp[intOf];omega⟩
       ·as_aux_lemma =>
        have t2:(x.p.toList==pre.toList)=false:=by rw[zc];exact decide_eq_false hp
        rw[decide_eq_false (fun e=>hp e.2)] at FT AK;clear hh hp;rw[if_pos (by decide)] at FT;rw[Bool.or_false] at AK;have BN:∀ k,Below V1.heap.size V1 (V1.drewN k):=fun k=>⟨(Below.refl V1.heap.size V1).os,(Below.refl V1.heap.size V1).tape,(Below.refl V1.heap.size V1).output,(Below.refl V1.heap.size V1).size,(Below.refl V1.heap.size V1).block⟩
        go_wp2_with fail
        go_quiet (fail)
        generalize hVN:V1.drewN _=V3;have GV3:=zaa (show Below V1.heap.size V1 V3 from hVN ▸ BN _);clear BN hVN;have GV:=zaa ((za GV1).trans ((za GV3).mono (za GV1).size));obtain⟨a1,a4,a5,a6,p0,p1,p2⟩:=za KP _ (za GV);have OA:=zaa (show zdo E (V3.alloc (.cells #[.string x.h,.string x.p,.string x.l] 56)) sp2 c2 (dR host pre (rs.take j)) from zae (za OW) ((za GV).alloc (za GV).size _));have XA:=zaa (zac V3 (.cells #[.string x.h,.string x.p,.string x.l] 56));have GA:=zaa (show Below wr.heap.size wr (V3.alloc (.cells #[.string x.h,.string x.p,.string x.l] 56)) from(za GV).alloc (za GV).size _)
        go_wp2_with (at_builtin;refine zaw rfl (.tmp 79) (.tmp 85) rfl E sp2 k2 c2 _ rfl (za NL2) (za OA) _ x rfl (za XA) (by have:=za KN;omega) (Nat.le_trans (za HB2) (za GA).size) ?_;intro sp4 c4 W4 ho hb2;have O2:=zaa ho;have BW:=zaa hb2;clear ho hb2)
        exact⟨⟨j+1,true,bk,sp4,k2+1,c4,by omega,rfl,rfl,rfl,by go_num,AU,AK,zaa (by rw[za FT,List.length_append,za NL2];rfl),zaa (by rw[za FT];exact za O2),zaa ((za BB).trans (((za GA).mono (za HB2)).trans (za BW)))⟩,by simp[intOf];omega⟩
      ·as_aux_lemma =>
       have t1:(x.h.toList==host.toList)=false:=by rw[zc];exact decide_eq_false hh
       rw[decide_eq_false (fun e=>hh e.1)] at FT AK;clear hh;rw[if_pos (by decide)] at FT;rw[Bool.or_false] at AK;have BN:∀ k,Below V1.heap.size V1 (V1.drewN k):=fun k=>⟨(Below.refl V1.heap.size V1).os,(Below.refl V1.heap.size V1).tape,(Below.refl V1.heap.size V1).output,(Below.refl V1.heap.size V1).size,(Below.refl V1.heap.size V1).block⟩
       go_wp2_with fail
       go_quiet (fail)
       generalize hVN:V1.drewN _=V3;have GV3:=zaa (show Below V1.heap.size V1 V3 from hVN ▸ BN _);clear BN hVN;have GV:=zaa ((za GV1).trans ((za GV3).mono (za GV1).size));obtain⟨a1,a4,a5,a6,p0,p1,p2⟩:=za KP _ (za GV);have OA:=zaa (show zdo E (V3.alloc (.cells #[.string x.h,.string x.p,.string x.l] 56)) sp2 c2 (dR host pre (rs.take j)) from zae (za OW) ((za GV).alloc (za GV).size _));have XA:=zaa (zac V3 (.cells #[.string x.h,.string x.p,.string x.l] 56));have GA:=zaa (show Below wr.heap.size wr (V3.alloc (.cells #[.string x.h,.string x.p,.string x.l] 56)) from(za GV).alloc (za GV).size _)
       go_wp2_with (at_builtin;refine zaw rfl (.tmp 79) (.tmp 85) rfl E sp2 k2 c2 _ rfl (za NL2) (za OA) _ x rfl (za XA) (by have:=za KN;omega) (Nat.le_trans (za HB2) (za GA).size) ?_;intro sp4 c4 W4 ho hb2;have O2:=zaa ho;have BW:=zaa hb2;clear ho hb2)
       exact⟨⟨j+1,true,bk,sp4,k2+1,c4,by omega,rfl,rfl,rfl,by go_num,AU,AK,zaa (by rw[za FT,List.length_append,za NL2];rfl),zaa (by rw[za FT];exact za O2),zaa ((za BB).trans (((za GA).mono (za HB2)).trans (za BW)))⟩,by simp[intOf];omega⟩
     |false =>
      by_cases hl:x.l=pool
      ·have t0:(x.l.toList==pool.toList)=true:=by rw[zc];exact decide_eq_true hl
       rw[decide_eq_true hl,Bool.or_true] at AU;clear hl;have BN:∀ k,Below wr.heap.size wr (wr.drewN k):=fun k=>⟨(Below.refl wr.heap.size wr).os,(Below.refl wr.heap.size wr).tape,(Below.refl wr.heap.size wr).output,(Below.refl wr.heap.size wr).size,(Below.refl wr.heap.size wr).block⟩
       go_wp2_with fail
       go_quiet (fail)
       generalize hVN:wr.drewN _=V1;have GV1:=zaa (show Below wr.heap.size wr V1 from hVN ▸ BN _);clear BN hVN;obtain⟨a1,a4,a5,a6,p0,p1,p2⟩:=za KP _ (za GV1);by_cases hh:x.h=host
       ·have t1:(x.h.toList==host.toList)=true:=by rw[zc];exact decide_eq_true hh
        by_cases hp:x.p=pre
        ·as_aux_lemma =>
         have t2:(x.p.toList==pre.toList)=true:=by rw[zc];exact decide_eq_true hp
         rw[decide_eq_true (And.intro hh hp)] at FT AK;clear hh hp;rw[if_neg (by decide),List.append_nil] at FT;rw[Bool.or_true] at AK;have BN:∀ k,Below V1.heap.size V1 (V1.drewN k):=fun k=>⟨(Below.refl V1.heap.size V1).os,(Below.refl V1.heap.size V1).tape,(Below.refl V1.heap.size V1).output,(Below.refl V1.heap.size V1).size,(Below.refl V1.heap.size V1).block⟩
         go_wp2_with fail
         go_quiet (fail)
         generalize hVN:V1.drewN _=V3;have GV3:=zaa (show Below V1.heap.size V1 V3 from hVN ▸ BN _);clear BN hVN;have GV:=zaa ((za GV1).trans ((za GV3).mono (za GV1).size))
         go_wp2
         exact⟨⟨j+1,true,true,sp2,k2,c2,by omega,rfl,rfl,rfl,by go_num,AU,AK,zaa (by rw[za FT];exact za NL2),zaa (by rw[za FT];exact zae (za OW) (za GV)),zaa ((za BB).trans ((za GV).mono (za HB2)))⟩,by simp[intOf];omega⟩
        ·as_aux_lemma =>
         have t2:(x.p.toList==pre.toList)=false:=by rw[zc];exact decide_eq_false hp
         rw[decide_eq_false (fun e=>hp e.2)] at FT AK;clear hh hp;rw[if_pos (by decide)] at FT;rw[Bool.or_false] at AK;have BN:∀ k,Below V1.heap.size V1 (V1.drewN k):=fun k=>⟨(Below.refl V1.heap.size V1).os,(Below.refl V1.heap.size V1).tape,(Below.refl V1.heap.size V1).output,(Below.refl V1.heap.size V1).size,(Below.refl V1.heap.size V1).block⟩
         go_wp2_with fail
         go_quiet (fail)
         generalize hVN:V1.drewN _=V3;have GV3:=zaa (show Below V1.heap.size V1 V3 from hVN ▸ BN _);clear BN hVN;have GV:=zaa ((za GV1).trans ((za GV3).mono (za GV1).size));obtain⟨a1,a4,a5,a6,p0,p1,p2⟩:=za KP _ (za GV);have OA:=zaa (show zdo E (V3.alloc (.cells #[.string x.h,.string x.p,.string x.l] 56)) sp2 c2 (dR host pre (rs.take j)) from zae (za OW) ((za GV).alloc (za GV).size _));have XA:=zaa (zac V3 (.cells #[.string x.h,.string x.p,.string x.l] 56));have GA:=zaa (show Below wr.heap.size wr (V3.alloc (.cells #[.string x.h,.string x.p,.string x.l] 56)) from(za GV).alloc (za GV).size _)
         go_wp2_with (at_builtin;refine zaw rfl (.tmp 79) (.tmp 85) rfl E sp2 k2 c2 _ rfl (za NL2) (za OA) _ x rfl (za XA) (by have:=za KN;omega) (Nat.le_trans (za HB2) (za GA).size) ?_;intro sp4 c4 W4 ho hb2;have O2:=zaa ho;have BW:=zaa hb2;clear ho hb2)
         exact⟨⟨j+1,true,bk,sp4,k2+1,c4,by omega,rfl,rfl,rfl,by go_num,AU,AK,zaa (by rw[za FT,List.length_append,za NL2];rfl),zaa (by rw[za FT];exact za O2),zaa ((za BB).trans (((za GA).mono (za HB2)).trans (za BW)))⟩,by simp[intOf];omega⟩
       ·as_aux_lemma =>
        have t1:(x.h.toList==host.toList)=false:=by rw[zc];exact decide_eq_false hh
        rw[decide_eq_false (fun e=>hh e.1)] at FT AK;clear hh;rw[if_pos (by decide)] at FT;rw[Bool.or_false] at AK;have BN:∀ k,Below V1.heap.size V1 (V1.drewN k):=fun k=>⟨(Below.refl V1.heap.size V1).os,(Below.refl V1.heap.size V1).tape,(Below.refl V1.heap.size V1).output,(Below.refl V1.heap.size V1).size,(Below.refl V1.heap.size V1).block⟩
        go_wp2_with fail
        go_quiet (fail)
        generalize hVN:V1.drewN _=V3;have GV3:=zaa (show Below V1.heap.size V1 V3 from hVN ▸ BN _);clear BN hVN;have GV:=zaa ((za GV1).trans ((za GV3).mono (za GV1).size));obtain⟨a1,a4,a5,a6,p0,p1,p2⟩:=za KP _ (za GV);have OA:=zaa (show zdo E (V3.alloc (.cells #[.string x.h,.string x.p,.string x.l] 56)) sp2 c2 (dR host pre (rs.take j)) from zae (za OW) ((za GV).alloc (za GV).size _));have XA:=zaa (zac V3 (.cells #[.string x.h,.string x.p,.string x.l] 56));have GA:=zaa (show Below wr.heap.size wr (V3.alloc (.cells #[.string x.h,.string x.p,.string x.l] 56)) from(za GV).alloc (za GV).size _)
        go_wp2_with (at_builtin;refine zaw rfl (.tmp 79) (.tmp 85) rfl E sp2 k2 c2 _ rfl (za NL2) (za OA) _ x rfl (za XA) (by have:=za KN;omega) (Nat.le_trans (za HB2) (za GA).size) ?_;intro sp4 c4 W4 ho hb2;have O2:=zaa ho;have BW:=zaa hb2;clear ho hb2)
        exact⟨⟨j+1,true,bk,sp4,k2+1,c4,by omega,rfl,rfl,rfl,by go_num,AU,AK,zaa (by rw[za FT,List.length_append,za NL2];rfl),zaa (by rw[za FT];exact za O2),zaa ((za BB).trans (((za GA).mono (za HB2)).trans (za BW)))⟩,by simp[intOf];omega⟩
      ·have t0:(x.l.toList==pool.toList)=false:=by rw[zc];exact decide_eq_false hl
       rw[decide_eq_false hl,Bool.or_false] at AU;clear hl;have BN:∀ k,Below wr.heap.size wr (wr.drewN k):=fun k=>⟨(Below.refl wr.heap.size wr).os,(Below.refl wr.heap.size wr).tape,(Below.refl wr.heap.size wr).output,(Below.refl wr.heap.size wr).size,(Below.refl wr.heap.size wr).block⟩
       go_wp2_with fail
       go_quiet (fail)
       generalize hVN:wr.drewN _=V1;have GV1:=zaa (show Below wr.heap.size wr V1 from hVN ▸ BN _);clear BN hVN;obtain⟨a1,a4,a5,a6,p0,p1,p2⟩:=za KP _ (za GV1);by_cases hh:x.h=host
       ·have t1:(x.h.toList==host.toList)=true:=by rw[zc];exact decide_eq_true hh
        by_cases hp:x.p=pre
        ·as_aux_lemma =>
         have t2:(x.p.toList==pre.toList)=true:=by rw[zc];exact decide_eq_true hp
         rw[decide_eq_true (And.intro hh hp)] at FT AK;clear hh hp;rw[if_neg (by decide),List.append_nil] at FT;rw[Bool.or_true] at AK;have BN:∀ k,Below V1.heap.size V1 (V1.drewN k):=fun k=>⟨(Below.refl V1.heap.size V1).os,(Below.refl V1.heap.size V1).tape,(Below.refl V1.heap.size V1).output,(Below.refl V1.heap.size V1).size,(Below.refl V1.heap.size V1).block⟩
         go_wp2_with fail
         go_quiet (fail)
         generalize hVN:V1.drewN _=V3;have GV3:=zaa (show Below V1.heap.size V1 V3 from hVN ▸ BN _);clear BN hVN;have GV:=zaa ((za GV1).trans ((za GV3).mono (za GV1).size))
         go_wp2
         exact⟨⟨j+1,false,true,sp2,k2,c2,by omega,rfl,rfl,rfl,by go_num,AU,AK,zaa (by rw[za FT];exact za NL2),zaa (by rw[za FT];exact zae (za OW) (za GV)),zaa ((za BB).trans ((za GV).mono (za HB2)))⟩,by simp[intOf];omega⟩
        ·as_aux_lemma =>
         have t2:(x.p.toList==pre.toList)=false:=by rw[zc];exact decide_eq_false hp
         rw[decide_eq_false (fun e=>hp e.2)] at FT AK;clear hh hp;rw[if_pos (by decide)] at FT;rw[Bool.or_false] at AK;have BN:∀ k,Below V1.heap.size V1 (V1.drewN k):=fun k=>⟨(Below.refl V1.heap.size V1).os,(Below.refl V1.heap.size V1).tape,(Below.refl V1.heap.size V1).output,(Below.refl V1.heap.size V1).size,(Below.refl V1.heap.size V1).block⟩
         go_wp2_with fail
         go_quiet (fail)
         generalize hVN:V1.drewN _=V3;have GV3:=zaa (show Below V1.heap.size V1 V3 from hVN ▸ BN _);clear BN hVN;have GV:=zaa ((za GV1).trans ((za GV3).mono (za GV1).size));obtain⟨a1,a4,a5,a6,p0,p1,p2⟩:=za KP _ (za GV);have OA:=zaa (show zdo E (V3.alloc (.cells #[.string x.h,.string x.p,.string x.l] 56)) sp2 c2 (dR host pre (rs.take j)) from zae (za OW) ((za GV).alloc (za GV).size _));have XA:=zaa (zac V3 (.cells #[.string x.h,.string x.p,.string x.l] 56));have GA:=zaa (show Below wr.heap.size wr (V3.alloc (.cells #[.string x.h,.string x.p,.string x.l] 56)) from(za GV).alloc (za GV).size _)
         go_wp2_with (at_builtin;refine zaw rfl (.tmp 79) (.tmp 85) rfl E sp2 k2 c2 _ rfl (za NL2) (za OA) _ x rfl (za XA) (by have:=za KN;omega) (Nat.le_trans (za HB2) (za GA).size) ?_;intro sp4 c4 W4 ho hb2;have O2:=zaa ho;have BW:=zaa hb2;clear ho hb2)
         exact⟨⟨j+1,false,bk,sp4,k2+1,c4,by omega,rfl,rfl,rfl,by go_num,AU,AK,zaa (by rw[za FT,List.length_append,za NL2];rfl),zaa (by rw[za FT];exact za O2),zaa ((za BB).trans (((za GA).mono (za HB2)).trans (za BW)))⟩,by simp[intOf];omega⟩
       ·as_aux_lemma =>
        have t1:(x.h.toList==host.toList)=false:=by rw[zc];exact decide_eq_false hh
        rw[decide_eq_false (fun e=>hh e.1)] at FT AK;clear hh;rw[if_pos (by decide)] at FT;rw[Bool.or_false] at AK;have BN:∀ k,Below V1.heap.size V1 (V1.drewN k):=fun k=>⟨(Below.refl V1.heap.size V1).os,(Below.refl V1.heap.size V1).tape,(Below.refl V1.heap.size V1).output,(Below.refl V1.heap.size V1).size,(Below.refl V1.heap.size V1).block⟩
        go_wp2_with fail
        go_quiet (fail)
        generalize hVN:V1.drewN _=V3;have GV3:=zaa (show Below V1.heap.size V1 V3 from hVN ▸ BN _);clear BN hVN;have GV:=zaa ((za GV1).trans ((za GV3).mono (za GV1).size));obtain⟨a1,a4,a5,a6,p0,p1,p2⟩:=za KP _ (za GV);have OA:=zaa (show zdo E (V3.alloc (.cells #[.string x.h,.string x.p,.string x.l] 56)) sp2 c2 (dR host pre (rs.take j)) from zae (za OW) ((za GV).alloc (za GV).size _));have XA:=zaa (zac V3 (.cells #[.string x.h,.string x.p,.string x.l] 56));have GA:=zaa (show Below wr.heap.size wr (V3.alloc (.cells #[.string x.h,.string x.p,.string x.l] 56)) from(za GV).alloc (za GV).size _)
        go_wp2_with (at_builtin;refine zaw rfl (.tmp 79) (.tmp 85) rfl E sp2 k2 c2 _ rfl (za NL2) (za OA) _ x rfl (za XA) (by have:=za KN;omega) (Nat.le_trans (za HB2) (za GA).size) ?_;intro sp4 c4 W4 ho hb2;have O2:=zaa ho;have BW:=zaa hb2;clear ho hb2)
        exact⟨⟨j+1,false,bk,sp4,k2+1,c4,by omega,rfl,rfl,rfl,by go_num,AU,AK,zaa (by rw[za FT,List.length_append,za NL2];rfl),zaa (by rw[za FT];exact za O2),zaa ((za BB).trans (((za GA).mono (za HB2)).trans (za BW)))⟩,by simp[intOf];omega⟩
    ·as_aux_lemma =>
     have hjj:¬ (j:Int)<(n:Int):=by omega
     obtain rfl:n=j:=by omega
     rw[List.take_of_length_le (by rw[za HN];exact Nat.le_refl _)] at UB KB NL2 OW;have e0:=zab (za XC _ (za BV)) 0 _ rfl;have e2:=zab (za XC _ (za BV)) 2 _ rfl;have PP:=zaa (za PW _ (za BB));clear hj hjn;rcases(show act=1∨act=2∨act=3∨act=4 by omega) with h|h|h|h
     ·as_aux_lemma =>
      subst h;have b3:=zaa (show Below wr.heap.size wr (wr.alloc (.cells #[.int .i64 ver,.slice ra n rc,.slice pa m pc] 45)) from(Below.refl _ _).alloc (Nat.le_refl _) _);have XO:=zaa (zac wr (.cells #[.int .i64 ver,.slice ra n rc,.slice pa m pc] 45));have S3:=zaa (show(wr.alloc (.cells #[.int .i64 ver,.slice ra n rc,.slice pa m pc] 45)).heap.size=wr.heap.size+1 by rw[zbz]);have B3:=zaa ((za BB).trans ((za b3).mono (za HB2)));have BV3:=zaa (za FE _ (za B3));have PP3:=zaa (za PW _ (za B3));have ORW:=zaa (zae (za OW) (za b3));have ORW0:=zaa (za OW);have NH:=zaa (show w.heap.size+3≤wr.heap.size by have:=za HB;have:=za HB2;omega);have x0:=zab (za XX _ (za BV3)) 0 (.int .i64 1) rfl;have d0:=zab (za XC _ (za BV3)) 0 (.int .i64 ver) rfl;have d1:=zab (za XC _ (za BV3)) 1 (.slice ra n rc) rfl;have d2:=zab (za XC _ (za BV3)) 2 (.slice pa m pc) rfl;clear B3 OW PP;cases bb with
      |false =>
       by_cases h32:32≤m
       ·as_aux_lemma =>
        have i32:(32:Int)≤(m:Int):=by omega
        have EV:=zaa (show RVF none 0 ver rs l=(6,rs,l) by rw[za RV,if_pos rfl,if_pos ⟨za PB,by rw[za HM];exact h32⟩]);clear OE RV;have XD:=zaa (za XZ _ (za BV3));have z0:=zab (za XD) 0 (.int .i64 0) rfl;have z1:=zab (za XD) 1 (.slice none 0 0) rfl;have z2:=zab (za XD) 2 (.slice none 0 0) rfl;have f0:(wr.alloc (.cells #[.int .i64 ver,.slice ra n rc,.slice pa m pc] 45)).frozen? ⟨w.heap.size+1+1,0,none⟩=false:=by simp[World.frozen?,za XD]
        have f1:(wr.alloc (.cells #[.int .i64 ver,.slice ra n rc,.slice pa m pc] 45)).frozen? ⟨w.heap.size+1+1,1,none⟩=false:=by simp[World.frozen?,za XD]
        have f2:(wr.alloc (.cells #[.int .i64 ver,.slice ra n rc,.slice pa m pc] 45)).frozen? ⟨w.heap.size+1+1,2,none⟩=false:=by simp[World.frozen?,za XD]
        obtain⟨a1,a2⟩:=zhn (x:=.int .i64 ver) (y:=.slice ra n rc) (z:=.slice pa m pc) (za XD);have A1:=zaa a1;have A2:=zaa a2;have B9:=zaa ((za BV3).size);clear a1 a2
        go_wp2
        generalize ((((wr.alloc (.cells #[.int .i64 ver,.slice ra n rc,.slice pa m pc] 45)).setCell ⟨w.heap.size+1+1,0,none⟩ (.int .i64 ver)).setCell ⟨w.heap.size+1+1,1,none⟩ (.slice ra n rc)).setCell ⟨w.heap.size+1+1,2,none⟩ (.slice pa m pc))=W9 at *;clear z0 z1 z2 f0 f1 f2;have g0:=zab (za A1) 0 (.int .i64 ver) rfl;have g1:=zab (za A1) 1 (.slice ra n rc) rfl;have g2:=zab (za A1) 2 (.slice pa m pc) rfl;have BW9:=zaa ((za FB _ (za BV3)).grown (za A2) (by have:=(za b4).size;have:=za B9;omega) (fun g e=>by have:=Option.some.inj e;omega));refine bodyPost_ret (v:=.tuple #[.agg #[.int .i64 ver,.slice ra n rc,.slice pa m pc],.int .i64 6]) (by simp[results,Tryz.results70,go_sem,g0,g1,g2]) rfl (za AE _ _ (za EV) (za BW9))
       ·as_aux_lemma =>
        have i32:¬ (32:Int)≤(m:Int):=by omega
        have NEG:=zaa (show ¬ (isP pool l=false∧32≤l.length) from fun e=>h32 (by have:=e.2;rw[za HM] at this;exact this));have x6:=zab (za XX _ (za BV3)) 6 (.string pool) rfl;have x7:=zab (za XX _ (za BV3)) 7 (.slice a ts.length tc) rfl;obtain⟨_,_,z3,z4,z5⟩:=za SC;simp only at z3 z4 z5;obtain⟨i1,j0,j1,j2,j3⟩:=info_parts zq7;have J0:=zaa j0;have J1:=zaa j1;have J2:=zaa j2;have J3:=zaa j3;have TL:=zaa (zcs ts);have HTG:=zaa (za HC).tgs;have TN:=zaa (show a=none→ts.length=0∧tc=0 from fun e=>by have h1:=(za HC).tgs;subst e;exact⟨h1.nil,(za HC).tnil rfl⟩);have TT:=zaa (show ∀ W:World,Below (wr.alloc (.cells #[.int .i64 ver,.slice ra n rc,.slice pa m pc] 45)).heap.size (wr.alloc (.cells #[.int .i64 ver,.slice ra n rc,.slice pa m pc] 45)) W→TgsAt W a ts from fun W hb=>(za HTG).later (za FB _ ((za BV3).trans (hb.mono (by have:=(za BV3).size;have:=za Z4;omega)))));have KX:=zaa (show ∀ W:World,Below (wr.alloc (.cells #[.int .i64 ver,.slice ra n rc,.slice pa m pc] 45)).heap.size (wr.alloc (.cells #[.int .i64 ver,.slice ra n rc,.slice pa m pc] 45)) W→W.cell? ⟨w.heap.size+1,6,none⟩=some (.string pool)∧W.cell? ⟨w.heap.size+1,7,none⟩=some (.slice a ts.length tc) from fun W hb=>⟨cell_later hb x6,cell_later hb x7⟩);have NLP:=zaa (show((dP pool l).map Pq.pr).length=k by rw[List.length_map];exact za NL);have K9:=zaa (show k≤900 by have:=zkp pool l;have:=za NL;have:=za HM;omega);have EBA:=zaa (show ∀ a' ct5,RVF a' ct5 ver rs l=zgs ver rs l rs (wQ ⟨⟨pool,ts⟩,a',ct5⟩ (dP pool l)) from fun a' ct5=>by rw[za RV,if_pos rfl,if_neg (za NEG)])
        clear j0 j1 j2 j3 RV
        go_wp2_with fail
        have G:=zaa (show Below (wr.alloc (.cells #[.int .i64 ver,.slice ra n rc,.slice pa m pc] 45)).heap.size (wr.alloc (.cells #[.int .i64 ver,.slice ra n rc,.slice pa m pc] 45)) (wr.alloc (.cells #[.int .i64 ver,.slice ra n rc,.slice pa m pc] 45)).drew from(Below.refl _ _).drew);clear x6 x7;refine wp_region_held_drew (S:=fun w'=>w'.cell? ⟨w.heap.size+1,6,none⟩=some (.string pool)∧w'.cell? ⟨w.heap.size+1,7,none⟩=some (.slice a ts.length tc)) (by kernel_rfl) ?_ (fun hHeld=>?_)
        ·try dsimp only
         first|exact za KX _ (za G)|exact za KS
        refine hT 0 ?_;refine hT 1 ?_;refine hT 2 ?_;refine hT 4 ?_;refine hT 5 ?_;refine wpAnyH_ready (rs:=[3]) (by kernel_rfl) (by simp) ?_;refine AllReadyH.cons rfl (fun K hK=>?_) ?_
        ·refine zll rfl rfl ?_;intro E5 U5 hE hEn hb;have LE5:=zaa (show(wr.alloc (.cells #[.int .i64 ver,.slice ra n rc,.slice pa m pc] 45)).heap.size≤E5 by rw[← hE];exact(za G).size);have HE5:=zaa hEn;have G:=zaa ((za G).trans (hb.mono (za G).size));clear hE hEn hb;refine hK.out _ _ ?_ (fun hHeld=>?_)
         ·try dsimp only
          first|exact za KX _ (za G)|exact za KS
         clear hK K;refine hP ?_;refine wpAnyH_ready (rs:=[6]) (by kernel_rfl) (by simp) ?_;refine AllReadyH.cons rfl (fun K hK=>?_) ?_
         ·refine zin rfl (.tmp 109) (.tmp 111) 31 70 rfl i1 _ 2 24 Tryz.underlying31 (za J0) (za J1) (za J2) (za J3) rfl (by omega) E5 rfl (za HE5) a ts.length tc rfl (za TN) (zee ts) (za TL) ((za TT) _ (za G)).news (zfk ts) (by omega) (by omega) ?_;intro g5 ct5 U5 ho hg hw5;have G:=zaa ((za G).grown hg (za G).size (fun g e=>by have:=Option.some.inj e;have:=za LE5;omega));have OT:=zaa (show zcm E5 U5 (some ⟨g5,0,none⟩) ct5 ts from ho);obtain⟨k6,hk6⟩:∃ k6,(wP ⟨pool,some ⟨g5,0,none⟩,ts.length,ct5⟩ ((dP pool l).map Pq.pr)).length=k6:=⟨_,rfl⟩
          have HK6:=zaa hk6;clear ho hg hw5 hk6;refine hK.out _ _ ?_ (fun hHeld=>?_)
          ·try dsimp only
           first|exact za KX _ (za G)|exact za KS
          clear hK K;refine hP ?_;refine hT 7 ?_;refine wpAnyH_ready (rs:=[8]) (by kernel_rfl) (by simp) ?_;refine AllReadyH.cons rfl (fun K hK=>?_) ?_
          ·have WC:=zaa (zfw (base:=w.heap.size+3) (zae (za PP3) (za G)) ⟨pool,some ⟨g5,0,none⟩,ts.length,ct5⟩ k (za NLP) (by have:=za K9;omega));rw[za HK6] at WC;go_simp
           go_at_call 127
           refine(za WC).mono ?_;rintro e U6 ⟨a6,c6,rfl,ho6,hb6⟩;have OT:=zaa (zae (za OT) hb6);have G:=zaa ((za G).trans (hb6.mono (za G).size));have O6:=zaa ho6;clear ho6 hb6 WC
           go_wp2_with fail
           refine hK.out _ _ ?_ (fun hHeld=>?_)
           ·try dsimp only
            first|exact za KX _ (za G)|exact za KS
           clear hK K;refine hP ?_;refine hT 9 ?_;refine wpAnyH_ready (rs:=[10]) (by kernel_rfl) (by simp) ?_;refine AllReadyH.cons rfl (fun K hK=>?_) ?_
           ·have XO6:=zaa (zad (za G) (za XO));have u:=zab (za XO6) 2 (.slice pa m pc) rfl;have fo:U6.frozen? ⟨wr.heap.size,2,none⟩=false:=by simp[World.frozen?,za XO6]
            have G4:=zaa (zaf U6 wr.heap.size 2 (.slice a6 k6 c6));have XO4:=zaa (show(U6.setCell ⟨wr.heap.size,2,none⟩ (.slice a6 k6 c6)).heap[wr.heap.size]? = some (.cells #[.int .i64 ver,.slice ra n rc,.slice a6 k6 c6] 45 (0,0)) from heap_setCell_same U6 wr.heap.size 2 _ 45 (.slice a6 k6 c6) (za XO6));have BV6:=zaa ((za BV3).trans ((za G).mono (by have:=(za BV3).size;have:=za Z4;omega)));have BV4:=zaa ((za BV6).grown (za G4) (by have:=(za BV6).size;have:=za Z4;omega) (fun g e=>by have:=Option.some.inj e;have:=za NH;omega));have KS:=zaa (show(U6.setCell ⟨wr.heap.size,2,none⟩ (.slice a6 k6 c6)).cell? ⟨w.heap.size+1,6,none⟩=some (.string pool)∧(U6.setCell ⟨wr.heap.size,2,none⟩ (.slice a6 k6 c6)).cell? ⟨w.heap.size+1,7,none⟩=some (.slice a ts.length tc) from⟨zab (za XX _ (za BV4)) 6 (.string pool) rfl,zab (za XX _ (za BV4)) 7 (.slice a ts.length tc) rfl⟩);have OT:=zaa (zak (za OT) (za G4) (za XO6) (by decide));have O6:=zaa (zak (za O6) (za G4) (za XO6) (by decide));go_simp
            clear u fo;refine hK.out _ _ ?_ (fun hHeld=>?_)
            ·try dsimp only
             first|exact za KX _ (za G)|exact za KS
            clear hK K;refine hP ?_;refine wpAnyH_done (by kernel_rfl) ?_ _;have EB:=zaa (show RVF (some ⟨g5,0,none⟩) ct5 ver rs l=zgs ver rs l rs (wQ ⟨⟨pool,ts⟩,some ⟨g5,0,none⟩,ct5⟩ (dP pool l)) from za EBA _ _);have RN:=zaa (show zdo 0 (U6.setCell ⟨wr.heap.size,2,none⟩ (.slice a6 k6 c6)) ra rc rs from zae (za HR) (za FB _ (za BV4)));have PN:=zaa (show za8 0 (U6.setCell ⟨wr.heap.size,2,none⟩ (.slice a6 k6 c6)) a6 c6 ((wQ ⟨⟨pool,ts⟩,some ⟨g5,0,none⟩,ct5⟩ (dP pool l)).map Pq.pr) by rw[zrz];exact zb4 (za O6) (Nat.zero_le _))
            have DN:=zaa (show ∀ p∈wQ ⟨⟨pool,ts⟩,some ⟨g5,0,none⟩,ct5⟩ (dP pool l),TgD (U6.setCell ⟨wr.heap.size,2,none⟩ (.slice a6 k6 c6)) p from fun p hp=>by
             rcases znk hp with rfl|hp
             ·exact⟨zcm.at_ (za OT) (za HTG).lt,(zcm.is (za OT)).2.2,fun e=>by cases e⟩
             ·exact(za HD p (zj hp)).later (za FB _ (za BV4)))
            have SN:=zaa (show SmallT ⟨ver,rs,(wQ ⟨⟨pool,ts⟩,some ⟨g5,0,none⟩,ct5⟩ (dP pool l)).map Pq.po⟩ from zfj (za HS) (by have:=za HN;omega) (by have:=zr7 ⟨⟨pool,ts⟩,some ⟨g5,0,none⟩,ct5⟩ (dP pool l);have:=zkp pool l;have:=za HM;omega) (fun r hr=>.inl hr) (fun p hp=>(znk hp).elim (fun e=>.inr (by rw[e];exact⟨z3,z4,z5⟩)) (fun e=>.inl (zj e))));have LN:=zaa (za HN);have LM:=zaa (show(wQ ⟨⟨pool,ts⟩,some ⟨g5,0,none⟩,ct5⟩ (dP pool l)).length=k6 by have h:=za HK6;rw[show wP ⟨pool,some ⟨g5,0,none⟩,ts.length,ct5⟩ ((dP pool l).map Pq.pr)=(wQ ⟨⟨pool,ts⟩,some ⟨g5,0,none⟩,ct5⟩ (dP pool l)).map Pq.pr from(zrz ⟨⟨pool,ts⟩,some ⟨g5,0,none⟩,ct5⟩ (dP pool l)).symm,List.length_map] at h;exact h);clear hHeld KS O6 G G4 XO6;have CC:=zaa (zc3 (za RN) (za PN) (za DN) hv (za SN) n k6 (za LN) (za LM));have t0:=zab (za XO4) 0 (.int .i64 ver) rfl;have t1:=zab (za XO4) 1 (.slice ra n rc) rfl;have t2:=zab (za XO4) 2 (.slice a6 k6 c6) rfl
            go_wp2_with fail
            generalize U6.setCell ⟨wr.heap.size,2,none⟩ (.slice a6 k6 c6)=W4 at *;clear d0 d1 d2 x0;refine(za CC).mono ?_;rintro e V5 ⟨s5,n5,c5,rfl,hn5,hb5⟩;have BV5:=zaa ((za BV4).trans (hb5.mono (by have:=(za BV4).size;have:=za Z4;omega)));have XO5:=zaa (zad hb5 (za XO4));have RN5:=zaa (zae (za RN) hb5);have PN5:=zaa (zae (za PN) hb5);have DN5:=zaa (fun p hp=>(za DN p hp).later hb5);clear t0 t1 t2 CC XO4 RN PN DN hb5;by_cases hbig:12000<n5
            ·as_aux_lemma =>
             have i5:(12000:Int)<(n5:Int):=by omega
             have EV:=zaa (show RVF (some ⟨g5,0,none⟩) ct5 ver rs l=(6,rs,l) by rw[za EB];unfold zgs;rw[if_pos (by rw[hn5];exact hbig)]);have d0:=zab (za XC _ (za BV5)) 0 (.int .i64 ver) rfl;have d1:=zab (za XC _ (za BV5)) 1 (.slice ra n rc) rfl;have d2:=zab (za XC _ (za BV5)) 2 (.slice pa m pc) rfl;clear hn5;have XD:=zaa (za XZ _ (za BV5));have z0:=zab (za XD) 0 (.int .i64 0) rfl;have z1:=zab (za XD) 1 (.slice none 0 0) rfl;have z2:=zab (za XD) 2 (.slice none 0 0) rfl;have f0:V5.frozen? ⟨w.heap.size+1+1,0,none⟩=false:=by simp[World.frozen?,za XD]
             have f1:V5.frozen? ⟨w.heap.size+1+1,1,none⟩=false:=by simp[World.frozen?,za XD]
             have f2:V5.frozen? ⟨w.heap.size+1+1,2,none⟩=false:=by simp[World.frozen?,za XD]
             obtain⟨a1,a2⟩:=zhn (x:=.int .i64 ver) (y:=.slice ra n rc) (z:=.slice pa m pc) (za XD);have A1:=zaa a1;have A2:=zaa a2;have B9:=zaa ((za BV5).size);clear a1 a2
             go_wp2
             generalize (((V5.setCell ⟨w.heap.size+1+1,0,none⟩ (.int .i64 ver)).setCell ⟨w.heap.size+1+1,1,none⟩ (.slice ra n rc)).setCell ⟨w.heap.size+1+1,2,none⟩ (.slice pa m pc))=W9 at *;clear z0 z1 z2 f0 f1 f2;have g0:=zab (za A1) 0 (.int .i64 ver) rfl;have g1:=zab (za A1) 1 (.slice ra n rc) rfl;have g2:=zab (za A1) 2 (.slice pa m pc) rfl;have BW9:=zaa ((za FB _ (za BV5)).grown (za A2) (by have:=(za b4).size;have:=za B9;omega) (fun g e=>by have:=Option.some.inj e;omega));refine bodyPost_ret (v:=.tuple #[.agg #[.int .i64 ver,.slice ra n rc,.slice pa m pc],.int .i64 6]) (by simp[results,Tryz.results70,go_sem,g0,g1,g2]) rfl (za OE (some ⟨g5,0,none⟩) ct5 6 rs l _ _ _ _ _ _ _ (za EV) (za HN) (za HM) (zae (za HR) (za BW9)) (zae (za HP) (za BW9)) (fun p hp=>(za HD p hp).later (za BW9)) (za BW9))
            ·as_aux_lemma =>
             have i5:¬ (12000:Int)<(n5:Int):=by omega
             have EV:=zaa (show RVF (some ⟨g5,0,none⟩) ct5 ver rs l=(0,rs,(wQ ⟨⟨pool,ts⟩,some ⟨g5,0,none⟩,ct5⟩ (dP pool l))) by rw[za EB];unfold zgs;rw[if_neg (by rw[hn5];exact hbig)]);have t0:=zab (za XO5) 0 (.int .i64 ver) rfl;have t1:=zab (za XO5) 1 (.slice ra n rc) rfl;have t2:=zab (za XO5) 2 (.slice a6 k6 c6) rfl;clear hn5;have XD:=zaa (za XZ _ (za BV5));have z0:=zab (za XD) 0 (.int .i64 0) rfl;have z1:=zab (za XD) 1 (.slice none 0 0) rfl;have z2:=zab (za XD) 2 (.slice none 0 0) rfl;have f0:V5.frozen? ⟨w.heap.size+1+1,0,none⟩=false:=by simp[World.frozen?,za XD]
             have f1:V5.frozen? ⟨w.heap.size+1+1,1,none⟩=false:=by simp[World.frozen?,za XD]
             have f2:V5.frozen? ⟨w.heap.size+1+1,2,none⟩=false:=by simp[World.frozen?,za XD]
             obtain⟨a1,a2⟩:=zhn (x:=.int .i64 ver) (y:=.slice ra n rc) (z:=.slice a6 k6 c6) (za XD);have A1:=zaa a1;have A2:=zaa a2;have B9:=zaa ((za BV5).size);clear a1 a2
             go_wp2
             generalize (((V5.setCell ⟨w.heap.size+1+1,0,none⟩ (.int .i64 ver)).setCell ⟨w.heap.size+1+1,1,none⟩ (.slice ra n rc)).setCell ⟨w.heap.size+1+1,2,none⟩ (.slice a6 k6 c6))=W9 at *;clear z0 z1 z2 f0 f1 f2;have g0:=zab (za A1) 0 (.int .i64 ver) rfl;have g1:=zab (za A1) 1 (.slice ra n rc) rfl;have g2:=zab (za A1) 2 (.slice a6 k6 c6) rfl;have BW9:=zaa ((za FB _ (za BV5)).grown (za A2) (by have:=(za b4).size;have:=za B9;omega) (fun g e=>by have:=Option.some.inj e;omega));refine bodyPost_ret (v:=.tuple #[.agg #[.int .i64 ver,.slice ra n rc,.slice a6 k6 c6],.int .i64 0]) (by simp[results,Tryz.results70,go_sem,g0,g1,g2]) rfl (za OE (some ⟨g5,0,none⟩) ct5 0 rs (wQ ⟨⟨pool,ts⟩,some ⟨g5,0,none⟩,ct5⟩ (dP pool l)) _ _ _ _ _ _ _ (za EV) (za LN) (za LM) (zak (za RN5) (za A2) (za XD) (by decide)) (zak (za PN5) (za A2) (za XD) (by decide)) (fun p hp=>zb1 (za DN5 p hp) (za A2) (za XD) (zfd _ _ _ _ _ _ _)) (za BW9))
           exact AllReadyH.nil
          exact AllReadyH.nil
         exact AllReadyH.nil
        exact AllReadyH.nil
      |true =>
       as_aux_lemma =>
       have NEG:=zaa (show ¬ (isP pool l=false∧32≤l.length) from fun e=>by have:=e.1;rw[za PB] at this;cases this);have x6:=zab (za XX _ (za BV3)) 6 (.string pool) rfl;have x7:=zab (za XX _ (za BV3)) 7 (.slice a ts.length tc) rfl;obtain⟨_,_,z3,z4,z5⟩:=za SC;simp only at z3 z4 z5;obtain⟨i1,j0,j1,j2,j3⟩:=info_parts zq7;have J0:=zaa j0;have J1:=zaa j1;have J2:=zaa j2;have J3:=zaa j3;have TL:=zaa (zcs ts);have HTG:=zaa (za HC).tgs;have TN:=zaa (show a=none→ts.length=0∧tc=0 from fun e=>by have h1:=(za HC).tgs;subst e;exact⟨h1.nil,(za HC).tnil rfl⟩);have TT:=zaa (show ∀ W:World,Below (wr.alloc (.cells #[.int .i64 ver,.slice ra n rc,.slice pa m pc] 45)).heap.size (wr.alloc (.cells #[.int .i64 ver,.slice ra n rc,.slice pa m pc] 45)) W→TgsAt W a ts from fun W hb=>(za HTG).later (za FB _ ((za BV3).trans (hb.mono (by have:=(za BV3).size;have:=za Z4;omega)))));have KX:=zaa (show ∀ W:World,Below (wr.alloc (.cells #[.int .i64 ver,.slice ra n rc,.slice pa m pc] 45)).heap.size (wr.alloc (.cells #[.int .i64 ver,.slice ra n rc,.slice pa m pc] 45)) W→W.cell? ⟨w.heap.size+1,6,none⟩=some (.string pool)∧W.cell? ⟨w.heap.size+1,7,none⟩=some (.slice a ts.length tc) from fun W hb=>⟨cell_later hb x6,cell_later hb x7⟩);have NLP:=zaa (show((dP pool l).map Pq.pr).length=k by rw[List.length_map];exact za NL);have K9:=zaa (show k≤900 by have:=zkp pool l;have:=za NL;have:=za HM;omega);have EBA:=zaa (show ∀ a' ct5,RVF a' ct5 ver rs l=zgs ver rs l rs (wQ ⟨⟨pool,ts⟩,a',ct5⟩ (dP pool l)) from fun a' ct5=>by rw[za RV,if_pos rfl,if_neg (za NEG)])
       clear j0 j1 j2 j3 RV
       go_wp2_with fail
       have G:=zaa (show Below (wr.alloc (.cells #[.int .i64 ver,.slice ra n rc,.slice pa m pc] 45)).heap.size (wr.alloc (.cells #[.int .i64 ver,.slice ra n rc,.slice pa m pc] 45)) (wr.alloc (.cells #[.int .i64 ver,.slice ra n rc,.slice pa m pc] 45)).drew from(Below.refl _ _).drew);clear x6 x7;refine wp_region_held_drew (S:=fun w'=>w'.cell? ⟨w.heap.size+1,6,none⟩=some (.string pool)∧w'.cell? ⟨w.heap.size+1,7,none⟩=some (.slice a ts.length tc)) (by kernel_rfl) ?_ (fun hHeld=>?_)
       ·try dsimp only
        first|exact za KX _ (za G)|exact za KS
       refine hT 0 ?_;refine hT 1 ?_;refine hT 2 ?_;refine hT 4 ?_;refine hT 5 ?_;refine wpAnyH_ready (rs:=[3]) (by kernel_rfl) (by simp) ?_;refine AllReadyH.cons rfl (fun K hK=>?_) ?_
       ·refine zll rfl rfl ?_;intro E5 U5 hE hEn hb;have LE5:=zaa (show(wr.alloc (.cells #[.int .i64 ver,.slice ra n rc,.slice pa m pc] 45)).heap.size≤E5 by rw[← hE];exact(za G).size);have HE5:=zaa hEn;have G:=zaa ((za G).trans (hb.mono (za G).size));clear hE hEn hb;refine hK.out _ _ ?_ (fun hHeld=>?_)
        ·try dsimp only
         first|exact za KX _ (za G)|exact za KS
        clear hK K;refine hP ?_;refine wpAnyH_ready (rs:=[6]) (by kernel_rfl) (by simp) ?_;refine AllReadyH.cons rfl (fun K hK=>?_) ?_
        ·refine zin rfl (.tmp 109) (.tmp 111) 31 70 rfl i1 _ 2 24 Tryz.underlying31 (za J0) (za J1) (za J2) (za J3) rfl (by omega) E5 rfl (za HE5) a ts.length tc rfl (za TN) (zee ts) (za TL) ((za TT) _ (za G)).news (zfk ts) (by omega) (by omega) ?_;intro g5 ct5 U5 ho hg hw5;have G:=zaa ((za G).grown hg (za G).size (fun g e=>by have:=Option.some.inj e;have:=za LE5;omega));have OT:=zaa (show zcm E5 U5 (some ⟨g5,0,none⟩) ct5 ts from ho);obtain⟨k6,hk6⟩:∃ k6,(wP ⟨pool,some ⟨g5,0,none⟩,ts.length,ct5⟩ ((dP pool l).map Pq.pr)).length=k6:=⟨_,rfl⟩
         have HK6:=zaa hk6;clear ho hg hw5 hk6;refine hK.out _ _ ?_ (fun hHeld=>?_)
         ·try dsimp only
          first|exact za KX _ (za G)|exact za KS
         clear hK K;refine hP ?_;refine hT 7 ?_;refine wpAnyH_ready (rs:=[8]) (by kernel_rfl) (by simp) ?_;refine AllReadyH.cons rfl (fun K hK=>?_) ?_
         ·have WC:=zaa (zfw (base:=w.heap.size+3) (zae (za PP3) (za G)) ⟨pool,some ⟨g5,0,none⟩,ts.length,ct5⟩ k (za NLP) (by have:=za K9;omega));rw[za HK6] at WC;go_simp
          go_at_call 127
          refine(za WC).mono ?_;rintro e U6 ⟨a6,c6,rfl,ho6,hb6⟩;have OT:=zaa (zae (za OT) hb6);have G:=zaa ((za G).trans (hb6.mono (za G).size));have O6:=zaa ho6;clear ho6 hb6 WC
          go_wp2_with fail
          refine hK.out _ _ ?_ (fun hHeld=>?_)
          ·try dsimp only
           first|exact za KX _ (za G)|exact za KS
          clear hK K;refine hP ?_;refine hT 9 ?_;refine wpAnyH_ready (rs:=[10]) (by kernel_rfl) (by simp) ?_;refine AllReadyH.cons rfl (fun K hK=>?_) ?_
          ·have XO6:=zaa (zad (za G) (za XO));have u:=zab (za XO6) 2 (.slice pa m pc) rfl;have fo:U6.frozen? ⟨wr.heap.size,2,none⟩=false:=by simp[World.frozen?,za XO6]
           have G4:=zaa (zaf U6 wr.heap.size 2 (.slice a6 k6 c6));have XO4:=zaa (show(U6.setCell ⟨wr.heap.size,2,none⟩ (.slice a6 k6 c6)).heap[wr.heap.size]? = some (.cells #[.int .i64 ver,.slice ra n rc,.slice a6 k6 c6] 45 (0,0)) from heap_setCell_same U6 wr.heap.size 2 _ 45 (.slice a6 k6 c6) (za XO6));have BV6:=zaa ((za BV3).trans ((za G).mono (by have:=(za BV3).size;have:=za Z4;omega)));have BV4:=zaa ((za BV6).grown (za G4) (by have:=(za BV6).size;have:=za Z4;omega) (fun g e=>by have:=Option.some.inj e;have:=za NH;omega));have KS:=zaa (show(U6.setCell ⟨wr.heap.size,2,none⟩ (.slice a6 k6 c6)).cell? ⟨w.heap.size+1,6,none⟩=some (.string pool)∧(U6.setCell ⟨wr.heap.size,2,none⟩ (.slice a6 k6 c6)).cell? ⟨w.heap.size+1,7,none⟩=some (.slice a ts.length tc) from⟨zab (za XX _ (za BV4)) 6 (.string pool) rfl,zab (za XX _ (za BV4)) 7 (.slice a ts.length tc) rfl⟩);have OT:=zaa (zak (za OT) (za G4) (za XO6) (by decide));have O6:=zaa (zak (za O6) (za G4) (za XO6) (by decide));go_simp
           clear u fo;refine hK.out _ _ ?_ (fun hHeld=>?_)
           ·try dsimp only
            first|exact za KX _ (za G)|exact za KS
           clear hK K;refine hP ?_;refine wpAnyH_done (by kernel_rfl) ?_ _;have EB:=zaa (show RVF (some ⟨g5,0,none⟩) ct5 ver rs l=zgs ver rs l rs (wQ ⟨⟨pool,ts⟩,some ⟨g5,0,none⟩,ct5⟩ (dP pool l)) from za EBA _ _);have RN:=zaa (show zdo 0 (U6.setCell ⟨wr.heap.size,2,none⟩ (.slice a6 k6 c6)) ra rc rs from zae (za HR) (za FB _ (za BV4)));have PN:=zaa (show za8 0 (U6.setCell ⟨wr.heap.size,2,none⟩ (.slice a6 k6 c6)) a6 c6 ((wQ ⟨⟨pool,ts⟩,some ⟨g5,0,none⟩,ct5⟩ (dP pool l)).map Pq.pr) by rw[zrz];exact zb4 (za O6) (Nat.zero_le _))
           have DN:=zaa (show ∀ p∈wQ ⟨⟨pool,ts⟩,some ⟨g5,0,none⟩,ct5⟩ (dP pool l),TgD (U6.setCell ⟨wr.heap.size,2,none⟩ (.slice a6 k6 c6)) p from fun p hp=>by
            rcases znk hp with rfl|hp
            ·exact⟨zcm.at_ (za OT) (za HTG).lt,(zcm.is (za OT)).2.2,fun e=>by cases e⟩
            ·exact(za HD p (zj hp)).later (za FB _ (za BV4)))
           have SN:=zaa (show SmallT ⟨ver,rs,(wQ ⟨⟨pool,ts⟩,some ⟨g5,0,none⟩,ct5⟩ (dP pool l)).map Pq.po⟩ from zfj (za HS) (by have:=za HN;omega) (by have:=zr7 ⟨⟨pool,ts⟩,some ⟨g5,0,none⟩,ct5⟩ (dP pool l);have:=zkp pool l;have:=za HM;omega) (fun r hr=>.inl hr) (fun p hp=>(znk hp).elim (fun e=>.inr (by rw[e];exact⟨z3,z4,z5⟩)) (fun e=>.inl (zj e))));have LN:=zaa (za HN);have LM:=zaa (show(wQ ⟨⟨pool,ts⟩,some ⟨g5,0,none⟩,ct5⟩ (dP pool l)).length=k6 by have h:=za HK6;rw[show wP ⟨pool,some ⟨g5,0,none⟩,ts.length,ct5⟩ ((dP pool l).map Pq.pr)=(wQ ⟨⟨pool,ts⟩,some ⟨g5,0,none⟩,ct5⟩ (dP pool l)).map Pq.pr from(zrz ⟨⟨pool,ts⟩,some ⟨g5,0,none⟩,ct5⟩ (dP pool l)).symm,List.length_map] at h;exact h);clear hHeld KS O6 G G4 XO6;have CC:=zaa (zc3 (za RN) (za PN) (za DN) hv (za SN) n k6 (za LN) (za LM));have t0:=zab (za XO4) 0 (.int .i64 ver) rfl;have t1:=zab (za XO4) 1 (.slice ra n rc) rfl;have t2:=zab (za XO4) 2 (.slice a6 k6 c6) rfl
           go_wp2_with fail
           generalize U6.setCell ⟨wr.heap.size,2,none⟩ (.slice a6 k6 c6)=W4 at *;clear d0 d1 d2 x0;refine(za CC).mono ?_;rintro e V5 ⟨s5,n5,c5,rfl,hn5,hb5⟩;have BV5:=zaa ((za BV4).trans (hb5.mono (by have:=(za BV4).size;have:=za Z4;omega)));have XO5:=zaa (zad hb5 (za XO4));have RN5:=zaa (zae (za RN) hb5);have PN5:=zaa (zae (za PN) hb5);have DN5:=zaa (fun p hp=>(za DN p hp).later hb5);clear t0 t1 t2 CC XO4 RN PN DN hb5;by_cases hbig:12000<n5
           ·as_aux_lemma =>
            have i5:(12000:Int)<(n5:Int):=by omega
            have EV:=zaa (show RVF (some ⟨g5,0,none⟩) ct5 ver rs l=(6,rs,l) by rw[za EB];unfold zgs;rw[if_pos (by rw[hn5];exact hbig)]);have d0:=zab (za XC _ (za BV5)) 0 (.int .i64 ver) rfl;have d1:=zab (za XC _ (za BV5)) 1 (.slice ra n rc) rfl;have d2:=zab (za XC _ (za BV5)) 2 (.slice pa m pc) rfl;clear hn5;have XD:=zaa (za XZ _ (za BV5));have z0:=zab (za XD) 0 (.int .i64 0) rfl;have z1:=zab (za XD) 1 (.slice none 0 0) rfl;have z2:=zab (za XD) 2 (.slice none 0 0) rfl;have f0:V5.frozen? ⟨w.heap.size+1+1,0,none⟩=false:=by simp[World.frozen?,za XD]
            have f1:V5.frozen? ⟨w.heap.size+1+1,1,none⟩=false:=by simp[World.frozen?,za XD]
            have f2:V5.frozen? ⟨w.heap.size+1+1,2,none⟩=false:=by simp[World.frozen?,za XD]
            obtain⟨a1,a2⟩:=zhn (x:=.int .i64 ver) (y:=.slice ra n rc) (z:=.slice pa m pc) (za XD);have A1:=zaa a1;have A2:=zaa a2;have B9:=zaa ((za BV5).size);clear a1 a2
            go_wp2
            generalize (((V5.setCell ⟨w.heap.size+1+1,0,none⟩ (.int .i64 ver)).setCell ⟨w.heap.size+1+1,1,none⟩ (.slice ra n rc)).setCell ⟨w.heap.size+1+1,2,none⟩ (.slice pa m pc))=W9 at *;clear z0 z1 z2 f0 f1 f2;have g0:=zab (za A1) 0 (.int .i64 ver) rfl;have g1:=zab (za A1) 1 (.slice ra n rc) rfl;have g2:=zab (za A1) 2 (.slice pa m pc) rfl;have BW9:=zaa ((za FB _ (za BV5)).grown (za A2) (by have:=(za b4).size;have:=za B9;omega) (fun g e=>by have:=Option.some.inj e;omega));refine bodyPost_ret (v:=.tuple #[.agg #[.int .i64 ver,.slice ra n rc,.slice pa m pc],.int .i64 6]) (by simp[results,Tryz.results70,go_sem,g0,g1,g2]) rfl (za OE (some ⟨g5,0,none⟩) ct5 6 rs l _ _ _ _ _ _ _ (za EV) (za HN) (za HM) (zae (za HR) (za BW9)) (zae (za HP) (za BW9)) (fun p hp=>(za HD p hp).later (za BW9)) (za BW9))
           ·as_aux_lemma =>
            have i5:¬ (12000:Int)<(n5:Int):=by omega
            have EV:=zaa (show RVF (some ⟨g5,0,none⟩) ct5 ver rs l=(0,rs,(wQ ⟨⟨pool,ts⟩,some ⟨g5,0,none⟩,ct5⟩ (dP pool l))) by rw[za EB];unfold zgs;rw[if_neg (by rw[hn5];exact hbig)]);have t0:=zab (za XO5) 0 (.int .i64 ver) rfl;have t1:=zab (za XO5) 1 (.slice ra n rc) rfl;have t2:=zab (za XO5) 2 (.slice a6 k6 c6) rfl;clear hn5;have XD:=zaa (za XZ _ (za BV5));have z0:=zab (za XD) 0 (.int .i64 0) rfl;have z1:=zab (za XD) 1 (.slice none 0 0) rfl;have z2:=zab (za XD) 2 (.slice none 0 0) rfl;have f0:V5.frozen? ⟨w.heap.size+1+1,0,none⟩=false:=by simp[World.frozen?,za XD]
            have f1:V5.frozen? ⟨w.heap.size+1+1,1,none⟩=false:=by simp[World.frozen?,za XD]
            have f2:V5.frozen? ⟨w.heap.size+1+1,2,none⟩=false:=by simp[World.frozen?,za XD]
            obtain⟨a1,a2⟩:=zhn (x:=.int .i64 ver) (y:=.slice ra n rc) (z:=.slice a6 k6 c6) (za XD);have A1:=zaa a1;have A2:=zaa a2;have B9:=zaa ((za BV5).size);clear a1 a2
            go_wp2
            generalize (((V5.setCell ⟨w.heap.size+1+1,0,none⟩ (.int .i64 ver)).setCell ⟨w.heap.size+1+1,1,none⟩ (.slice ra n rc)).setCell ⟨w.heap.size+1+1,2,none⟩ (.slice a6 k6 c6))=W9 at *;clear z0 z1 z2 f0 f1 f2;have g0:=zab (za A1) 0 (.int .i64 ver) rfl;have g1:=zab (za A1) 1 (.slice ra n rc) rfl;have g2:=zab (za A1) 2 (.slice a6 k6 c6) rfl;have BW9:=zaa ((za FB _ (za BV5)).grown (za A2) (by have:=(za b4).size;have:=za B9;omega) (fun g e=>by have:=Option.some.inj e;omega));refine bodyPost_ret (v:=.tuple #[.agg #[.int .i64 ver,.slice ra n rc,.slice a6 k6 c6],.int .i64 0]) (by simp[results,Tryz.results70,go_sem,g0,g1,g2]) rfl (za OE (some ⟨g5,0,none⟩) ct5 0 rs (wQ ⟨⟨pool,ts⟩,some ⟨g5,0,none⟩,ct5⟩ (dP pool l)) _ _ _ _ _ _ _ (za EV) (za LN) (za LM) (zak (za RN5) (za A2) (za XD) (by decide)) (zak (za PN5) (za A2) (za XD) (by decide)) (fun p hp=>zb1 (za DN5 p hp) (za A2) (za XD) (zfd _ _ _ _ _ _ _)) (za BW9))
          exact AllReadyH.nil
         exact AllReadyH.nil
        exact AllReadyH.nil
       exact AllReadyH.nil
     ·as_aux_lemma =>
      subst h;have b3:=zaa (show Below wr.heap.size wr (wr.alloc (.cells #[.int .i64 ver,.slice ra n rc,.slice pa m pc] 45)) from(Below.refl _ _).alloc (Nat.le_refl _) _);have XO:=zaa (zac wr (.cells #[.int .i64 ver,.slice ra n rc,.slice pa m pc] 45));have S3:=zaa (show(wr.alloc (.cells #[.int .i64 ver,.slice ra n rc,.slice pa m pc] 45)).heap.size=wr.heap.size+1 by rw[zbz]);have B3:=zaa ((za BB).trans ((za b3).mono (za HB2)));have BV3:=zaa (za FE _ (za B3));have PP3:=zaa (za PW _ (za B3));have ORW:=zaa (zae (za OW) (za b3));have ORW0:=zaa (za OW);have NH:=zaa (show w.heap.size+3≤wr.heap.size by have:=za HB;have:=za HB2;omega);have x0:=zab (za XX _ (za BV3)) 0 (.int .i64 2) rfl;have d0:=zab (za XC _ (za BV3)) 0 (.int .i64 ver) rfl;have d1:=zab (za XC _ (za BV3)) 1 (.slice ra n rc) rfl;have d2:=zab (za XC _ (za BV3)) 2 (.slice pa m pc) rfl;clear B3 OW PP;cases bb with
      |false =>
       as_aux_lemma =>
       have EV:=zaa (show RVF none 0 ver rs l=(8,rs,l) by rw[za RV,if_neg (by decide),if_pos rfl,if_pos (za PB)]);clear OE RV;have XD:=zaa (za XZ _ (za BV3));have z0:=zab (za XD) 0 (.int .i64 0) rfl;have z1:=zab (za XD) 1 (.slice none 0 0) rfl;have z2:=zab (za XD) 2 (.slice none 0 0) rfl;have f0:(wr.alloc (.cells #[.int .i64 ver,.slice ra n rc,.slice pa m pc] 45)).frozen? ⟨w.heap.size+1+1,0,none⟩=false:=by simp[World.frozen?,za XD]
       have f1:(wr.alloc (.cells #[.int .i64 ver,.slice ra n rc,.slice pa m pc] 45)).frozen? ⟨w.heap.size+1+1,1,none⟩=false:=by simp[World.frozen?,za XD]
       have f2:(wr.alloc (.cells #[.int .i64 ver,.slice ra n rc,.slice pa m pc] 45)).frozen? ⟨w.heap.size+1+1,2,none⟩=false:=by simp[World.frozen?,za XD]
       obtain⟨a1,a2⟩:=zhn (x:=.int .i64 ver) (y:=.slice ra n rc) (z:=.slice pa m pc) (za XD);have A1:=zaa a1;have A2:=zaa a2;have B9:=zaa ((za BV3).size);clear a1 a2
       go_wp2
       generalize ((((wr.alloc (.cells #[.int .i64 ver,.slice ra n rc,.slice pa m pc] 45)).setCell ⟨w.heap.size+1+1,0,none⟩ (.int .i64 ver)).setCell ⟨w.heap.size+1+1,1,none⟩ (.slice ra n rc)).setCell ⟨w.heap.size+1+1,2,none⟩ (.slice pa m pc))=W9 at *;clear z0 z1 z2 f0 f1 f2;have g0:=zab (za A1) 0 (.int .i64 ver) rfl;have g1:=zab (za A1) 1 (.slice ra n rc) rfl;have g2:=zab (za A1) 2 (.slice pa m pc) rfl;have BW9:=zaa ((za FB _ (za BV3)).grown (za A2) (by have:=(za b4).size;have:=za B9;omega) (fun g e=>by have:=Option.some.inj e;omega));refine bodyPost_ret (v:=.tuple #[.agg #[.int .i64 ver,.slice ra n rc,.slice pa m pc],.int .i64 8]) (by simp[results,Tryz.results70,go_sem,g0,g1,g2]) rfl (za AE _ _ (za EV) (za BW9))
      |true =>
       cases bu with
       |true =>
        as_aux_lemma =>
        have EV:=zaa (show RVF none 0 ver rs l=(13,rs,l) by rw[za RV,if_neg (by decide),if_pos rfl,if_neg (by rw[za PB];decide),if_pos (za UB)]);clear OE RV;have XD:=zaa (za XZ _ (za BV3));have z0:=zab (za XD) 0 (.int .i64 0) rfl;have z1:=zab (za XD) 1 (.slice none 0 0) rfl;have z2:=zab (za XD) 2 (.slice none 0 0) rfl;have f0:(wr.alloc (.cells #[.int .i64 ver,.slice ra n rc,.slice pa m pc] 45)).frozen? ⟨w.heap.size+1+1,0,none⟩=false:=by simp[World.frozen?,za XD]
        have f1:(wr.alloc (.cells #[.int .i64 ver,.slice ra n rc,.slice pa m pc] 45)).frozen? ⟨w.heap.size+1+1,1,none⟩=false:=by simp[World.frozen?,za XD]
        have f2:(wr.alloc (.cells #[.int .i64 ver,.slice ra n rc,.slice pa m pc] 45)).frozen? ⟨w.heap.size+1+1,2,none⟩=false:=by simp[World.frozen?,za XD]
        obtain⟨a1,a2⟩:=zhn (x:=.int .i64 ver) (y:=.slice ra n rc) (z:=.slice pa m pc) (za XD);have A1:=zaa a1;have A2:=zaa a2;have B9:=zaa ((za BV3).size);clear a1 a2
        go_wp2
        generalize ((((wr.alloc (.cells #[.int .i64 ver,.slice ra n rc,.slice pa m pc] 45)).setCell ⟨w.heap.size+1+1,0,none⟩ (.int .i64 ver)).setCell ⟨w.heap.size+1+1,1,none⟩ (.slice ra n rc)).setCell ⟨w.heap.size+1+1,2,none⟩ (.slice pa m pc))=W9 at *;clear z0 z1 z2 f0 f1 f2;have g0:=zab (za A1) 0 (.int .i64 ver) rfl;have g1:=zab (za A1) 1 (.slice ra n rc) rfl;have g2:=zab (za A1) 2 (.slice pa m pc) rfl;have BW9:=zaa ((za FB _ (za BV3)).grown (za A2) (by have:=(za b4).size;have:=za B9;omega) (fun g e=>by have:=Option.some.inj e;omega));refine bodyPost_ret (v:=.tuple #[.agg #[.int .i64 ver,.slice ra n rc,.slice pa m pc],.int .i64 13]) (by simp[results,Tryz.results70,go_sem,g0,g1,g2]) rfl (za AE _ _ (za EV) (za BW9))
       |false =>
        as_aux_lemma =>
        have EB:=zaa (show RVF none 0 ver rs l=zgs ver rs l rs (dP pool l) by rw[za RV,if_neg (by decide),if_pos rfl,if_neg (by rw[za PB];decide),if_neg (by rw[za UB];decide)]);have b4w:=zaa (show Below wr.heap.size wr (wr.alloc (.cells #[.int .i64 ver,.slice ra n rc,.slice sp k c'] 45)) from(Below.refl _ _).alloc (Nat.le_refl _) _);have XO4:=zaa (zac wr (.cells #[.int .i64 ver,.slice ra n rc,.slice sp k c'] 45));have B4:=zaa ((za BB).trans ((za b4w).mono (za HB2)));have BV4:=zaa (za FE _ (za B4));have RN:=zaa (show zdo 0 (wr.alloc (.cells #[.int .i64 ver,.slice ra n rc,.slice sp k c'] 45)) ra rc rs from zae (za HR) (za FB _ (za BV4)));have PN:=zaa (show za8 0 (wr.alloc (.cells #[.int .i64 ver,.slice ra n rc,.slice sp k c'] 45)) sp c' ((dP pool l).map Pq.pr) from zb4 (za PW _ (za B4)) (Nat.zero_le _));have DN:=zaa (show ∀ p∈dP pool l,TgD (wr.alloc (.cells #[.int .i64 ver,.slice ra n rc,.slice sp k c'] 45)) p from fun p hp=>(za HD p (zj hp)).later (za FB _ (za BV4)));have SN:=zaa (show SmallT ⟨ver,rs,(dP pool l).map Pq.po⟩ from zfj (za HS) (by have:=za HN;omega) (by have:=zkp pool l;have:=za HM;omega) (fun r hr=>.inl hr) (fun p hp=>.inl (zj hp)));have LN:=zaa (za HN);have LM:=zaa (za NL);have CC:=zaa (zc3 (za RN) (za PN) (za DN) hv (za SN) n k (za LN) (za LM));have t0:=zab (za XO4) 0 (.int .i64 ver) rfl;have t1:=zab (za XO4) 1 (.slice ra n rc) rfl
        have t2:=zab (za XO4) 2 (.slice sp k c') rfl
        go_wp2_with fail
        generalize (wr.alloc (.cells #[.int .i64 ver,.slice ra n rc,.slice sp k c'] 45))=W4 at *;clear d0 d1 d2 x0;refine(za CC).mono ?_;rintro e V5 ⟨s5,n5,c5,rfl,hn5,hb5⟩;have BV5:=zaa ((za BV4).trans (hb5.mono (by have:=(za BV4).size;have:=za Z4;omega)));have XO5:=zaa (zad hb5 (za XO4));have RN5:=zaa (zae (za RN) hb5);have PN5:=zaa (zae (za PN) hb5);have DN5:=zaa (fun p hp=>(za DN p hp).later hb5);clear t0 t1 t2 CC XO4 RN PN DN hb5;by_cases hbig:12000<n5
        ·as_aux_lemma =>
         have i5:(12000:Int)<(n5:Int):=by omega
         have EV:=zaa (show RVF none 0 ver rs l=(6,rs,l) by rw[za EB];unfold zgs;rw[if_pos (by rw[hn5];exact hbig)]);have d0:=zab (za XC _ (za BV5)) 0 (.int .i64 ver) rfl;have d1:=zab (za XC _ (za BV5)) 1 (.slice ra n rc) rfl;have d2:=zab (za XC _ (za BV5)) 2 (.slice pa m pc) rfl;clear hn5;have XD:=zaa (za XZ _ (za BV5));have z0:=zab (za XD) 0 (.int .i64 0) rfl;have z1:=zab (za XD) 1 (.slice none 0 0) rfl;have z2:=zab (za XD) 2 (.slice none 0 0) rfl;have f0:V5.frozen? ⟨w.heap.size+1+1,0,none⟩=false:=by simp[World.frozen?,za XD]
         have f1:V5.frozen? ⟨w.heap.size+1+1,1,none⟩=false:=by simp[World.frozen?,za XD]
         have f2:V5.frozen? ⟨w.heap.size+1+1,2,none⟩=false:=by simp[World.frozen?,za XD]
         obtain⟨a1,a2⟩:=zhn (x:=.int .i64 ver) (y:=.slice ra n rc) (z:=.slice pa m pc) (za XD);have A1:=zaa a1;have A2:=zaa a2;have B9:=zaa ((za BV5).size);clear a1 a2
         go_wp2
         generalize (((V5.setCell ⟨w.heap.size+1+1,0,none⟩ (.int .i64 ver)).setCell ⟨w.heap.size+1+1,1,none⟩ (.slice ra n rc)).setCell ⟨w.heap.size+1+1,2,none⟩ (.slice pa m pc))=W9 at *;clear z0 z1 z2 f0 f1 f2;have g0:=zab (za A1) 0 (.int .i64 ver) rfl;have g1:=zab (za A1) 1 (.slice ra n rc) rfl;have g2:=zab (za A1) 2 (.slice pa m pc) rfl;have BW9:=zaa ((za FB _ (za BV5)).grown (za A2) (by have:=(za b4).size;have:=za B9;omega) (fun g e=>by have:=Option.some.inj e;omega));refine bodyPost_ret (v:=.tuple #[.agg #[.int .i64 ver,.slice ra n rc,.slice pa m pc],.int .i64 6]) (by simp[results,Tryz.results70,go_sem,g0,g1,g2]) rfl (za OE none 0 6 rs l _ _ _ _ _ _ _ (za EV) (za HN) (za HM) (zae (za HR) (za BW9)) (zae (za HP) (za BW9)) (fun p hp=>(za HD p hp).later (za BW9)) (za BW9))
        ·as_aux_lemma =>
         have i5:¬ (12000:Int)<(n5:Int):=by omega
         have EV:=zaa (show RVF none 0 ver rs l=(0,rs,(dP pool l)) by rw[za EB];unfold zgs;rw[if_neg (by rw[hn5];exact hbig)]);have t0:=zab (za XO5) 0 (.int .i64 ver) rfl;have t1:=zab (za XO5) 1 (.slice ra n rc) rfl;have t2:=zab (za XO5) 2 (.slice sp k c') rfl;clear hn5;have XD:=zaa (za XZ _ (za BV5));have z0:=zab (za XD) 0 (.int .i64 0) rfl;have z1:=zab (za XD) 1 (.slice none 0 0) rfl;have z2:=zab (za XD) 2 (.slice none 0 0) rfl;have f0:V5.frozen? ⟨w.heap.size+1+1,0,none⟩=false:=by simp[World.frozen?,za XD]
         have f1:V5.frozen? ⟨w.heap.size+1+1,1,none⟩=false:=by simp[World.frozen?,za XD]
         have f2:V5.frozen? ⟨w.heap.size+1+1,2,none⟩=false:=by simp[World.frozen?,za XD]
         obtain⟨a1,a2⟩:=zhn (x:=.int .i64 ver) (y:=.slice ra n rc) (z:=.slice sp k c') (za XD);have A1:=zaa a1;have A2:=zaa a2;have B9:=zaa ((za BV5).size);clear a1 a2
         go_wp2
         generalize (((V5.setCell ⟨w.heap.size+1+1,0,none⟩ (.int .i64 ver)).setCell ⟨w.heap.size+1+1,1,none⟩ (.slice ra n rc)).setCell ⟨w.heap.size+1+1,2,none⟩ (.slice sp k c'))=W9 at *;clear z0 z1 z2 f0 f1 f2;have g0:=zab (za A1) 0 (.int .i64 ver) rfl;have g1:=zab (za A1) 1 (.slice ra n rc) rfl;have g2:=zab (za A1) 2 (.slice sp k c') rfl;have BW9:=zaa ((za FB _ (za BV5)).grown (za A2) (by have:=(za b4).size;have:=za B9;omega) (fun g e=>by have:=Option.some.inj e;omega));refine bodyPost_ret (v:=.tuple #[.agg #[.int .i64 ver,.slice ra n rc,.slice sp k c'],.int .i64 0]) (by simp[results,Tryz.results70,go_sem,g0,g1,g2]) rfl (za OE none 0 0 rs (dP pool l) _ _ _ _ _ _ _ (za EV) (za LN) (za LM) (zak (za RN5) (za A2) (za XD) (by decide)) (zak (za PN5) (za A2) (za XD) (by decide)) (fun p hp=>zb1 (za DN5 p hp) (za A2) (za XD) (zfd _ _ _ _ _ _ _)) (za BW9))
     ·as_aux_lemma =>
      subst h;have b3:=zaa (show Below wr.heap.size wr (wr.alloc (.cells #[.int .i64 ver,.slice ra n rc,.slice pa m pc] 45)) from(Below.refl _ _).alloc (Nat.le_refl _) _);have XO:=zaa (zac wr (.cells #[.int .i64 ver,.slice ra n rc,.slice pa m pc] 45));have S3:=zaa (show(wr.alloc (.cells #[.int .i64 ver,.slice ra n rc,.slice pa m pc] 45)).heap.size=wr.heap.size+1 by rw[zbz]);have B3:=zaa ((za BB).trans ((za b3).mono (za HB2)));have BV3:=zaa (za FE _ (za B3));have PP3:=zaa (za PW _ (za B3));have ORW:=zaa (zae (za OW) (za b3));have ORW0:=zaa (za OW);have NH:=zaa (show w.heap.size+3≤wr.heap.size by have:=za HB;have:=za HB2;omega);have x0:=zab (za XX _ (za BV3)) 0 (.int .i64 3) rfl;have d0:=zab (za XC _ (za BV3)) 0 (.int .i64 ver) rfl;have d1:=zab (za XC _ (za BV3)) 1 (.slice ra n rc) rfl;have d2:=zab (za XC _ (za BV3)) 2 (.slice pa m pc) rfl;clear B3 OW PP;cases bb with
      |false =>
       as_aux_lemma =>
       have EV:=zaa (show RVF none 0 ver rs l=(8,rs,l) by rw[za RV,if_neg (by decide),if_neg (by decide),if_pos rfl,if_pos (za PB)]);clear OE RV;have XD:=zaa (za XZ _ (za BV3));have z0:=zab (za XD) 0 (.int .i64 0) rfl;have z1:=zab (za XD) 1 (.slice none 0 0) rfl;have z2:=zab (za XD) 2 (.slice none 0 0) rfl;have f0:(wr.alloc (.cells #[.int .i64 ver,.slice ra n rc,.slice pa m pc] 45)).frozen? ⟨w.heap.size+1+1,0,none⟩=false:=by simp[World.frozen?,za XD]
       have f1:(wr.alloc (.cells #[.int .i64 ver,.slice ra n rc,.slice pa m pc] 45)).frozen? ⟨w.heap.size+1+1,1,none⟩=false:=by simp[World.frozen?,za XD]
       have f2:(wr.alloc (.cells #[.int .i64 ver,.slice ra n rc,.slice pa m pc] 45)).frozen? ⟨w.heap.size+1+1,2,none⟩=false:=by simp[World.frozen?,za XD]
       obtain⟨a1,a2⟩:=zhn (x:=.int .i64 ver) (y:=.slice ra n rc) (z:=.slice pa m pc) (za XD);have A1:=zaa a1;have A2:=zaa a2;have B9:=zaa ((za BV3).size);clear a1 a2
       go_wp2
       generalize ((((wr.alloc (.cells #[.int .i64 ver,.slice ra n rc,.slice pa m pc] 45)).setCell ⟨w.heap.size+1+1,0,none⟩ (.int .i64 ver)).setCell ⟨w.heap.size+1+1,1,none⟩ (.slice ra n rc)).setCell ⟨w.heap.size+1+1,2,none⟩ (.slice pa m pc))=W9 at *;clear z0 z1 z2 f0 f1 f2;have g0:=zab (za A1) 0 (.int .i64 ver) rfl;have g1:=zab (za A1) 1 (.slice ra n rc) rfl;have g2:=zab (za A1) 2 (.slice pa m pc) rfl;have BW9:=zaa ((za FB _ (za BV3)).grown (za A2) (by have:=(za b4).size;have:=za B9;omega) (fun g e=>by have:=Option.some.inj e;omega));refine bodyPost_ret (v:=.tuple #[.agg #[.int .i64 ver,.slice ra n rc,.slice pa m pc],.int .i64 8]) (by simp[results,Tryz.results70,go_sem,g0,g1,g2]) rfl (za AE _ _ (za EV) (za BW9))
      |true =>
       cases bk with
       |true =>
        as_aux_lemma =>
        have EB:=zaa (show RVF none 0 ver rs l=zgs ver rs l (wR ⟨host,pre,pool⟩ (dR host pre rs)) l by rw[za RV,if_neg (by decide),if_neg (by decide),if_pos rfl,if_neg (by rw[za PB];decide),if_neg (fun e=>by have:=e.1;rw[za KB] at this;cases this)]);have x4:=zab (za XX _ (za BV3)) 4 (.string host) rfl;have x5:=zab (za XX _ (za BV3)) 5 (.string pre) rfl;have x6:=zab (za XX _ (za BV3)) 6 (.string pool) rfl;obtain⟨z1,z2,z3,_,_⟩:=za SC;have WC:=zaa (zfa (za ORW) ⟨host,pre,pool⟩ k2 (za NL2) (by have:=zkq host pre rs;have:=za NL2;have:=za HN;omega));obtain⟨k6,hk6⟩:∃ k6,(wR ⟨host,pre,pool⟩ (dR host pre rs)).length=k6:=⟨_,rfl⟩
        rw[hk6] at WC
        go_wp2_with fail
        refine(za WC).mono ?_;rintro e V6 ⟨a6,c6,rfl,ho6,hb6⟩;have BV6:=zaa ((za BV3).trans (hb6.mono (by have:=(za BV3).size;have:=za Z4;omega)));have XO6:=zaa (zad hb6 (za XO));have u:=zab (za XO6) 1 (.slice ra n rc) rfl;have fo:V6.frozen? ⟨wr.heap.size,1,none⟩=false:=by simp[World.frozen?,za XO6]
        have G4:=zaa (zaf V6 wr.heap.size 1 (.slice a6 k6 c6));have XO4:=zaa (show(V6.setCell ⟨wr.heap.size,1,none⟩ (.slice a6 k6 c6)).heap[wr.heap.size]? = some (.cells #[.int .i64 ver,.slice a6 k6 c6,.slice pa m pc] 45 (0,0)) from heap_setCell_same V6 wr.heap.size 1 _ 45 (.slice a6 k6 c6) (za XO6));have BV4:=zaa ((za BV6).grown (za G4) (by have:=(za BV6).size;have:=za Z4;omega) (fun g e=>by have:=Option.some.inj e;have:=za NH;omega));have RN:=zaa (show zdo 0 (V6.setCell ⟨wr.heap.size,1,none⟩ (.slice a6 k6 c6)) a6 c6 (wR ⟨host,pre,pool⟩ (dR host pre rs)) from zb4 (zak ho6 (za G4) (za XO6) (by decide)) (Nat.zero_le _));have PN:=zaa (show za8 0 (V6.setCell ⟨wr.heap.size,1,none⟩ (.slice a6 k6 c6)) pa pc (l.map Pq.pr) from zae (za HP) (za FB _ (za BV4)));have DN:=zaa (show ∀ p∈l,TgD (V6.setCell ⟨wr.heap.size,1,none⟩ (.slice a6 k6 c6)) p from fun p hp=>(za HD p hp).later (za FB _ (za BV4)));have SN:=zaa (show SmallT ⟨ver,wR ⟨host,pre,pool⟩ (dR host pre rs),l.map Pq.po⟩ from zfj (za HS) (by have:=zr8 ⟨host,pre,pool⟩ (dR host pre rs);have:=zkq host pre rs;have:=za HN;omega) (by have:=za HM;omega) (fun r hr=>(zr4 hr).elim (fun e=>.inr (by rw[e];exact⟨z1,z2,z3⟩)) (fun e=>.inl (zp7 e))) (fun p hp=>.inl hp));have LN:=zaa hk6;have LM:=zaa (za HM);clear WC ho6 hb6 x4 x5 x6 z1 z2 z3;have CC:=zaa (zc3 (za RN) (za PN) (za DN) hv (za SN) k6 m (za LN) (za LM))
        have t0:=zab (za XO4) 0 (.int .i64 ver) rfl;have t1:=zab (za XO4) 1 (.slice a6 k6 c6) rfl;have t2:=zab (za XO4) 2 (.slice pa m pc) rfl
        go_wp2_with fail
        generalize V6.setCell ⟨wr.heap.size,1,none⟩ (.slice a6 k6 c6)=W4 at *;clear u fo d0 d1 d2 x0;refine(za CC).mono ?_;rintro e V5 ⟨s5,n5,c5,rfl,hn5,hb5⟩;have BV5:=zaa ((za BV4).trans (hb5.mono (by have:=(za BV4).size;have:=za Z4;omega)));have XO5:=zaa (zad hb5 (za XO4));have RN5:=zaa (zae (za RN) hb5);have PN5:=zaa (zae (za PN) hb5);have DN5:=zaa (fun p hp=>(za DN p hp).later hb5);clear t0 t1 t2 CC XO4 RN PN DN hb5;by_cases hbig:12000<n5
        ·as_aux_lemma =>
         have i5:(12000:Int)<(n5:Int):=by omega
         have EV:=zaa (show RVF none 0 ver rs l=(6,rs,l) by rw[za EB];unfold zgs;rw[if_pos (by rw[hn5];exact hbig)]);have d0:=zab (za XC _ (za BV5)) 0 (.int .i64 ver) rfl;have d1:=zab (za XC _ (za BV5)) 1 (.slice ra n rc) rfl;have d2:=zab (za XC _ (za BV5)) 2 (.slice pa m pc) rfl;clear hn5;have XD:=zaa (za XZ _ (za BV5));have z0:=zab (za XD) 0 (.int .i64 0) rfl;have z1:=zab (za XD) 1 (.slice none 0 0) rfl;have z2:=zab (za XD) 2 (.slice none 0 0) rfl;have f0:V5.frozen? ⟨w.heap.size+1+1,0,none⟩=false:=by simp[World.frozen?,za XD]
         have f1:V5.frozen? ⟨w.heap.size+1+1,1,none⟩=false:=by simp[World.frozen?,za XD]
         have f2:V5.frozen? ⟨w.heap.size+1+1,2,none⟩=false:=by simp[World.frozen?,za XD]
         obtain⟨a1,a2⟩:=zhn (x:=.int .i64 ver) (y:=.slice ra n rc) (z:=.slice pa m pc) (za XD);have A1:=zaa a1;have A2:=zaa a2;have B9:=zaa ((za BV5).size);clear a1 a2
         go_wp2
         generalize (((V5.setCell ⟨w.heap.size+1+1,0,none⟩ (.int .i64 ver)).setCell ⟨w.heap.size+1+1,1,none⟩ (.slice ra n rc)).setCell ⟨w.heap.size+1+1,2,none⟩ (.slice pa m pc))=W9 at *;clear z0 z1 z2 f0 f1 f2;have g0:=zab (za A1) 0 (.int .i64 ver) rfl;have g1:=zab (za A1) 1 (.slice ra n rc) rfl;have g2:=zab (za A1) 2 (.slice pa m pc) rfl;have BW9:=zaa ((za FB _ (za BV5)).grown (za A2) (by have:=(za b4).size;have:=za B9;omega) (fun g e=>by have:=Option.some.inj e;omega));refine bodyPost_ret (v:=.tuple #[.agg #[.int .i64 ver,.slice ra n rc,.slice pa m pc],.int .i64 6]) (by simp[results,Tryz.results70,go_sem,g0,g1,g2]) rfl (za OE none 0 6 rs l _ _ _ _ _ _ _ (za EV) (za HN) (za HM) (zae (za HR) (za BW9)) (zae (za HP) (za BW9)) (fun p hp=>(za HD p hp).later (za BW9)) (za BW9))
        ·as_aux_lemma =>
         have i5:¬ (12000:Int)<(n5:Int):=by omega
         have EV:=zaa (show RVF none 0 ver rs l=(0,(wR ⟨host,pre,pool⟩ (dR host pre rs)),l) by rw[za EB];unfold zgs;rw[if_neg (by rw[hn5];exact hbig)]);have t0:=zab (za XO5) 0 (.int .i64 ver) rfl;have t1:=zab (za XO5) 1 (.slice a6 k6 c6) rfl;have t2:=zab (za XO5) 2 (.slice pa m pc) rfl;clear hn5;have XD:=zaa (za XZ _ (za BV5));have z0:=zab (za XD) 0 (.int .i64 0) rfl;have z1:=zab (za XD) 1 (.slice none 0 0) rfl;have z2:=zab (za XD) 2 (.slice none 0 0) rfl;have f0:V5.frozen? ⟨w.heap.size+1+1,0,none⟩=false:=by simp[World.frozen?,za XD]
         have f1:V5.frozen? ⟨w.heap.size+1+1,1,none⟩=false:=by simp[World.frozen?,za XD]
         have f2:V5.frozen? ⟨w.heap.size+1+1,2,none⟩=false:=by simp[World.frozen?,za XD]
         obtain⟨a1,a2⟩:=zhn (x:=.int .i64 ver) (y:=.slice a6 k6 c6) (z:=.slice pa m pc) (za XD);have A1:=zaa a1;have A2:=zaa a2;have B9:=zaa ((za BV5).size);clear a1 a2
         go_wp2
         generalize (((V5.setCell ⟨w.heap.size+1+1,0,none⟩ (.int .i64 ver)).setCell ⟨w.heap.size+1+1,1,none⟩ (.slice a6 k6 c6)).setCell ⟨w.heap.size+1+1,2,none⟩ (.slice pa m pc))=W9 at *;clear z0 z1 z2 f0 f1 f2;have g0:=zab (za A1) 0 (.int .i64 ver) rfl;have g1:=zab (za A1) 1 (.slice a6 k6 c6) rfl;have g2:=zab (za A1) 2 (.slice pa m pc) rfl;have BW9:=zaa ((za FB _ (za BV5)).grown (za A2) (by have:=(za b4).size;have:=za B9;omega) (fun g e=>by have:=Option.some.inj e;omega));refine bodyPost_ret (v:=.tuple #[.agg #[.int .i64 ver,.slice a6 k6 c6,.slice pa m pc],.int .i64 0]) (by simp[results,Tryz.results70,go_sem,g0,g1,g2]) rfl (za OE none 0 0 (wR ⟨host,pre,pool⟩ (dR host pre rs)) l _ _ _ _ _ _ _ (za EV) (za LN) (za LM) (zak (za RN5) (za A2) (za XD) (by decide)) (zak (za PN5) (za A2) (za XD) (by decide)) (fun p hp=>zb1 (za DN5 p hp) (za A2) (za XD) (zfd _ _ _ _ _ _ _)) (za BW9))
       |false =>
        by_cases h64:64≤n
        ·as_aux_lemma =>
         have i64:(64:Int)≤(n:Int):=by omega
         have EV:=zaa (show RVF none 0 ver rs l=(6,rs,l) by rw[za RV,if_neg (by decide),if_neg (by decide),if_pos rfl,if_neg (by rw[za PB];decide),if_pos ⟨za KB,by rw[za HN];exact h64⟩]);clear OE RV;have XD:=zaa (za XZ _ (za BV3));have z0:=zab (za XD) 0 (.int .i64 0) rfl;have z1:=zab (za XD) 1 (.slice none 0 0) rfl;have z2:=zab (za XD) 2 (.slice none 0 0) rfl;have f0:(wr.alloc (.cells #[.int .i64 ver,.slice ra n rc,.slice pa m pc] 45)).frozen? ⟨w.heap.size+1+1,0,none⟩=false:=by simp[World.frozen?,za XD]
         have f1:(wr.alloc (.cells #[.int .i64 ver,.slice ra n rc,.slice pa m pc] 45)).frozen? ⟨w.heap.size+1+1,1,none⟩=false:=by simp[World.frozen?,za XD]
         have f2:(wr.alloc (.cells #[.int .i64 ver,.slice ra n rc,.slice pa m pc] 45)).frozen? ⟨w.heap.size+1+1,2,none⟩=false:=by simp[World.frozen?,za XD]
         obtain⟨a1,a2⟩:=zhn (x:=.int .i64 ver) (y:=.slice ra n rc) (z:=.slice pa m pc) (za XD);have A1:=zaa a1;have A2:=zaa a2;have B9:=zaa ((za BV3).size);clear a1 a2
         go_wp2
         generalize ((((wr.alloc (.cells #[.int .i64 ver,.slice ra n rc,.slice pa m pc] 45)).setCell ⟨w.heap.size+1+1,0,none⟩ (.int .i64 ver)).setCell ⟨w.heap.size+1+1,1,none⟩ (.slice ra n rc)).setCell ⟨w.heap.size+1+1,2,none⟩ (.slice pa m pc))=W9 at *;clear z0 z1 z2 f0 f1 f2;have g0:=zab (za A1) 0 (.int .i64 ver) rfl;have g1:=zab (za A1) 1 (.slice ra n rc) rfl;have g2:=zab (za A1) 2 (.slice pa m pc) rfl;have BW9:=zaa ((za FB _ (za BV3)).grown (za A2) (by have:=(za b4).size;have:=za B9;omega) (fun g e=>by have:=Option.some.inj e;omega));refine bodyPost_ret (v:=.tuple #[.agg #[.int .i64 ver,.slice ra n rc,.slice pa m pc],.int .i64 6]) (by simp[results,Tryz.results70,go_sem,g0,g1,g2]) rfl (za AE _ _ (za EV) (za BW9))
        ·as_aux_lemma =>
         have i64:¬ (64:Int)≤(n:Int):=by omega
         have EB:=zaa (show RVF none 0 ver rs l=zgs ver rs l (wR ⟨host,pre,pool⟩ (dR host pre rs)) l by rw[za RV,if_neg (by decide),if_neg (by decide),if_pos rfl,if_neg (by rw[za PB];decide),if_neg (fun e=>h64 (by have:=e.2;rw[za HN] at this;exact this))]);have x4:=zab (za XX _ (za BV3)) 4 (.string host) rfl;have x5:=zab (za XX _ (za BV3)) 5 (.string pre) rfl;have x6:=zab (za XX _ (za BV3)) 6 (.string pool) rfl;obtain⟨z1,z2,z3,_,_⟩:=za SC;have WC:=zaa (zfa (za ORW) ⟨host,pre,pool⟩ k2 (za NL2) (by have:=zkq host pre rs;have:=za NL2;have:=za HN;omega));obtain⟨k6,hk6⟩:∃ k6,(wR ⟨host,pre,pool⟩ (dR host pre rs)).length=k6:=⟨_,rfl⟩
         rw[hk6] at WC
         go_wp2_with fail
         refine(za WC).mono ?_;rintro e V6 ⟨a6,c6,rfl,ho6,hb6⟩;have BV6:=zaa ((za BV3).trans (hb6.mono (by have:=(za BV3).size;have:=za Z4;omega)));have XO6:=zaa (zad hb6 (za XO));have u:=zab (za XO6) 1 (.slice ra n rc) rfl;have fo:V6.frozen? ⟨wr.heap.size,1,none⟩=false:=by simp[World.frozen?,za XO6]
         have G4:=zaa (zaf V6 wr.heap.size 1 (.slice a6 k6 c6));have XO4:=zaa (show(V6.setCell ⟨wr.heap.size,1,none⟩ (.slice a6 k6 c6)).heap[wr.heap.size]? = some (.cells #[.int .i64 ver,.slice a6 k6 c6,.slice pa m pc] 45 (0,0)) from heap_setCell_same V6 wr.heap.size 1 _ 45 (.slice a6 k6 c6) (za XO6));have BV4:=zaa ((za BV6).grown (za G4) (by have:=(za BV6).size;have:=za Z4;omega) (fun g e=>by have:=Option.some.inj e;have:=za NH;omega));have RN:=zaa (show zdo 0 (V6.setCell ⟨wr.heap.size,1,none⟩ (.slice a6 k6 c6)) a6 c6 (wR ⟨host,pre,pool⟩ (dR host pre rs)) from zb4 (zak ho6 (za G4) (za XO6) (by decide)) (Nat.zero_le _));have PN:=zaa (show za8 0 (V6.setCell ⟨wr.heap.size,1,none⟩ (.slice a6 k6 c6)) pa pc (l.map Pq.pr) from zae (za HP) (za FB _ (za BV4)));have DN:=zaa (show ∀ p∈l,TgD (V6.setCell ⟨wr.heap.size,1,none⟩ (.slice a6 k6 c6)) p from fun p hp=>(za HD p hp).later (za FB _ (za BV4)));have SN:=zaa (show SmallT ⟨ver,wR ⟨host,pre,pool⟩ (dR host pre rs),l.map Pq.po⟩ from zfj (za HS) (by have:=zr8 ⟨host,pre,pool⟩ (dR host pre rs);have:=zkq host pre rs;have:=za HN;omega) (by have:=za HM;omega) (fun r hr=>(zr4 hr).elim (fun e=>.inr (by rw[e];exact⟨z1,z2,z3⟩)) (fun e=>.inl (zp7 e))) (fun p hp=>.inl hp));have LN:=zaa hk6;have LM:=zaa (za HM);clear WC ho6 hb6 x4 x5 x6 z1 z2 z3;have CC:=zaa (zc3 (za RN) (za PN) (za DN) hv (za SN) k6 m (za LN) (za LM))
         have t0:=zab (za XO4) 0 (.int .i64 ver) rfl;have t1:=zab (za XO4) 1 (.slice a6 k6 c6) rfl;have t2:=zab (za XO4) 2 (.slice pa m pc) rfl
         go_wp2_with fail
         generalize V6.setCell ⟨wr.heap.size,1,none⟩ (.slice a6 k6 c6)=W4 at *;clear u fo d0 d1 d2 x0;refine(za CC).mono ?_;rintro e V5 ⟨s5,n5,c5,rfl,hn5,hb5⟩;have BV5:=zaa ((za BV4).trans (hb5.mono (by have:=(za BV4).size;have:=za Z4;omega)));have XO5:=zaa (zad hb5 (za XO4));have RN5:=zaa (zae (za RN) hb5);have PN5:=zaa (zae (za PN) hb5);have DN5:=zaa (fun p hp=>(za DN p hp).later hb5);clear t0 t1 t2 CC XO4 RN PN DN hb5;by_cases hbig:12000<n5
         ·as_aux_lemma =>
          have i5:(12000:Int)<(n5:Int):=by omega
          have EV:=zaa (show RVF none 0 ver rs l=(6,rs,l) by rw[za EB];unfold zgs;rw[if_pos (by rw[hn5];exact hbig)]);have d0:=zab (za XC _ (za BV5)) 0 (.int .i64 ver) rfl;have d1:=zab (za XC _ (za BV5)) 1 (.slice ra n rc) rfl;have d2:=zab (za XC _ (za BV5)) 2 (.slice pa m pc) rfl;clear hn5;have XD:=zaa (za XZ _ (za BV5));have z0:=zab (za XD) 0 (.int .i64 0) rfl;have z1:=zab (za XD) 1 (.slice none 0 0) rfl;have z2:=zab (za XD) 2 (.slice none 0 0) rfl;have f0:V5.frozen? ⟨w.heap.size+1+1,0,none⟩=false:=by simp[World.frozen?,za XD]
          have f1:V5.frozen? ⟨w.heap.size+1+1,1,none⟩=false:=by simp[World.frozen?,za XD]
          have f2:V5.frozen? ⟨w.heap.size+1+1,2,none⟩=false:=by simp[World.frozen?,za XD]
          obtain⟨a1,a2⟩:=zhn (x:=.int .i64 ver) (y:=.slice ra n rc) (z:=.slice pa m pc) (za XD);have A1:=zaa a1;have A2:=zaa a2;have B9:=zaa ((za BV5).size);clear a1 a2
          go_wp2
          generalize (((V5.setCell ⟨w.heap.size+1+1,0,none⟩ (.int .i64 ver)).setCell ⟨w.heap.size+1+1,1,none⟩ (.slice ra n rc)).setCell ⟨w.heap.size+1+1,2,none⟩ (.slice pa m pc))=W9 at *;clear z0 z1 z2 f0 f1 f2;have g0:=zab (za A1) 0 (.int .i64 ver) rfl;have g1:=zab (za A1) 1 (.slice ra n rc) rfl;have g2:=zab (za A1) 2 (.slice pa m pc) rfl;have BW9:=zaa ((za FB _ (za BV5)).grown (za A2) (by have:=(za b4).size;have:=za B9;omega) (fun g e=>by have:=Option.some.inj e;omega));refine bodyPost_ret (v:=.tuple #[.agg #[.int .i64 ver,.slice ra n rc,.slice pa m pc],.int .i64 6]) (by simp[results,Tryz.results70,go_sem,g0,g1,g2]) rfl (za OE none 0 6 rs l _ _ _ _ _ _ _ (za EV) (za HN) (za HM) (zae (za HR) (za BW9)) (zae (za HP) (za BW9)) (fun p hp=>(za HD p hp).later (za BW9)) (za BW9))
         ·as_aux_lemma =>
          have i5:¬ (12000:Int)<(n5:Int):=by omega
          have EV:=zaa (show RVF none 0 ver rs l=(0,(wR ⟨host,pre,pool⟩ (dR host pre rs)),l) by rw[za EB];unfold zgs;rw[if_neg (by rw[hn5];exact hbig)]);have t0:=zab (za XO5) 0 (.int .i64 ver) rfl;have t1:=zab (za XO5) 1 (.slice a6 k6 c6) rfl;have t2:=zab (za XO5) 2 (.slice pa m pc) rfl;clear hn5;have XD:=zaa (za XZ _ (za BV5));have z0:=zab (za XD) 0 (.int .i64 0) rfl;have z1:=zab (za XD) 1 (.slice none 0 0) rfl;have z2:=zab (za XD) 2 (.slice none 0 0) rfl;have f0:V5.frozen? ⟨w.heap.size+1+1,0,none⟩=false:=by simp[World.frozen?,za XD]
          have f1:V5.frozen? ⟨w.heap.size+1+1,1,none⟩=false:=by simp[World.frozen?,za XD]
          have f2:V5.frozen? ⟨w.heap.size+1+1,2,none⟩=false:=by simp[World.frozen?,za XD]
          obtain⟨a1,a2⟩:=zhn (x:=.int .i64 ver) (y:=.slice a6 k6 c6) (z:=.slice pa m pc) (za XD);have A1:=zaa a1;have A2:=zaa a2;have B9:=zaa ((za BV5).size);clear a1 a2
          go_wp2
          generalize (((V5.setCell ⟨w.heap.size+1+1,0,none⟩ (.int .i64 ver)).setCell ⟨w.heap.size+1+1,1,none⟩ (.slice a6 k6 c6)).setCell ⟨w.heap.size+1+1,2,none⟩ (.slice pa m pc))=W9 at *;clear z0 z1 z2 f0 f1 f2;have g0:=zab (za A1) 0 (.int .i64 ver) rfl;have g1:=zab (za A1) 1 (.slice a6 k6 c6) rfl;have g2:=zab (za A1) 2 (.slice pa m pc) rfl;have BW9:=zaa ((za FB _ (za BV5)).grown (za A2) (by have:=(za b4).size;have:=za B9;omega) (fun g e=>by have:=Option.some.inj e;omega));refine bodyPost_ret (v:=.tuple #[.agg #[.int .i64 ver,.slice a6 k6 c6,.slice pa m pc],.int .i64 0]) (by simp[results,Tryz.results70,go_sem,g0,g1,g2]) rfl (za OE none 0 0 (wR ⟨host,pre,pool⟩ (dR host pre rs)) l _ _ _ _ _ _ _ (za EV) (za LN) (za LM) (zak (za RN5) (za A2) (za XD) (by decide)) (zak (za PN5) (za A2) (za XD) (by decide)) (fun p hp=>zb1 (za DN5 p hp) (za A2) (za XD) (zfd _ _ _ _ _ _ _)) (za BW9))
     ·as_aux_lemma =>
      subst h;have b3:=zaa (show Below wr.heap.size wr (wr.alloc (.cells #[.int .i64 ver,.slice ra n rc,.slice pa m pc] 45)) from(Below.refl _ _).alloc (Nat.le_refl _) _);have XO:=zaa (zac wr (.cells #[.int .i64 ver,.slice ra n rc,.slice pa m pc] 45));have S3:=zaa (show(wr.alloc (.cells #[.int .i64 ver,.slice ra n rc,.slice pa m pc] 45)).heap.size=wr.heap.size+1 by rw[zbz]);have B3:=zaa ((za BB).trans ((za b3).mono (za HB2)));have BV3:=zaa (za FE _ (za B3));have PP3:=zaa (za PW _ (za B3));have ORW:=zaa (zae (za OW) (za b3));have ORW0:=zaa (za OW);have NH:=zaa (show w.heap.size+3≤wr.heap.size by have:=za HB;have:=za HB2;omega);have x0:=zab (za XX _ (za BV3)) 0 (.int .i64 4) rfl;have d0:=zab (za XC _ (za BV3)) 0 (.int .i64 ver) rfl;have d1:=zab (za XC _ (za BV3)) 1 (.slice ra n rc) rfl;have d2:=zab (za XC _ (za BV3)) 2 (.slice pa m pc) rfl;clear B3 OW PP;cases bk with
      |false =>
       as_aux_lemma =>
       have EV:=zaa (show RVF none 0 ver rs l=(8,rs,l) by rw[za RV,if_neg (by decide),if_neg (by decide),if_neg (by decide),if_pos (za KB)]);clear OE RV;have XD:=zaa (za XZ _ (za BV3));have z0:=zab (za XD) 0 (.int .i64 0) rfl;have z1:=zab (za XD) 1 (.slice none 0 0) rfl;have z2:=zab (za XD) 2 (.slice none 0 0) rfl;have f0:(wr.alloc (.cells #[.int .i64 ver,.slice ra n rc,.slice pa m pc] 45)).frozen? ⟨w.heap.size+1+1,0,none⟩=false:=by simp[World.frozen?,za XD]
       have f1:(wr.alloc (.cells #[.int .i64 ver,.slice ra n rc,.slice pa m pc] 45)).frozen? ⟨w.heap.size+1+1,1,none⟩=false:=by simp[World.frozen?,za XD]
       have f2:(wr.alloc (.cells #[.int .i64 ver,.slice ra n rc,.slice pa m pc] 45)).frozen? ⟨w.heap.size+1+1,2,none⟩=false:=by simp[World.frozen?,za XD]
       obtain⟨a1,a2⟩:=zhn (x:=.int .i64 ver) (y:=.slice ra n rc) (z:=.slice pa m pc) (za XD);have A1:=zaa a1;have A2:=zaa a2;have B9:=zaa ((za BV3).size);clear a1 a2
       go_wp2
       generalize ((((wr.alloc (.cells #[.int .i64 ver,.slice ra n rc,.slice pa m pc] 45)).setCell ⟨w.heap.size+1+1,0,none⟩ (.int .i64 ver)).setCell ⟨w.heap.size+1+1,1,none⟩ (.slice ra n rc)).setCell ⟨w.heap.size+1+1,2,none⟩ (.slice pa m pc))=W9 at *;clear z0 z1 z2 f0 f1 f2;have g0:=zab (za A1) 0 (.int .i64 ver) rfl;have g1:=zab (za A1) 1 (.slice ra n rc) rfl;have g2:=zab (za A1) 2 (.slice pa m pc) rfl;have BW9:=zaa ((za FB _ (za BV3)).grown (za A2) (by have:=(za b4).size;have:=za B9;omega) (fun g e=>by have:=Option.some.inj e;omega));refine bodyPost_ret (v:=.tuple #[.agg #[.int .i64 ver,.slice ra n rc,.slice pa m pc],.int .i64 8]) (by simp[results,Tryz.results70,go_sem,g0,g1,g2]) rfl (za AE _ _ (za EV) (za BW9))
      |true =>
       as_aux_lemma =>
       have EB:=zaa (show RVF none 0 ver rs l=zgs ver rs l (dR host pre rs) l by rw[za RV,if_neg (by decide),if_neg (by decide),if_neg (by decide),if_neg (by rw[za KB];decide)]);have b4w:=zaa (show Below wr.heap.size wr (wr.alloc (.cells #[.int .i64 ver,.slice sp2 k2 c2,.slice pa m pc] 45)) from(Below.refl _ _).alloc (Nat.le_refl _) _);have XO4:=zaa (zac wr (.cells #[.int .i64 ver,.slice sp2 k2 c2,.slice pa m pc] 45));have B4:=zaa ((za BB).trans ((za b4w).mono (za HB2)));have BV4:=zaa (za FE _ (za B4));have RN:=zaa (show zdo 0 (wr.alloc (.cells #[.int .i64 ver,.slice sp2 k2 c2,.slice pa m pc] 45)) sp2 c2 (dR host pre rs) from zb4 (zae (za ORW0) (za b4w)) (Nat.zero_le _));have PN:=zaa (show za8 0 (wr.alloc (.cells #[.int .i64 ver,.slice sp2 k2 c2,.slice pa m pc] 45)) pa pc (l.map Pq.pr) from zae (za HP) (za FB _ (za BV4)));have DN:=zaa (show ∀ p∈l,TgD (wr.alloc (.cells #[.int .i64 ver,.slice sp2 k2 c2,.slice pa m pc] 45)) p from fun p hp=>(za HD p hp).later (za FB _ (za BV4)));have SN:=zaa (show SmallT ⟨ver,dR host pre rs,l.map Pq.po⟩ from zfj (za HS) (by have:=zkq host pre rs;have:=za HN;omega) (by have:=za HM;omega) (fun r hr=>.inl (zp7 hr)) (fun p hp=>.inl hp));have LN:=zaa (za NL2);have LM:=zaa (za HM);have CC:=zaa (zc3 (za RN) (za PN) (za DN) hv (za SN) k2 m (za LN) (za LM));have t0:=zab (za XO4) 0 (.int .i64 ver) rfl
       have t1:=zab (za XO4) 1 (.slice sp2 k2 c2) rfl;have t2:=zab (za XO4) 2 (.slice pa m pc) rfl
       go_wp2_with fail
       generalize (wr.alloc (.cells #[.int .i64 ver,.slice sp2 k2 c2,.slice pa m pc] 45))=W4 at *;clear d0 d1 d2 x0;refine(za CC).mono ?_;rintro e V5 ⟨s5,n5,c5,rfl,hn5,hb5⟩;have BV5:=zaa ((za BV4).trans (hb5.mono (by have:=(za BV4).size;have:=za Z4;omega)));have XO5:=zaa (zad hb5 (za XO4));have RN5:=zaa (zae (za RN) hb5);have PN5:=zaa (zae (za PN) hb5);have DN5:=zaa (fun p hp=>(za DN p hp).later hb5);clear t0 t1 t2 CC XO4 RN PN DN hb5;by_cases hbig:12000<n5
       ·as_aux_lemma =>
        have i5:(12000:Int)<(n5:Int):=by omega
        have EV:=zaa (show RVF none 0 ver rs l=(6,rs,l) by rw[za EB];unfold zgs;rw[if_pos (by rw[hn5];exact hbig)]);have d0:=zab (za XC _ (za BV5)) 0 (.int .i64 ver) rfl;have d1:=zab (za XC _ (za BV5)) 1 (.slice ra n rc) rfl;have d2:=zab (za XC _ (za BV5)) 2 (.slice pa m pc) rfl;clear hn5;have XD:=zaa (za XZ _ (za BV5));have z0:=zab (za XD) 0 (.int .i64 0) rfl;have z1:=zab (za XD) 1 (.slice none 0 0) rfl;have z2:=zab (za XD) 2 (.slice none 0 0) rfl;have f0:V5.frozen? ⟨w.heap.size+1+1,0,none⟩=false:=by simp[World.frozen?,za XD]
        have f1:V5.frozen? ⟨w.heap.size+1+1,1,none⟩=false:=by simp[World.frozen?,za XD]
        have f2:V5.frozen? ⟨w.heap.size+1+1,2,none⟩=false:=by simp[World.frozen?,za XD]
        obtain⟨a1,a2⟩:=zhn (x:=.int .i64 ver) (y:=.slice ra n rc) (z:=.slice pa m pc) (za XD);have A1:=zaa a1;have A2:=zaa a2;have B9:=zaa ((za BV5).size);clear a1 a2
        go_wp2
        generalize (((V5.setCell ⟨w.heap.size+1+1,0,none⟩ (.int .i64 ver)).setCell ⟨w.heap.size+1+1,1,none⟩ (.slice ra n rc)).setCell ⟨w.heap.size+1+1,2,none⟩ (.slice pa m pc))=W9 at *;clear z0 z1 z2 f0 f1 f2;have g0:=zab (za A1) 0 (.int .i64 ver) rfl;have g1:=zab (za A1) 1 (.slice ra n rc) rfl;have g2:=zab (za A1) 2 (.slice pa m pc) rfl;have BW9:=zaa ((za FB _ (za BV5)).grown (za A2) (by have:=(za b4).size;have:=za B9;omega) (fun g e=>by have:=Option.some.inj e;omega));refine bodyPost_ret (v:=.tuple #[.agg #[.int .i64 ver,.slice ra n rc,.slice pa m pc],.int .i64 6]) (by simp[results,Tryz.results70,go_sem,g0,g1,g2]) rfl (za OE none 0 6 rs l _ _ _ _ _ _ _ (za EV) (za HN) (za HM) (zae (za HR) (za BW9)) (zae (za HP) (za BW9)) (fun p hp=>(za HD p hp).later (za BW9)) (za BW9))
       ·as_aux_lemma =>
        have i5:¬ (12000:Int)<(n5:Int):=by omega
        have EV:=zaa (show RVF none 0 ver rs l=(0,(dR host pre rs),l) by rw[za EB];unfold zgs;rw[if_neg (by rw[hn5];exact hbig)]);have t0:=zab (za XO5) 0 (.int .i64 ver) rfl;have t1:=zab (za XO5) 1 (.slice sp2 k2 c2) rfl;have t2:=zab (za XO5) 2 (.slice pa m pc) rfl;clear hn5;have XD:=zaa (za XZ _ (za BV5));have z0:=zab (za XD) 0 (.int .i64 0) rfl;have z1:=zab (za XD) 1 (.slice none 0 0) rfl;have z2:=zab (za XD) 2 (.slice none 0 0) rfl;have f0:V5.frozen? ⟨w.heap.size+1+1,0,none⟩=false:=by simp[World.frozen?,za XD]
        have f1:V5.frozen? ⟨w.heap.size+1+1,1,none⟩=false:=by simp[World.frozen?,za XD]
        have f2:V5.frozen? ⟨w.heap.size+1+1,2,none⟩=false:=by simp[World.frozen?,za XD]
        obtain⟨a1,a2⟩:=zhn (x:=.int .i64 ver) (y:=.slice sp2 k2 c2) (z:=.slice pa m pc) (za XD);have A1:=zaa a1;have A2:=zaa a2;have B9:=zaa ((za BV5).size);clear a1 a2
        go_wp2
        generalize (((V5.setCell ⟨w.heap.size+1+1,0,none⟩ (.int .i64 ver)).setCell ⟨w.heap.size+1+1,1,none⟩ (.slice sp2 k2 c2)).setCell ⟨w.heap.size+1+1,2,none⟩ (.slice pa m pc))=W9 at *;clear z0 z1 z2 f0 f1 f2;have g0:=zab (za A1) 0 (.int .i64 ver) rfl;have g1:=zab (za A1) 1 (.slice sp2 k2 c2) rfl;have g2:=zab (za A1) 2 (.slice pa m pc) rfl;have BW9:=zaa ((za FB _ (za BV5)).grown (za A2) (by have:=(za b4).size;have:=za B9;omega) (fun g e=>by have:=Option.some.inj e;omega));refine bodyPost_ret (v:=.tuple #[.agg #[.int .i64 ver,.slice sp2 k2 c2,.slice pa m pc],.int .i64 0]) (by simp[results,Tryz.results70,go_sem,g0,g1,g2]) rfl (za OE none 0 0 (dR host pre rs) l _ _ _ _ _ _ _ (za EV) (za LN) (za LM) (zak (za RN5) (za A2) (za XD) (by decide)) (zak (za PN5) (za A2) (za XD) (by decide)) (fun p hp=>zb1 (za DN5 p hp) (za A2) (za XD) (zfd _ _ _ _ _ _ _)) (za BW9))
end Go.Proofs.YtjcjleaicjhpeaaGreatDoor
