/- Plane: rows copied into one's own. -/
import Derived.Test.YtjcjleaicjhpeaaGreatDoorB01
import Derived.Laws.OwnMore
import Derived.Test.YtjcjleaicjhpeaaGreatDoorProg
import Derived.Sort.Walk0
set_option linter.unusedVariables false
set_option maxRecDepth 20000
set_option maxHeartbeats 16000000
namespace Go.Proofs.YtjcjleaicjhpeaaGreatDoor
section
open Go.ChangeShapes Go.WideShapes Go.ChangeAt Go.RowKit
theorem zcw (w:World) (j k:Nat) (v:Value):w.grownBy (w.setCell ⟨j,k,none⟩ v) (some j) :=
 ⟨rfl,rfl,rfl,by simp[World.setCell],fun i _ hne=>heap_setCell_other w ⟨j,k,none⟩ i v (fun e=>hne (by rw[e]))⟩
theorem zhf {w:World} (t ty e:TypeId) (i:TypeInfo) (z:Value) (size bytes:Nat) (ht:Tryz.prog.underlying t=some (.slice e)) (hi:Tryz.prog.info? e=some i) (hz:i.zero=some z) (hsize:i.size=size) (hby:i.bytes=bytes) (hzs:z.cells.size=size) (hsz:0<size)
  (E:Nat) (hE:w.heap[E]? = some (.cells #[] e (0,0))) (ad:Option Addr) (m c:Nat) (hn:ad=none→m=0∧c=0) (news:List Value) (hl:news.length=m*size)
  (hnews:∀ b,ad=some b→∀ j u,news[j]? = some u→w.cell? (b.add j)=some u) (h1:∀ u∈news,u.oneCell'=true) (hm:m≤1000) (hbytes:m*bytes≤140737488355328) :
  ∃ g c' w',(Builtin.append_ #[t,t] ty #[.slice (some ⟨E,0,none⟩) 0 0,.slice ad m c]).run Tryz.prog w=.ok (.slice (some ⟨g,0,none⟩) m c') w'∧w'.ownsRow E e size (.slice (some ⟨g,0,none⟩) m c') m news∧w.grownBy w' (some E)∧(g=E∨g=w.heap.size):=by
 have he:w.ownsRow E e size (.slice (some ⟨E,0,none⟩) 0 0) 0 []:=⟨by simp,.inr ⟨E,0,#[],rfl,Nat.le_refl _,hE,Nat.le_refl _,by simp[maxLen],by simp,by simp⟩⟩
 have hEl:E<w.heap.size:=(Array.getElem?_eq_some_iff.1 hE).1;cases ad with
 |none =>
  obtain⟨rfl,rfl⟩:=hn rfl;have hz:news=[]:=List.eq_nil_of_length_eq_zero (by simpa using hl);subst hz;have hrun:=run_append_owned_none (P:=Tryz.prog) (w:=w) E t ty e i size ht hi _ _ _ he;exact⟨E,0,w,hrun,he,zbe _ _,.inl rfl⟩
 |some b =>
  obtain⟨v',w',hrun,h2,h3,h4,h5⟩:=run_append_own_at (P:=Tryz.prog) w E t ty e i z size bytes ht hi hz hsize hby hzs hsz _ _ _ he b m c news hl (hnews b rfl) h1 (by simp only[maxLen];omega) (by rw[Nat.zero_add];exact hbytes) (by omega);rcases h2.2 with⟨hv,h0⟩|⟨g,cap,cur,hv,r⟩
  ·have:=(h4.1 hv).1;cases this
  ·subst hv;rw[Nat.zero_add,List.nil_append] at h2;exact⟨g,cap,w',by rw[hrun,Nat.zero_add],h2,h3,h5.imp (fun e=>Option.some.inj e) (fun e=>Option.some.inj e)⟩
theorem zgv {w:World} {ops:Array Oper} {o:Oper} {a:Act} {K:Act→World→Prop} {Q:Exit→Act→World→Prop} {E0:Prop} (hgd:o.guard=none) (s x:Operand) (t e:TypeId)
  (ho:o.op=.call { callee:=.builtin .append,args:=#[s,x],argTypes:=#[t,t] })
  (i:TypeInfo) (z:Value) (size bytes:Nat) (ht:Tryz.prog.underlying t=some (.slice e)) (hi:Tryz.prog.info? e=some i) (hz:i.zero=some z) (hsize:i.size=size) (hby:i.bytes=bytes) (hzs:z.cells.size=size) (hsz:0<size)
  (E:Nat) (hs:a.eval s=.slice (some ⟨E,0,none⟩) 0 0) (hE:w.heap[E]? = some (.cells #[] e (0,0))) (ad:Option Addr) (m c:Nat) (hx:a.eval x=.slice ad m c) (hn:ad=none→m=0∧c=0) (news:List Value) (hl:news.length=m*size)
  (hnews:∀ b,ad=some b→∀ j u,news[j]? = some u→w.cell? (b.add j)=some u) (h1:∀ u∈news,u.oneCell'=true) (hm:m≤1000) (hbytes:m*bytes≤140737488355328)
  (hk:∀ g c' w',w'.ownsRow E e size (.slice (some ⟨g,0,none⟩) m c') m news→w.grownBy w' (some E)→(g=E∨g=w.heap.size)→K (a.put o.dst (.slice (some ⟨g,0,none⟩) m c')) w') :
  if Region.wanted o (yielded ops a.tmps)=true then Oper.wp Tryz.prog o a w K Q else E0:=by
 have hw:Region.wanted o (yielded ops a.tmps)=true:=by simp[Region.wanted,hgd]
 rw[if_pos hw];obtain⟨g,c',w',hrun,h2,h3,h4⟩:=zhf t o.type e i z size bytes ht hi hz hsize hby hzs hsz E hE ad m c hn news hl hnews h1 hm hbytes;unfold Oper.wp;simp[execOp,ho,resolve,invoke,builtin,hs,hx,hrun,Result.andThen];exact hk g c' w' h2 h3 h4
theorem zj {w:World} {ops:Array Oper} {o:Oper} {a:Act} {K:Act→World→Prop} {Q:Exit→Act→World→Prop} {E0:Prop} (hgd:o.guard=none) (ho:o.op=.buildSlice 31 0 #[])
  (h:∀ E w',w.heap.size=E→w'.heap[E]? = some (.cells #[] 70 (0,0))→Below w.heap.size w w'→K (a.put o.dst (.slice (some ⟨E,0,none⟩) 0 0)) w') :
  if Region.wanted o (yielded ops a.tmps)=true then Oper.wp Tryz.prog o a w K Q else E0:=by
 have hw:Region.wanted o (yielded ops a.tmps)=true:=by simp[Region.wanted,hgd]
 rw[if_pos hw];have h1:=h w.heap.size (w.alloc (.cells #[] 70)) rfl (zad w _) ((Below.refl _ _).alloc (Nat.le_refl _) _);unfold Oper.wp;simp[execOp,ho,go_sem];exact h1
theorem zgw {w:World} {ops:Array Oper} {o:Oper} {a:Act} {K:Act→World→Prop} {Q:Exit→Act→World→Prop} {E0:Prop} (hgd:o.guard=none) (k:Nat) (ho:o.op=.buildSlice 43 1 #[(0,.tmp k)]) (nm:ByteArray) (sp:Option Addr) (n c:Nat) (hs:a.eval (.tmp k)=.agg #[.string nm,.slice sp n c])
  (h:∀ B w',w.heap.size=B→w'.heap[B]? = some (.cells #[.string nm,.slice sp n c] 54 (0,0))→Below w.heap.size w w'→K (a.put o.dst (.slice (some ⟨B,0,none⟩) 1 1)) w') :
  if Region.wanted o (yielded ops a.tmps)=true then Oper.wp Tryz.prog o a w K Q else E0:=by
 have hw:Region.wanted o (yielded ops a.tmps)=true:=by simp[Region.wanted,hgd]
 rw[if_pos hw];have h1:=h w.heap.size (w.alloc (.cells #[.string nm,.slice sp n c] 54)) rfl (zad w _) ((Below.refl _ _).alloc (Nat.le_refl _) _);have hs':a.tmps[k]?.getD undef=.agg #[.string nm,.slice sp n c]:=by simpa [go_sem] using hs
 unfold Oper.wp;simp[execOp,ho,go_sem,hs'];exact h1
def zem (r:Rt):List Value:=[.string r.h,.string r.p,.string r.l]
def zel (l:List Rt):List Value:=l.flatMap zem
theorem zd9:∀ (xs:List Rt) (i f:Nat) (hi:i<xs.length) (_:f<3),(zel xs)[i*3+f]? = (zem xs[i])[f]?
 |[],i,_,hi,_=>by simp at hi
 |x::xs,0,f,_,hf=>by
  simp only[zel,List.flatMap_cons,Nat.zero_mul,Nat.zero_add,List.getElem_cons_zero];rw[List.getElem?_append_left (show f<(zem x).length from hf)]
 |x::xs,i+1,f,hi,hf=>by
  have ih:=zd9 xs i f (by simpa using hi) hf;simp only[zel,List.flatMap_cons,List.getElem_cons_succ] at ih ⊢;rw[List.getElem?_append_right (by rw[show(zem x).length=3 from rfl];omega)];have e4:(i+1)*3+f - (zem x).length=i*3+f:=by rw[show(zem x).length=3 from rfl];omega
  rw[e4];exact ih
theorem zhe (l:List Rt):∀ u∈zel l,u.oneCell'=true:=by
 intro u hu;obtain⟨t,_,ht⟩:=List.mem_flatMap.1 hu;simp only[zem,List.mem_cons,List.not_mem_nil,or_false] at ht;rcases ht with rfl|rfl|rfl <;> rfl
theorem zna:(Tryz.prog.info? 56).map (fun i=>(i.zero,i.size,i.bytes))=some (some (.agg #[.string ByteArray.empty,.string ByteArray.empty,.string ByteArray.empty]),3,48):=by kernel_rfl
theorem zoc {j k n:Nat} (hk:0<k) (h:j<n*k):∃ i f,i<n∧f<k∧j=i*k+f :=
 ⟨j / k,j % k,(Nat.div_lt_iff_lt_mul hk).2 h,Nat.mod_lt _ hk,by rw[Nat.mul_comm];exact(Nat.div_add_mod j k).symm⟩
theorem zhc {E:Nat} {w:World} {g c:Nat} {l:List Rt} (h:w.ownsRow E 56 3 (.slice (some ⟨g,0,none⟩) l.length c) l.length (zel l)) (hs:∀ r∈l,r.h.size≤maxLen∧r.p.size≤maxLen∧r.l.size≤maxLen):RtsAt w (some ⟨g,0,none⟩) l∧l.length≤c:=by
 rcases h.2 with⟨hv,h0⟩|⟨g',cap,cur,hv,hb,hg,hle,hmx,hsz,ht⟩
 ·cases hv
 ·simp only[Value.slice.injEq,Option.some.injEq,Addr.mk.injEq,and_true,true_and] at hv;obtain⟨rfl,rfl⟩:=hv;have one:∀ i (hi:i<l.length) f,f<3→w.cell? ⟨g,0+i*3+f,none⟩=(zem l[i])[f]?:=fun i hi f hf=>by
   have hk:=zd9 l i f hi hf;rw[Nat.zero_add,cell_of_row w g _ cur _ _ hg,← Array.getElem?_toList];have hj:i*3+f<l.length*3:=by omega
   rw[← ht,List.getElem?_take,if_pos hj] at hk;exact hk
  exact⟨⟨hs,fun i hi=>⟨g,0,rfl,one i hi 0 (by omega),one i hi 1 (by omega),one i hi 2 (by omega)⟩⟩,hle⟩
theorem TgsAt.news {w:World} {a:Option Addr} {l:List Tg} (h:TgsAt w a l) (b:Addr) (hb:a=some b):∀ j u,(zgs l)[j]? = some u→w.cell? (b.add j)=some u:=by
 intro j u hu;have hj:j<l.length*2:=by rw[← zcy];exact(List.getElem?_eq_some_iff.1 hu).1
 obtain⟨i,f,hi,hf,rfl⟩:=zoc (by omega) hj;rw[zff l i f hi hf] at hu;obtain⟨b',off,e,h0,h1⟩:=h.cell i hi;rw[hb] at e;cases e
 have hf':f=0∨f=1:=by omega
 rw[Addr.add_lit,← Nat.add_assoc];rcases hf' with rfl|rfl
 ·rw[show u=.string l[i].1 from by simpa [zg5] using hu.symm];exact h0
 ·rw[show u=.float .f64 l[i].2 from by simpa [zg5] using hu.symm];exact h1
theorem TgsAt.nil {w:World} {l:List Tg} (h:TgsAt w none l):l.length=0:=by
 rcases Nat.eq_zero_or_pos l.length with h0|h0
 ·exact h0
 ·obtain⟨b,off,e,_⟩:=h.cell 0 h0;cases e
theorem zdt.is {base:Nat} {w:World} {g c:Nat} {l:List Tg} (h:zdt base w (some ⟨g,0,none⟩) c l):base≤g∧g<w.heap.size∧l.length≤c:=by
 rcases h.2 with⟨hv,h0⟩|⟨g',cap,cur,hv,hbg,hg,hle,r⟩
 ·cases hv
 ·simp only[Value.slice.injEq,Option.some.injEq,Addr.mk.injEq,and_true,true_and] at hv;obtain⟨rfl,rfl⟩:=hv;exact⟨hbg,(Array.getElem?_eq_some_iff.1 hg).1,hle⟩
theorem zdt.low {base base':Nat} {w:World} {sp:Option Addr} {c:Nat} {l:List Tg} (h:zdt base w sp c l) (hb:base'≤base):zdt base' w sp c l:=⟨h.1,h.2.imp id (fun ⟨g,cap,cur,h1,h2,h3⟩=>⟨g,cap,cur,h1,Nat.le_trans hb h2,h3⟩)⟩
theorem zm9:(Tryz.prog.info? 54).map (fun i=>(i.zero,i.size,i.bytes))=some (some (.agg #[.string ByteArray.empty,.slice none 0 0]),2,40):=by kernel_rfl
theorem zai {V W U:World} {C:Nat} (h:V.grownBy W (some C)) (hb:Below V.heap.size W U):V.grownBy U (some C) :=
 ⟨hb.os.trans h.os,hb.tape.trans h.tape,hb.output.trans h.output,Nat.le_trans h.size hb.size,fun k hk hne=>(hb.block k hk).trans (h.block k hk hne)⟩
theorem zah {V W U:World} {C:Nat} (h:V.grownBy W (some C)) (k:W.grownBy U (some C)):V.grownBy U (some C) :=
 ⟨k.os.trans h.os,k.tape.trans h.tape,k.output.trans h.output,Nat.le_trans h.size k.size,fun i hi hne=>(k.block i (Nat.lt_of_lt_of_le hi h.size) hne).trans (h.block i hi hne)⟩
theorem zic {w:World} {ops:Array Oper} {o:Oper} {rest:List Oper} {a:Act} {Q:Exit→Act→World→Prop} (hgd:o.guard=none) (s x:Operand) (t e:TypeId)
  (ho:o.op=.call { callee:=.builtin .append,args:=#[s,x],argTypes:=#[t,t] })
  (i:TypeInfo) (z:Value) (size bytes:Nat) (ht:Tryz.prog.underlying t=some (.slice e)) (hi:Tryz.prog.info? e=some i) (hz:i.zero=some z) (hsize:i.size=size) (hby:i.bytes=bytes) (hzs:z.cells.size=size) (hsz:0<size)
  (E:Nat) (hs:a.eval s=.slice (some ⟨E,0,none⟩) 0 0) (hE:w.heap[E]? = some (.cells #[] e (0,0))) (ad:Option Addr) (m c:Nat) (hx:a.eval x=.slice ad m c) (hn:ad=none→m=0∧c=0) (news:List Value) (hl:news.length=m*size)
  (hnews:∀ b,ad=some b→∀ j u,news[j]? = some u→w.cell? (b.add j)=some u) (h1:∀ u∈news,u.oneCell'=true) (hm:m≤1000) (hbytes:m*bytes≤140737488355328)
  (hk:∀ g c' w',w'.ownsRow E e size (.slice (some ⟨g,0,none⟩) m c') m news→w.grownBy w' (some E)→(g=E∨g=w.heap.size)→wpList Tryz.prog ops Q rest (a.put o.dst (.slice (some ⟨g,0,none⟩) m c')) w') :
  wpList Tryz.prog ops Q (o::rest) a w:=by
 refine wpList_plain hgd fun K hK=>?_;obtain⟨g,c',w',hrun,h2,h3,h4⟩:=zhf t o.type e i z size bytes ht hi hz hsize hby hzs hsz E hE ad m c hn news hl hnews h1 hm hbytes;unfold Oper.wp;simp[execOp,ho,resolve,invoke,builtin,hs,hx,hrun,Result.andThen];exact hK _ _ (hk g c' w' h2 h3 h4)
theorem zjh (ad:Addr) (n c:Nat) (w:World):(binOp .eql 31 (.slice (some ad) n c) (.slice none 0 0)).run Tryz.prog w=.ok (.bool false) w:=by kernel_rfl
theorem zjg (n c:Nat) (w:World):(binOp .eql 31 (.slice none n c) (.slice none 0 0)).run Tryz.prog w=.ok (.bool true) w:=by kernel_rfl
theorem zdy (w:World) (a:Option Addr) (c:Nat) (l:List Tg) (h:TgsAt w a l) (hm:l.length≤1000) :
  Calls Tryz.prog 85 #[.slice a l.length c] w fun e w'=>∃ a' c',e=.returned (.slice a' l.length c')∧zdt w.heap.size w' a' c' l∧Below w.heap.size w w':=by
 cases a with
 |none =>
  have h0:=h.nil;obtain rfl:=List.eq_nil_of_length_eq_zero h0;have hq:=zjg 0 c w;have H:=zaa h;clear h h0 hm;simp only[List.length_nil];go_enter Tryz.func85,Tryz.ntmps85
  go_wp2
  go_ret
  exact⟨none,0,rfl,zdt.ofNil _ _,Below.refl _ _⟩
 |some ad =>
  have hq:=zjh ad l.length c w;have b1:=zaa (show Below w.heap.size w (w.alloc (.cells #[] 70)) from(Below.refl _ _).alloc (Nat.le_refl _) _);have H1:=zaa (h.later (za b1));have HL:=zaa hm;have HI:=znr;obtain⟨i0,hi,hio⟩:=Option.map_eq_some_iff.1 HI;simp only[Prod.mk.injEq] at hio;obtain⟨i1,i2,i3⟩:=hio;have I0:=zaa hi;have I1:=zaa i1;have I2:=zaa i2;have I3:=zaa i3;clear h hm HI hi i1 i2 i3;go_enter Tryz.func85,Tryz.ntmps85
  go_wp2_with (at_builtin;refine za ?_)
  refine zaa ?_;refine zic rfl (.tmp 5) (.tmp 6) 31 70 rfl i0 _ 2 24 Tryz.underlying31 (za I0) (za I1) (za I2) (za I3) rfl (by omega) w.heap.size rfl (zad w _) (some ad) l.length c rfl (fun e=>by cases e) (zgs l) (zcy l) (za H1).news (zfs l) (za HL) (by have:=za HL;omega) ?_;intro g c' W2 ho hg hge;have B2:=zaa ((za b1).grown hg (za b1).size (fun g hg=>by have:=Option.some.inj hg;omega));have O2:=zaa (show zdt w.heap.size W2 (some ⟨g,0,none⟩) c' l from ho);have GE:=zaa (show w.heap.size≤g by rcases hge with e|e <;> have:=(za b1).size <;> omega);clear ho hg hge
  go_wp2
  go_ret
  exact⟨some ⟨g,0,none⟩,c',rfl,za O2,za B2⟩
structure Pr where
 nm:ByteArray
 ta:Option Addr
 tn:Nat
 tc:Nat
def zex (x:Pr):List Value:=[.string x.nm,.slice x.ta x.tn x.tc]
def zco (l:List Pr):List Value:=l.flatMap zex
theorem zeg:∀ (xs:List Pr) (i f:Nat) (hi:i<xs.length) (_:f<2),(zco xs)[i*2+f]? = (zex xs[i])[f]?
 |[],i,_,hi,_=>by simp at hi
 |x::xs,0,f,_,hf=>by
  simp only[zco,List.flatMap_cons,Nat.zero_mul,Nat.zero_add,List.getElem_cons_zero];rw[List.getElem?_append_left (show f<(zex x).length from hf)]
 |x::xs,i+1,f,hi,hf=>by
  have ih:=zeg xs i f (by simpa using hi) hf;simp only[zco,List.flatMap_cons,List.getElem_cons_succ] at ih ⊢;rw[List.getElem?_append_right (by rw[show(zex x).length=2 from rfl];omega)];have e4:(i+1)*2+f - (zex x).length=i*2+f:=by rw[show(zex x).length=2 from rfl];omega
  rw[e4];exact ih
theorem zhd (l:List Pr):∀ u∈zco l,u.oneCell'=true:=by
 intro u hu;obtain⟨x,_,hx⟩:=List.mem_flatMap.1 hu;simp only[zex,List.mem_cons,List.not_mem_nil,or_false] at hx;rcases hx with rfl|rfl <;> rfl
def zbb (base:Nat) (w:World) (sp:Option Addr) (c:Nat) (l:List Pr):Prop:=w.ownsRow base 54 2 (.slice sp l.length c) l.length (zco l)
theorem zbb.ofNil (base:Nat) (w:World):zbb base w none 0 []:=w.ownsRow_nil base 54 2
theorem zdt.keep {base:Nat} {w w':World} {sp:Option Addr} {c:Nat} {l:List Tg} (h:zdt base w sp c l) (hb:∀ g,sp.map (·.block)=some g→base≤g→g<w.heap.size→w'.heap[g]? = w.heap[g]?):zdt base w' sp c l:=by
 refine⟨h.1,?_⟩;rcases h.2 with hv|⟨g',cap,cur,hv,hbg,hg,r⟩
 ·exact .inl hv
 ·have hv':=hv;simp only[Value.slice.injEq] at hv';obtain⟨rfl,_⟩:=hv';exact .inr ⟨g',cap,cur,hv,hbg,(hb g' rfl hbg (Array.getElem?_eq_some_iff.1 hg).1).trans hg,r⟩
theorem zdt.cap {base:Nat} {w:World} {sp:Option Addr} {c:Nat} {l:List Tg} (h:zdt base w sp c l):l.length≤c∧(sp=none→c=0):=by
 rcases h.2 with⟨hv,h0⟩|⟨g',cap,cur,hv,hbg,hg',hle,r⟩
 ·simp only[Value.slice.injEq] at hv;exact⟨by omega,fun _=>hv.2.2⟩
 ·simp only[Value.slice.injEq] at hv;obtain⟨rfl,_,rfl⟩:=hv;exact⟨hle,fun e=>by cases e⟩
end
section
class Kord (κ:Type) where
 lt:κ→κ→Prop
 irr:∀ a,¬ lt a a
 tr:∀ {a b c},lt a b→lt b c→lt a c
 tri:∀ a b,lt a b∨a=b∨lt b a
 dlt:∀ a b,Decidable (lt a b)
 deq:DecidableEq κ
instance instDlt {κ:Type} [Kord κ] (a b:κ):Decidable (Kord.lt a b):=Kord.dlt a b
instance instDeq {κ:Type} [Kord κ]:DecidableEq κ:=Kord.deq
theorem zdw {a b:ByteArray} (h:a.data.toList=b.data.toList):a=b:=by
 cases a;cases b;simp only[ByteArray.mk.injEq] at *;exact Array.toList_inj.1 h
instance:Kord ByteArray where
 lt a b:=a.data.toList<b.data.toList
 irr a:=List.lt_irrefl _
 tr h k:=List.lt_trans h k
 tri a b:=by
  by_cases h:a.data.toList<b.data.toList
  ·exact .inl h
  ·by_cases k:b.data.toList<a.data.toList
   ·exact .inr (.inr k)
   ·exact .inr (.inl (zdw (List.le_antisymm (List.not_lt.1 k) (List.not_lt.1 h))))
 dlt a b:=inferInstanceAs (Decidable (a.data.toList<b.data.toList))
 deq:=inferInstance
instance:Kord Nat where
 lt a b:=a<b
 irr:=Nat.lt_irrefl
 tr h k:=Nat.lt_trans h k
 tri:=Nat.lt_trichotomy
 dlt a b:=inferInstanceAs (Decidable (a<b))
 deq:=inferInstance
instance {α β:Type} [Kord α] [Kord β]:Kord (α×β) where
 lt a b:=Kord.lt a.1 b.1∨(a.1=b.1∧Kord.lt a.2 b.2)
 irr a h:=h.elim (Kord.irr _) (fun k=>Kord.irr _ k.2)
 tr:=by
  rintro a b c (h|⟨e,h⟩) (k|⟨f,k⟩)
  ·exact .inl (Kord.tr h k)
  ·exact .inl (f ▸ h)
  ·exact .inl (by rw[e];exact k)
  ·exact .inr ⟨e.trans f,Kord.tr h k⟩
 tri a b:=by
  rcases Kord.tri a.1 b.1 with h|h|h
  ·exact .inl (.inl h)
  ·rcases Kord.tri a.2 b.2 with k|k|k
   ·exact .inl (.inr ⟨h,k⟩)
   ·exact .inr (.inl (Prod.ext h k))
   ·exact .inr (.inr (.inr ⟨h.symm,k⟩))
  ·exact .inr (.inr (.inl h))
 dlt a b:=inferInstanceAs (Decidable (Kord.lt a.1 b.1∨(a.1=b.1∧Kord.lt a.2 b.2)))
 deq:=inferInstance
section
variable {κ α β:Type} [Kord κ]
def Kr (fs:List (κ×α)):Prop:=fs.Pairwise (fun x y=>Kord.lt x.1 y.1)
def zgl (k:κ) (v:α):List (κ×α)→List (κ×α)
 |[]=>[(k,v)]
 |x::r=>if Kord.lt x.1 k then x::zgl k v r else if x.1=k then (k,v)::r else (k,v)::x::r
def zlv (k:κ) (fs:List (κ×α)):List (κ×α):=fs.filter (fun x=>decide (x.1≠k))
def zif (k:κ):List (κ×α)→Option α
 |[]=>none
 |x::r=>if x.1=k then some x.2 else zif k r
theorem Kr.nodup {fs:List (κ×α)} (h:Kr fs):(fs.map (·.1)).Nodup:=by
 rw[List.Nodup,List.pairwise_map];refine List.Pairwise.imp ?_ (show fs.Pairwise (fun x y=>Kord.lt x.1 y.1) from h);intro a b hab e;rw[e] at hab;exact Kord.irr _ hab
theorem Kr.one {fs:List (κ×α)} (h:Kr fs) {x y:κ×α} (hx:x∈fs) (hy:y∈fs) (e:x.1=y.1):x=y:=by
 induction fs with
 |nil=>simp at hx
 |cons z r ih =>
  have h1:=List.pairwise_cons.1 h;rcases List.mem_cons.1 hx with hx|hx <;> rcases List.mem_cons.1 hy with hy|hy
  ·rw[hx,hy]
  ·exact absurd (show Kord.lt y.1 y.1 by have:=h1.1 y hy;rw[← hx,e] at this;exact this) (Kord.irr _)
  ·exact absurd (show Kord.lt y.1 y.1 by have:=h1.1 x hx;rw[← hy,e] at this;exact this) (Kord.irr _)
  ·exact ih h1.2 hx hy
theorem zch {k:κ} {v:α} : ∀ {fs:List (κ×α)},Kr fs→∀ y,y∈zgl k v fs↔(y=(k,v)∨(y∈fs∧y.1≠k))
 |[],_,y=>by simp[zgl]
 |x::r,h,y=>by
  have h1:=List.pairwise_cons.1 h;have hr:∀ {z},z∈r→¬ Kord.lt x.1 k→z.1≠k:=fun {z} hz hn e=>hn (e ▸ h1.1 z hz);unfold zgl;by_cases h2:Kord.lt x.1 k
  ·rw[if_pos h2,List.mem_cons,zch h1.2 y,List.mem_cons];have:x.1≠k:=fun e=>Kord.irr _ (e ▸ h2);constructor
   ·rintro(rfl|h|h)
    ·exact .inr ⟨.inl rfl,this⟩
    ·exact .inl h
    ·exact .inr ⟨.inr h.1,h.2⟩
   ·rintro(h|⟨rfl|h,hk⟩)
    ·exact .inr (.inl h)
    ·exact .inl rfl
    ·exact .inr (.inr ⟨h,hk⟩)
  ·rw[if_neg h2];by_cases h3:x.1=k
   ·rw[if_pos h3,List.mem_cons,List.mem_cons];constructor
    ·rintro(h|h)
     ·exact .inl h
     ·exact .inr ⟨.inr h,hr h h2⟩
    ·rintro(h|⟨rfl|h,hk⟩)
     ·exact .inl h
     ·exact absurd h3 hk
     ·exact .inr h
   ·rw[if_neg h3,List.mem_cons,List.mem_cons];constructor
    ·rintro(h|rfl|h)
     ·exact .inl h
     ·exact .inr ⟨.inl rfl,h3⟩
     ·exact .inr ⟨.inr h,hr h h2⟩
    ·rintro(h|⟨h,hk⟩)
     ·exact .inl h
     ·exact .inr h
theorem Kr.put {fs:List (κ×α)} (h:Kr fs) (k:κ) (v:α):Kr (zgl k v fs):=by
 induction fs with
 |nil=>exact List.pairwise_singleton _ _
 |cons x r ih =>
  have h1:=List.pairwise_cons.1 h;unfold zgl;by_cases h2:Kord.lt x.1 k
  ·rw[if_pos h2];refine List.pairwise_cons.2 ⟨fun y hy=>?_,ih h1.2⟩;rcases(zch h1.2 y).1 hy with rfl|⟨hy,_⟩
   ·exact h2
   ·exact h1.1 y hy
  ·rw[if_neg h2];by_cases h3:x.1=k
   ·rw[if_pos h3];exact List.pairwise_cons.2 ⟨fun y hy=>by have:=h1.1 y hy;rw[h3] at this;exact this,h1.2⟩
   ·rw[if_neg h3];have h4:Kord.lt k x.1:=((Kord.tri x.1 k).resolve_left h2).resolve_left h3;refine List.pairwise_cons.2 ⟨fun y hy=>?_,h⟩;rcases List.mem_cons.1 hy with rfl|hy
    ·exact h4
    ·exact Kord.tr h4 (h1.1 y hy)
theorem Kr.del {fs:List (κ×α)} (h:Kr fs) (k:κ):Kr (zlv k fs):=h.sublist List.filter_sublist
theorem zee {fs:List (κ×α)} {k:κ} (y:κ×α):y∈zlv k fs↔(y∈fs∧y.1≠k):=by simp[zlv]
theorem zgm {k:κ} {v:α} : ∀ {fs:List (κ×α)},Kr fs→(zgl k v fs).length=if k∈fs.map (·.1) then fs.length else fs.length+1
 |[],_=>by simp[zgl]
 |x::r,h=>by
  have h1:=List.pairwise_cons.1 h;have ih:=zgm (k:=k) (v:=v) h1.2;unfold zgl;by_cases h2:Kord.lt x.1 k
  ·have h3:k≠x.1:=fun e=>Kord.irr _ (e ▸ h2);rw[if_pos h2,List.length_cons,ih];simp only[List.map_cons,List.mem_cons,h3,false_or,List.length_cons];split <;> rfl
  ·rw[if_neg h2];by_cases h3:x.1=k
   ·rw[if_pos h3];simp[h3]
   ·rw[if_neg h3];have h4:k ∉ (x::r).map (·.1):=by
     intro hm;simp only[List.map_cons,List.mem_cons] at hm;rcases hm with e|hm
     ·exact h3 e.symm
     ·obtain⟨z,hz,e⟩:=List.mem_map.1 hm;exact h2 (e ▸ h1.1 z hz)
    rw[if_neg h4];rfl
theorem zgj {k:κ} : ∀ {fs:List (κ×α)},Kr fs→(zlv k fs).length+(if k∈fs.map (·.1) then 1 else 0)=fs.length
 |[],_=>by simp[zlv]
 |x::r,h=>by
  have h1:=List.pairwise_cons.1 h;have ih:=zgj (k:=k) h1.2;unfold zlv at ih ⊢;rw[List.filter_cons];by_cases h3:x.1=k
  ·have h4:k ∉ r.map (·.1):=fun hm=>by
    obtain⟨z,hz,e⟩:=List.mem_map.1 hm;have:=h1.1 z hz;rw[e,h3] at this;exact Kord.irr _ this
   rw[if_neg h4] at ih;simp[h3] at ih ⊢;exact ih
  ·have h5:(k=x.1)=False:=by simp;exact fun e=>h3 e.symm
   rw[if_pos (by simpa using h3)];simp only[List.length_cons,List.map_cons,List.mem_cons,h5,false_or];omega
theorem ze3 {k:κ} : ∀ {fs:List (κ×α)},zif k fs=none↔k ∉ fs.map (·.1)
 |[]=>by simp[zif]
 |x::r=>by
  unfold zif;by_cases h:x.1=k
  ·simp[h]
  ·rw[if_neg h,ze3];have:¬ k=x.1:=fun e=>h e.symm;simp only[List.map_cons,List.mem_cons,this,false_or]
theorem zf4 {k:κ} {v:α} : ∀ {fs:List (κ×α)},zif k fs=some v→(k,v)∈fs
 |[],h=>by simp[zif] at h
 |x::r,h=>by
  unfold zif at h;by_cases e:x.1=k
  ·rw[if_pos e] at h;cases h
   rw[← e];exact List.mem_cons_self
  ·rw[if_neg e] at h;exact List.mem_cons_of_mem _ (zf4 h)
theorem Kr.get {fs:List (κ×α)} (h:Kr fs) {k:κ} {v:α} (hm:(k,v)∈fs):zif k fs=some v:=by
 cases e:zif k fs with
 |none=>exact absurd (List.mem_map.2 ⟨_,hm,rfl⟩) (ze3.1 e)
 |some u =>
  have:=h.one hm (zf4 e) rfl;simp only[Prod.mk.injEq,true_and] at this;rw[this]
theorem Kr.ext:∀ {fs gs:List (κ×α)},Kr fs→Kr gs→(∀ y,y∈fs↔y∈gs)→fs=gs
 |[],[],_,_,_=>rfl
 |[],y::r,_,_,h=>by have:=(h y).2 List.mem_cons_self;simp at this
 |x::r,[],_,_,h=>by have:=(h x).1 List.mem_cons_self;simp at this
 |x::r,y::s,h1,h2,h=>by
  have a1:=List.pairwise_cons.1 h1;have a2:=List.pairwise_cons.1 h2;have hxy:x=y:=by
   rcases List.mem_cons.1 ((h x).1 List.mem_cons_self) with e|e
   ·exact e
   ·rcases List.mem_cons.1 ((h y).2 List.mem_cons_self) with f|f
    ·exact f.symm
    ·exact absurd (Kord.tr (a2.1 _ e) (a1.1 _ f)) (Kord.irr _)
  subst hxy;rw[Kr.ext a1.2 a2.2 (fun z=>?_)];constructor
  ·intro hz;rcases List.mem_cons.1 ((h z).1 (List.mem_cons_of_mem _ hz)) with e|e
   ·subst e;exact absurd (a1.1 _ hz) (Kord.irr _)
   ·exact e
  ·intro hz;rcases List.mem_cons.1 ((h z).2 (List.mem_cons_of_mem _ hz)) with e|e
   ·subst e;exact absurd (a2.1 _ hz) (Kord.irr _)
   ·exact e
theorem zg9 {k:κ} {v:α} : ∀ {fs:List (κ×α)},Kr fs→zgl k v fs=fs.filter (fun x=>decide (Kord.lt x.1 k))++(k,v)::fs.filter (fun x=>decide (Kord.lt k x.1))
 |[],_=>rfl
 |x::r,h=>by
  have h1:=List.pairwise_cons.1 h;unfold zgl;by_cases h2:Kord.lt x.1 k
  ·have h3:¬ Kord.lt k x.1:=fun e=>Kord.irr _ (Kord.tr h2 e);rw[if_pos h2,zg9 h1.2,List.filter_cons_of_pos (by simpa using h2),List.filter_cons_of_neg (by simpa using h3)];rfl
  ·have h4:∀ y∈r,¬ Kord.lt y.1 k:=fun y hy e=>h2 (Kord.tr (h1.1 y hy) e);have h5:r.filter (fun x=>decide (Kord.lt x.1 k))=[]:=by
    rw[List.filter_eq_nil_iff];intro y hy;simpa using h4 y hy
   rw[if_neg h2,List.filter_cons_of_neg (by simpa using h2),h5,List.nil_append];by_cases h3:x.1=k
   ·have h6:∀ y∈r,Kord.lt k y.1:=fun y hy=>h3 ▸ h1.1 y hy;have h7:r.filter (fun x=>decide (Kord.lt k x.1))=r:=by
     rw[List.filter_eq_self];intro y hy;simpa using h6 y hy
    rw[if_pos h3,List.filter_cons_of_neg (by rw[h3];simpa using Kord.irr k),h7]
   ·have h8:Kord.lt k x.1:=((Kord.tri x.1 k).resolve_left h2).resolve_left h3;have h7:r.filter (fun x=>decide (Kord.lt k x.1))=r:=by
     rw[List.filter_eq_self];intro y hy;simpa using Kord.tr h8 (h1.1 y hy)
    rw[if_neg h3,List.filter_cons_of_pos (by simpa using h8),h7]
theorem zlw {k:κ} {v:α} {fs:List (κ×α)} (h:Kr fs):zgl k v (zlv k fs)=zgl k v fs:=by
 refine Kr.ext ((h.del k).put k v) (h.put k v) (fun y=>?_);rw[zch (h.del k),zch h,zee];constructor
 ·rintro(e|⟨⟨a,b⟩,_⟩)
  ·exact .inl e
  ·exact .inr ⟨a,b⟩
 ·rintro(e|⟨a,b⟩)
  ·exact .inl e
  ·exact .inr ⟨⟨a,b⟩,b⟩
end
end
section
open Go.ChangeShapes Go.WideShapes Go.ChangeAt Go.RowKit
theorem zc1 {w:World} {ops:Array Oper} {rest:List Oper} {o:Oper} {a:Act} {Q:Exit→Act→World→Prop} (hgd:o.guard=none) (s x:Operand) (t e:TypeId)
  (ho:o.op=.call { callee:=.builtin .append,args:=#[s,x],argTypes:=#[t,t] })
  {zv:Value} {size bytes:Nat} (hi:(Tryz.prog.info? e).map (fun i=>(i.zero,i.size,i.bytes))=some (some zv,size,bytes)) (ht:Tryz.prog.underlying t=some (.slice e)) (hzs:zv.cells.size=size) (hsz:0<size)
  (base:Nat) (sp:Option Addr) (n c:Nat) (xs:List Value) (hs:a.eval s=.slice sp n c) (hown:w.ownsRow base e size (.slice sp n c) n xs)
  (B:Nat) (row:List Value) (hx:a.eval x=.slice (some ⟨B,0,none⟩) 1 1) (hB:w.heap[B]? = some (.cells row.toArray e (0,0))) (hrl:row.length=1*size) (h1:∀ u∈row,u.oneCell'=true) (hbytes:(n+1)*bytes≤140737488355328) (hn:n≤1000000) (hbase:base≤w.heap.size)
  (hk:∀ sp' c' w',w'.ownsRow base e size (.slice sp' (n+1) c') (n+1) (xs++row)→w.grownBy w' (blk sp)→wpList Tryz.prog ops Q rest (a.put o.dst (.slice sp' (n+1) c')) w') :
  wpList Tryz.prog ops Q (o::rest) a w:=by
 obtain⟨i0,hi',hz0,hz1,hz2⟩:=info_parts hi;refine wpList_plain hgd fun K hK=>?_;obtain⟨v',w',hrun,g1,g2,g3⟩:=run_append_own (P:=Tryz.prog) w base t o.type e i0 zv size bytes ht hi' hz0 hz1 hz2 hzs hsz _ _ _ hown ⟨B,0,none⟩ 1 1 row hrl
  (fun j u hu=>by
   rw[Addr.add_lit,Nat.zero_add,cell_of_row _ _ _ _ _ _ hB]
   rw[← hu,← Array.getElem?_toList]) h1 (by simp only[maxLen];omega) hbytes hbase
 have hv:∃ sp' c',v'=.slice sp' (n+1) c':=by
  rcases g1.2 with⟨hv,h0⟩|⟨g,cap,cur,hv,_⟩
  ·omega
  ·exact⟨_,_,hv⟩
 obtain⟨sp',c',rfl⟩:=hv;unfold Oper.wp;simp[execOp,ho,resolve,invoke,builtin,hs,hx,hrun,Result.andThen];exact hK _ _ (hk sp' c' w' g1 (by rw[← za9 sp n c];exact g2))
def zdg (base:Nat) (w:World) (sp:Option Addr) (c:Nat) (l:List Rt):Prop:=w.ownsRow base 56 3 (.slice sp l.length c) l.length (zel l)
theorem zdg.ofNil (base:Nat) (w:World):zdg base w none 0 []:=w.ownsRow_nil base 56 3
theorem zfa {w:World} {base E:Nat} {T:TypeId} (k:Nat) (hE:w.heap[E]? = some (.cells #[] T (0,0))) (hb:base≤E):w.ownsRow base T k (.slice (some ⟨E,0,none⟩) 0 0) 0 [] :=
 ⟨by simp,.inr ⟨E,0,#[],rfl,hb,hE,Nat.le_refl _,by simp[maxLen],by simp,by simp⟩⟩
theorem zf {base:Nat} {w:World} {T:TypeId} {k n c:Nat} {sp:Option Addr} {xs:List Value} (h:w.ownsRow base T k (.slice sp n c) n xs) (hn:0<n) :
  ∃ g,sp=some ⟨g,0,none⟩∧base≤g∧(∃ cur,w.heap[g]? = some (.cells cur T (0,0)))∧n≤c∧∀ j u,xs[j]? = some u→w.cell? ⟨g,j,none⟩=some u:=by
 rcases h.2 with⟨hv,h0⟩|⟨g,cap,cur,hv,hb,hg,hle,hmx,hsz,ht⟩
 ·omega
 ·simp only[Value.slice.injEq] at hv;obtain⟨rfl,_,rfl⟩:=hv;refine⟨g,rfl,hb,⟨cur,hg⟩,hle,fun j u hu=>?_⟩;have hj:j<n*k:=by
   have:=(List.getElem?_eq_some_iff.1 hu).1;rw[h.1] at this;exact this
  rw[cell_of_row w g _ cur _ _ hg,← Array.getElem?_toList,← hu,← ht,List.getElem?_take,if_pos hj]
theorem zdg.cell {base:Nat} {w:World} {sp:Option Addr} {c:Nat} {l:List Rt} (h:zdg base w sp c l) (i:Nat) (hi:i<l.length) :
  ∃ g,sp=some ⟨g,0,none⟩∧base≤g∧w.cell? ⟨g,i*3,none⟩=some (.string l[i].h)∧w.cell? ⟨g,i*3+1,none⟩=some (.string l[i].p)∧w.cell? ⟨g,i*3+2,none⟩=some (.string l[i].l):=by
 obtain⟨g,hs,hb,_,_,hc⟩:=zf h (by omega);exact⟨g,hs,hb,hc _ _ (zd9 l i 0 hi (by omega)),hc _ _ (zd9 l i 1 hi (by omega)),hc _ _ (zd9 l i 2 hi (by omega))⟩
theorem zbb.cell {base:Nat} {w:World} {sp:Option Addr} {c:Nat} {l:List Pr} (h:zbb base w sp c l) (i:Nat) (hi:i<l.length) :
  ∃ g,sp=some ⟨g,0,none⟩∧base≤g∧w.cell? ⟨g,i*2,none⟩=some (.string l[i].nm)∧w.cell? ⟨g,i*2+1,none⟩=some (.slice l[i].ta l[i].tn l[i].tc):=by
 obtain⟨g,hs,hb,_,_,hc⟩:=zf h (by omega);exact⟨g,hs,hb,hc _ _ (zeg l i 0 hi (by omega)),hc _ _ (zeg l i 1 hi (by omega))⟩
theorem zfq {base:Nat} {w w':World} {T:TypeId} {k n m c:Nat} {sp:Option Addr} {xs:List Value} (h:w.ownsRow base T k (.slice sp m c) n xs) (hg:w.grownBy w' (blk sp)) (hb:base≤w.heap.size):Below base w w':=by
 have hs:∀ r,blk sp=some r→base≤r:=by
  intro r hr;rcases h.2 with⟨hv,h0⟩|⟨g,cap,cur,hv,hbg,_⟩
  ·simp only[Value.slice.injEq] at hv;rw[hv.1] at hr;cases hr
  ·simp only[Value.slice.injEq] at hv;rw[hv.1] at hr;cases hr;exact hbg
 exact⟨hg.os,hg.tape,hg.output,hg.size,fun g hgl=>hg.block g (Nat.lt_of_lt_of_le hgl hb) (fun e=>by have:=hs g e.symm;omega)⟩
section
variable {α:Type}
theorem zbj (q:α→Bool) (l:List α) (j:Nat) (h:j<l.length):(l.take (j+1)).filter q=(l.take j).filter q++(if q l[j] then [l[j]] else []):=by
 rw[List.take_succ_eq_append_getElem h,List.filter_append];simp only[List.filter_cons,List.filter_nil]
theorem zax (q:α→Bool) (l:List α) (j:Nat):((l.take j).filter q).length≤j:=by
 have h1:=List.length_filter_le q (l.take j);have h2:(l.take j).length≤j:=by rw[List.length_take];omega
 omega
end
theorem zfn (a b:ByteArray):Op.bytesLess a.toList b.toList=decide (Kord.lt a b):=by
 rw[Go.Proofs.bytesLess_eq,ByteArray.toList_eq,ByteArray.toList_eq];rfl
theorem zb (a b:ByteArray):(a.toList==b.toList)=decide (a=b):=by
 rw[ByteArray.toList_eq,ByteArray.toList_eq,Bool.eq_iff_iff,beq_iff_eq,decide_eq_true_eq];exact⟨fun h=>zdw h,fun h=>by rw[h]⟩
theorem zae {base:Nat} {w w':World} {T:TypeId} {k n:Nat} {v:Value} {xs:List Value} (h:w.ownsRow base T k v n xs) (hb:Below w.heap.size w w'):w'.ownsRow base T k v n xs:=by
 refine⟨h.1,?_⟩;rcases h.2 with hv|⟨g,cap,cur,hv,hbg,hg,r⟩
 ·exact .inl hv
 ·exact .inr ⟨g,cap,cur,hv,hbg,(hb.block g (Array.getElem?_eq_some_iff.1 hg).1).trans hg,r⟩
theorem zcb {base base':Nat} {w:World} {T:TypeId} {k n:Nat} {v:Value} {xs:List Value} (h:w.ownsRow base T k v n xs) (hb:base'≤base):w.ownsRow base' T k v n xs :=
 ⟨h.1,h.2.imp id (fun ⟨g,cap,cur,h1,h2,h3⟩=>⟨g,cap,cur,h1,Nat.le_trans hb h2,h3⟩)⟩
theorem zav {w:World} {ops:Array Oper} {rest:List Oper} {o:Oper} {a:Act} {Q:Exit→Act→World→Prop} (hgd:o.guard=none) (s x:Operand)
  (ho:o.op=.call { callee:=.builtin .append,args:=#[s,x],argTypes:=#[42,42] }) (base:Nat) (sp:Option Addr) (n c:Nat) (l:List Rt) (hs:a.eval s=.slice sp n c) (hn:l.length=n) (hown:zdg base w sp c l)
  (B:Nat) (y:Rt) (hx:a.eval x=.slice (some ⟨B,0,none⟩) 1 1) (hB:w.heap[B]? = some (.cells (zem y).toArray 56 (0,0))) (hsz:n≤100000) (hbase:base≤w.heap.size)
  (h:∀ sp' c' w',zdg base w' sp' c' (l++[y])→Below base w w'→wpList Tryz.prog ops Q rest (a.put o.dst (.slice sp' (n+1) c')) w') :
  wpList Tryz.prog ops Q (o::rest) a w:=by
 subst hn;refine zc1 hgd s x _ _ ho zna Tryz.underlying42 rfl (by omega) base sp l.length c (zel l) hs hown B (zem y) hx hB rfl (fun u hu=>zhe [y] u (by simpa [zel] using hu)) (by omega) (by omega) hbase ?_;intro sp' c' w' h1 hg;refine h sp' c' w' ?_ (zfq hown hg hbase);unfold zdg;rw[List.length_append,show zel (l++[y])=zel l++zem y from by simp[zel]];exact h1
theorem zb8 {w:World} {ops:Array Oper} {rest:List Oper} {o:Oper} {a:Act} {Q:Exit→Act→World→Prop} (hgd:o.guard=none) (s x:Operand)
  (ho:o.op=.call { callee:=.builtin .append,args:=#[s,x],argTypes:=#[43,43] }) (base:Nat) (sp:Option Addr) (n c:Nat) (l:List Pr) (hs:a.eval s=.slice sp n c) (hn:l.length=n) (hown:zbb base w sp c l)
  (B:Nat) (y:Pr) (hx:a.eval x=.slice (some ⟨B,0,none⟩) 1 1) (hB:w.heap[B]? = some (.cells (zex y).toArray 54 (0,0))) (hsz:n≤100000) (hbase:base≤w.heap.size)
  (h:∀ sp' c' w',zbb base w' sp' c' (l++[y])→Below base w w'→wpList Tryz.prog ops Q rest (a.put o.dst (.slice sp' (n+1) c')) w') :
  wpList Tryz.prog ops Q (o::rest) a w:=by
 subst hn;refine zc1 hgd s x _ _ ho zm9 Tryz.underlying43 rfl (by omega) base sp l.length c (zco l) hs hown B (zex y) hx hB rfl (fun u hu=>zhd [y] u (by simpa [zco] using hu)) (by omega) (by omega) hbase ?_;intro sp' c' w' h1 hg;refine h sp' c' w' ?_ (zfq hown hg hbase);unfold zbb;rw[List.length_append,show zco (l++[y])=zco l++zex y from by simp[zco]];exact h1
end
end Go.Proofs.YtjcjleaicjhpeaaGreatDoor
