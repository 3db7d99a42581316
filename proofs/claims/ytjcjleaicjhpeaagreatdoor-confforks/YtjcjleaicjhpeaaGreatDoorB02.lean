/- Plane: rows copied into one's own. -/
import Derived.Test.YtjcjleaicjhpeaaGreatDoorB01
import Derived.Laws.OwnMore
set_option linter.unusedVariables false
set_option maxRecDepth 20000
set_option maxHeartbeats 16000000
namespace Go.Proofs.YtjcjleaicjhpeaaGreatDoor
open Go.ChangeShapes Go.WideShapes Go.ChangeAt Go.RowKit
theorem za0 (w:World) (j k:Nat) (v:Value):w.grownBy (w.setCell ⟨j,k,none⟩ v) (some j) :=
 ⟨rfl,rfl,rfl,by simp[World.setCell],fun i _ hne=>heap_setCell_other w ⟨j,k,none⟩ i v (fun e=>hne (by rw[e]))⟩
theorem zhl {w:World} (t ty e:TypeId) (i:TypeInfo) (z:Value) (size bytes:Nat) (ht:Tryz.prog.underlying t=some (.slice e)) (hi:Tryz.prog.info? e=some i) (hz:i.zero=some z) (hsize:i.size=size) (hby:i.bytes=bytes) (hzs:z.cells.size=size) (hsz:0<size)
  (E:Nat) (hE:w.heap[E]? = some (.cells #[] e (0,0))) (ad:Option Addr) (m c:Nat) (hn:ad=none→m=0∧c=0) (news:List Value) (hl:news.length=m*size)
  (hnews:∀ b,ad=some b→∀ j u,news[j]? = some u→w.cell? (b.add j)=some u) (h1:∀ u∈news,u.oneCell'=true) (hm:m≤1000) (hbytes:m*bytes≤140737488355328) :
  ∃ g c' w',(Builtin.append_ #[t,t] ty #[.slice (some ⟨E,0,none⟩) 0 0,.slice ad m c]).run Tryz.prog w=.ok (.slice (some ⟨g,0,none⟩) m c') w'∧w'.ownsRow E e size (.slice (some ⟨g,0,none⟩) m c') m news∧w.grownBy w' (some E)∧(g=E∨g=w.heap.size):=by
 have he:w.ownsRow E e size (.slice (some ⟨E,0,none⟩) 0 0) 0 []:=⟨by simp,.inr ⟨E,0,#[],rfl,Nat.le_refl _,hE,Nat.le_refl _,by simp[maxLen],by simp,by simp⟩⟩
 have hEl:E<w.heap.size:=(Array.getElem?_eq_some_iff.1 hE).1;cases ad with
 |none =>
  obtain⟨rfl,rfl⟩:=hn rfl;have hz:news=[]:=List.eq_nil_of_length_eq_zero (by simpa using hl);subst hz;have hrun:=run_append_owned_none (P:=Tryz.prog) (w:=w) E t ty e i size ht hi _ _ _ he;exact⟨E,0,w,hrun,he,zaw _ _,.inl rfl⟩
 |some b =>
  obtain⟨v',w',hrun,h2,h3,h4,h5⟩:=run_append_own_at (P:=Tryz.prog) w E t ty e i z size bytes ht hi hz hsize hby hzs hsz _ _ _ he b m c news hl (hnews b rfl) h1 (by simp only[maxLen];omega) (by rw[Nat.zero_add];exact hbytes) (by omega);rcases h2.2 with⟨hv,h0⟩|⟨g,cap,cur,hv,r⟩
  ·have:=(h4.1 hv).1;cases this
  ·subst hv;rw[Nat.zero_add,List.nil_append] at h2;exact⟨g,cap,w',by rw[hrun,Nat.zero_add],h2,h3,h5.imp (fun e=>Option.some.inj e) (fun e=>Option.some.inj e)⟩
theorem zat {w:World} {ops:Array Oper} {o:Oper} {a:Act} {K:Act→World→Prop} {Q:Exit→Act→World→Prop} {E0:Prop} (hgd:o.guard=none) (s x:Operand) (t e:TypeId)
  (ho:o.op=.call { callee:=.builtin .append,args:=#[s,x],argTypes:=#[t,t] })
  (i:TypeInfo) (z:Value) (size bytes:Nat) (ht:Tryz.prog.underlying t=some (.slice e)) (hi:Tryz.prog.info? e=some i) (hz:i.zero=some z) (hsize:i.size=size) (hby:i.bytes=bytes) (hzs:z.cells.size=size) (hsz:0<size)
  (E:Nat) (hs:a.eval s=.slice (some ⟨E,0,none⟩) 0 0) (hE:w.heap[E]? = some (.cells #[] e (0,0))) (ad:Option Addr) (m c:Nat) (hx:a.eval x=.slice ad m c) (hn:ad=none→m=0∧c=0) (news:List Value) (hl:news.length=m*size)
  (hnews:∀ b,ad=some b→∀ j u,news[j]? = some u→w.cell? (b.add j)=some u) (h1:∀ u∈news,u.oneCell'=true) (hm:m≤1000) (hbytes:m*bytes≤140737488355328)
  (hk:∀ g c' w',w'.ownsRow E e size (.slice (some ⟨g,0,none⟩) m c') m news→w.grownBy w' (some E)→(g=E∨g=w.heap.size)→K (a.put o.dst (.slice (some ⟨g,0,none⟩) m c')) w') :
  if Region.wanted o (yielded ops a.tmps)=true then Oper.wp Tryz.prog o a w K Q else E0:=by
 have hw:Region.wanted o (yielded ops a.tmps)=true:=by simp[Region.wanted,hgd]
 rw[if_pos hw];obtain⟨g,c',w',hrun,h2,h3,h4⟩:=zhl t o.type e i z size bytes ht hi hz hsize hby hzs hsz E hE ad m c hn news hl hnews h1 hm hbytes;unfold Oper.wp;simp[execOp,ho,resolve,invoke,builtin,hs,hx,hrun,Result.andThen];exact hk g c' w' h2 h3 h4
theorem zjb {w:World} {ops:Array Oper} {o:Oper} {a:Act} {K:Act→World→Prop} {Q:Exit→Act→World→Prop} {E0:Prop} (hgd:o.guard=none) (ho:o.op=.buildSlice 42 0 #[])
  (h:∀ E w',w.heap.size=E→w'.heap[E]? = some (.cells #[] 56 (0,0))→Below w.heap.size w w'→K (a.put o.dst (.slice (some ⟨E,0,none⟩) 0 0)) w') :
  if Region.wanted o (yielded ops a.tmps)=true then Oper.wp Tryz.prog o a w K Q else E0:=by
 have hw:Region.wanted o (yielded ops a.tmps)=true:=by simp[Region.wanted,hgd]
 rw[if_pos hw];have h1:=h w.heap.size (w.alloc (.cells #[] 56)) rfl (zad w _) ((Below.refl _ _).alloc (Nat.le_refl _) _);unfold Oper.wp;simp[execOp,ho,go_sem];exact h1
theorem zcm {w:World} {ops:Array Oper} {o:Oper} {a:Act} {K:Act→World→Prop} {Q:Exit→Act→World→Prop} {E0:Prop} (hgd:o.guard=none) (ho:o.op=.buildSlice 31 0 #[])
  (h:∀ E w',w.heap.size=E→w'.heap[E]? = some (.cells #[] 70 (0,0))→Below w.heap.size w w'→K (a.put o.dst (.slice (some ⟨E,0,none⟩) 0 0)) w') :
  if Region.wanted o (yielded ops a.tmps)=true then Oper.wp Tryz.prog o a w K Q else E0:=by
 have hw:Region.wanted o (yielded ops a.tmps)=true:=by simp[Region.wanted,hgd]
 rw[if_pos hw];have h1:=h w.heap.size (w.alloc (.cells #[] 70)) rfl (zad w _) ((Below.refl _ _).alloc (Nat.le_refl _) _);unfold Oper.wp;simp[execOp,ho,go_sem];exact h1
theorem zg5 {w:World} {ops:Array Oper} {o:Oper} {a:Act} {K:Act→World→Prop} {Q:Exit→Act→World→Prop} {E0:Prop} (hgd:o.guard=none) (ho:o.op=.alloc 45)
  (h:∀ C w',w.heap.size=C→w'.heap[C]? = some (.cells #[.int .i64 0,.slice none 0 0,.slice none 0 0] 45 (0,0))→Below w.heap.size w w'→K (a.put o.dst (.pointer (some ⟨C,0,none⟩))) w') :
  if Region.wanted o (yielded ops a.tmps)=true then Oper.wp Tryz.prog o a w K Q else E0:=by
 have hw:Region.wanted o (yielded ops a.tmps)=true:=by simp[Region.wanted,hgd]
 rw[if_pos hw];have h1:=h w.heap.size (w.alloc (.cells #[.int .i64 0,.slice none 0 0,.slice none 0 0] 45)) rfl (zad w _) ((Below.refl _ _).alloc (Nat.le_refl _) _);unfold Oper.wp;simp[execOp,ho,go_sem];exact h1
theorem za6 {w:World} {ops:Array Oper} {o:Oper} {a:Act} {K:Act→World→Prop} {Q:Exit→Act→World→Prop} {E0:Prop} (hgd:o.guard=none) (k:Nat) (ho:o.op=.buildSlice 43 1 #[(0,.tmp k)]) (nm:ByteArray) (sp:Option Addr) (n c:Nat) (hs:a.eval (.tmp k)=.agg #[.string nm,.slice sp n c])
  (h:∀ B w',w.heap.size=B→w'.heap[B]? = some (.cells #[.string nm,.slice sp n c] 54 (0,0))→Below w.heap.size w w'→K (a.put o.dst (.slice (some ⟨B,0,none⟩) 1 1)) w') :
  if Region.wanted o (yielded ops a.tmps)=true then Oper.wp Tryz.prog o a w K Q else E0:=by
 have hw:Region.wanted o (yielded ops a.tmps)=true:=by simp[Region.wanted,hgd]
 rw[if_pos hw];have h1:=h w.heap.size (w.alloc (.cells #[.string nm,.slice sp n c] 54)) rfl (zad w _) ((Below.refl _ _).alloc (Nat.le_refl _) _);have hs':a.tmps[k]?.getD undef=.agg #[.string nm,.slice sp n c]:=by simpa [go_sem] using hs
 unfold Oper.wp;simp[execOp,ho,go_sem,hs'];exact h1
def zdo (r:Rt):List Value:=[.string r.h,.string r.p,.string r.l]
def zb5 (l:List Rt):List Value:=l.flatMap zdo
theorem zf9 (l:List Rt):(zb5 l).length=l.length*3:=by
 induction l with
 |nil=>rfl
 |cons x xs ih =>
  simp only[zb5,List.flatMap_cons,List.length_append,List.length_cons] at ih ⊢;rw[ih,show(zdo x).length=3 from rfl];omega
theorem zdm:∀ (xs:List Rt) (i f:Nat) (hi:i<xs.length) (_:f<3),(zb5 xs)[i*3+f]? = (zdo xs[i])[f]?
 |[],i,_,hi,_=>by simp at hi
 |x::xs,0,f,_,hf=>by
  simp only[zb5,List.flatMap_cons,Nat.zero_mul,Nat.zero_add,List.getElem_cons_zero];rw[List.getElem?_append_left (show f<(zdo x).length from hf)]
 |x::xs,i+1,f,hi,hf=>by
  have ih:=zdm xs i f (by simpa using hi) hf;simp only[zb5,List.flatMap_cons,List.getElem_cons_succ] at ih ⊢;rw[List.getElem?_append_right (by rw[show(zdo x).length=3 from rfl];omega)];have e4:(i+1)*3+f - (zdo x).length=i*3+f:=by rw[show(zdo x).length=3 from rfl];omega
  rw[e4];exact ih
theorem zdp (l:List Rt):∀ u∈zb5 l,u.oneCell'=true:=by
 intro u hu;obtain⟨t,_,ht⟩:=List.mem_flatMap.1 hu;simp only[zdo,List.mem_cons,List.not_mem_nil,or_false] at ht;rcases ht with rfl|rfl|rfl <;> rfl
theorem zl6:(Tryz.prog.info? 56).map (fun i=>(i.zero,i.size,i.bytes))=some (some (.agg #[.string ByteArray.empty,.string ByteArray.empty,.string ByteArray.empty]),3,48):=by kernel_rfl
theorem zna {j k n:Nat} (hk:0<k) (h:j<n*k):∃ i f,i<n∧f<k∧j=i*k+f :=
 ⟨j / k,j % k,(Nat.div_lt_iff_lt_mul hk).2 h,Nat.mod_lt _ hk,by rw[Nat.mul_comm];exact(Nat.div_add_mod j k).symm⟩
theorem RtsAt.news {w:World} {a:Option Addr} {l:List Rt} (h:RtsAt w a l) (b:Addr) (hb:a=some b):∀ j u,(zb5 l)[j]? = some u→w.cell? (b.add j)=some u:=by
 intro j u hu;have hj:j<l.length*3:=by rw[← zf9];exact(List.getElem?_eq_some_iff.1 hu).1
 obtain⟨i,f,hi,hf,rfl⟩:=zna (by omega) hj;rw[zdm l i f hi hf] at hu;obtain⟨b',off,e,h0,h1,h2⟩:=h.cell i hi;rw[hb] at e;cases e
 have hf':f=0∨f=1∨f=2:=by omega
 rw[Addr.add_lit,← Nat.add_assoc];rcases hf' with rfl|rfl|rfl
 ·rw[show u=.string l[i].h from by simpa [zdo] using hu.symm];exact h0
 ·rw[show u=.string l[i].p from by simpa [zdo] using hu.symm];exact h1
 ·rw[show u=.string l[i].l from by simpa [zdo] using hu.symm];exact h2
theorem RtsAt.nil {w:World} {l:List Rt} (h:RtsAt w none l):l.length=0:=by
 rcases Nat.eq_zero_or_pos l.length with h0|h0
 ·exact h0
 ·obtain⟨b,off,e,_⟩:=h.cell 0 h0;cases e
theorem zdk {E:Nat} {w:World} {g c:Nat} {l:List Rt} (h:w.ownsRow E 56 3 (.slice (some ⟨g,0,none⟩) l.length c) l.length (zb5 l)) (hs:∀ r∈l,r.h.size≤maxLen∧r.p.size≤maxLen∧r.l.size≤maxLen):RtsAt w (some ⟨g,0,none⟩) l∧l.length≤c:=by
 rcases h.2 with⟨hv,h0⟩|⟨g',cap,cur,hv,hb,hg,hle,hmx,hsz,ht⟩
 ·cases hv
 ·simp only[Value.slice.injEq,Option.some.injEq,Addr.mk.injEq,and_true,true_and] at hv;obtain⟨rfl,rfl⟩:=hv;have one:∀ i (hi:i<l.length) f,f<3→w.cell? ⟨g,0+i*3+f,none⟩=(zdo l[i])[f]?:=fun i hi f hf=>by
   have hk:=zdm l i f hi hf;rw[Nat.zero_add,cell_of_row w g _ cur _ _ hg,← Array.getElem?_toList];have hj:i*3+f<l.length*3:=by omega
   rw[← ht,List.getElem?_take,if_pos hj] at hk;exact hk
  exact⟨⟨hs,fun i hi=>⟨g,0,rfl,one i hi 0 (by omega),one i hi 1 (by omega),one i hi 2 (by omega)⟩⟩,hle⟩
theorem TgsAt.news {w:World} {a:Option Addr} {l:List Tg} (h:TgsAt w a l) (b:Addr) (hb:a=some b):∀ j u,(zdn l)[j]? = some u→w.cell? (b.add j)=some u:=by
 intro j u hu;have hj:j<l.length*2:=by rw[← zbn];exact(List.getElem?_eq_some_iff.1 hu).1
 obtain⟨i,f,hi,hf,rfl⟩:=zna (by omega) hj;rw[zef l i f hi hf] at hu;obtain⟨b',off,e,h0,h1⟩:=h.cell i hi;rw[hb] at e;cases e
 have hf':f=0∨f=1:=by omega
 rw[Addr.add_lit,← Nat.add_assoc];rcases hf' with rfl|rfl
 ·rw[show u=.string l[i].1 from by simpa [zhc] using hu.symm];exact h0
 ·rw[show u=.float .f64 l[i].2 from by simpa [zhc] using hu.symm];exact h1
theorem TgsAt.nil {w:World} {l:List Tg} (h:TgsAt w none l):l.length=0:=by
 rcases Nat.eq_zero_or_pos l.length with h0|h0
 ·exact h0
 ·obtain⟨b,off,e,_⟩:=h.cell 0 h0;cases e
theorem zbx.same {base:Nat} {w w':World} {g c:Nat} {l:List Tg} (h:zbx base w (some ⟨g,0,none⟩) c l) (hb:w'.heap[g]? = w.heap[g]?):zbx base w' (some ⟨g,0,none⟩) c l:=by
 refine⟨h.1,?_⟩;rcases h.2 with⟨hv,h0⟩|⟨g',cap,cur,hv,hbg,hg,r⟩
 ·cases hv
 ·simp only[Value.slice.injEq,Option.some.injEq,Addr.mk.injEq,and_true,true_and] at hv;obtain⟨rfl,rfl⟩:=hv;exact .inr ⟨g,c,cur,rfl,hbg,hb.trans hg,r⟩
theorem zbx.is {base:Nat} {w:World} {g c:Nat} {l:List Tg} (h:zbx base w (some ⟨g,0,none⟩) c l):base≤g∧g<w.heap.size∧l.length≤c:=by
 rcases h.2 with⟨hv,h0⟩|⟨g',cap,cur,hv,hbg,hg,hle,r⟩
 ·cases hv
 ·simp only[Value.slice.injEq,Option.some.injEq,Addr.mk.injEq,and_true,true_and] at hv;obtain⟨rfl,rfl⟩:=hv;exact⟨hbg,(Array.getElem?_eq_some_iff.1 hg).1,hle⟩
theorem zbx.low {base base':Nat} {w:World} {sp:Option Addr} {c:Nat} {l:List Tg} (h:zbx base w sp c l) (hb:base'≤base):zbx base' w sp c l:=⟨h.1,h.2.imp id (fun ⟨g,cap,cur,h1,h2,h3⟩=>⟨g,cap,cur,h1,Nat.le_trans hb h2,h3⟩)⟩
structure Pw where
 po:Po
 g:Nat
 c:Nat
def zf3 (x:Pw):List Value:=[.string x.po.nm,.slice (some ⟨x.g,0,none⟩) x.po.ts.length x.c]
def zid (l:List Pw):List Value:=l.flatMap zf3
theorem zi6:∀ (xs:List Pw) (i f:Nat) (hi:i<xs.length) (_:f<2),(zid xs)[i*2+f]? = (zf3 xs[i])[f]?
 |[],i,_,hi,_=>by simp at hi
 |x::xs,0,f,_,hf=>by
  simp only[zid,List.flatMap_cons,Nat.zero_mul,Nat.zero_add,List.getElem_cons_zero];rw[List.getElem?_append_left (show f<(zf3 x).length from hf)]
 |x::xs,i+1,f,hi,hf=>by
  have ih:=zi6 xs i f (by simpa using hi) hf;simp only[zid,List.flatMap_cons,List.getElem_cons_succ] at ih ⊢;rw[List.getElem?_append_right (by rw[show(zf3 x).length=2 from rfl];omega)];have e4:(i+1)*2+f - (zf3 x).length=i*2+f:=by rw[show(zf3 x).length=2 from rfl];omega
  rw[e4];exact ih
theorem zla (x:Pw):∀ u∈zf3 x,u.oneCell'=true:=by
 intro u hu;simp only[zf3,List.mem_cons,List.not_mem_nil,or_false] at hu;rcases hu with rfl|rfl <;> rfl
theorem zl5:(Tryz.prog.info? 54).map (fun i=>(i.zero,i.size,i.bytes))=some (some (.agg #[.string ByteArray.empty,.slice none 0 0]),2,40):=by kernel_rfl
structure OwnW (base:Nat) (w:World) (sp:Option Addr) (c:Nat) (l:List Pw):Prop where
 row:w.ownsRow base 54 2 (.slice sp l.length c) l.length (zid l)
 dat:∀ x∈l,zbx base w (some ⟨x.g,0,none⟩) x.c x.po.ts∧sp.map (·.block)≠some x.g
theorem OwnW.ofNil (base:Nat) (w:World):OwnW base w none 0 []:=⟨w.ownsRow_nil base 54 2,by simp⟩
theorem OwnW.at_ {base:Nat} {w:World} {sp:Option Addr} {c:Nat} {l:List Pw} (h:OwnW base w sp c l) (hl:∀ x∈l,(∀ t∈x.po.ts,t.2<18446744073709551616)∧x.po.ts.length≤maxLen):PosAt w sp (l.map (·.po))∧l.length≤c:=by
 rcases h.row.2 with⟨hv,h0⟩|⟨g,cap,cur,hv,hb,hg,hle,hmx,hsz,ht⟩
 ·refine⟨⟨fun i hi=>?_⟩,by omega⟩;simp only[List.length_map] at hi;omega
 ·simp only[Value.slice.injEq] at hv;obtain⟨rfl,_,rfl⟩:=hv;have one:∀ i (hi:i<l.length) f,f<2→w.cell? ⟨g,0+i*2+f,none⟩=(zf3 l[i])[f]?:=fun i hi f hf=>by
   have hk:=zi6 l i f hi hf;rw[Nat.zero_add,cell_of_row w g _ cur _ _ hg,← Array.getElem?_toList];have hj:i*2+f<l.length*2:=by omega
   rw[← ht,List.getElem?_take,if_pos hj] at hk;exact hk
  refine⟨⟨fun i hi=>?_⟩,hle⟩;have hi':i<l.length:=by simpa using hi
  have e:(l.map (·.po))[i]=l[i].po:=by simp
  rw[e];have hm:=List.getElem_mem hi';obtain⟨ho,_⟩:=h.dat _ hm;exact⟨g,0,some ⟨l[i].g,0,none⟩,l[i].c,rfl,one i hi' 0 (by omega),one i hi' 1 (by omega),ho.at_ (hl _ hm).1,⟨(hl _ hm).2,ho.is.2.2⟩,fun h=>by cases h⟩
theorem OwnW.same {base:Nat} {w w':World} {sp:Option Addr} {c:Nat} {l:List Pw} (h:OwnW base w sp c l) (hb:∀ g,base≤g→g<w.heap.size→w'.heap[g]? = w.heap[g]?):OwnW base w' sp c l:=by
 refine⟨⟨h.row.1,?_⟩,fun x hx=>⟨(h.dat x hx).1.same (hb _ (h.dat x hx).1.is.1 (h.dat x hx).1.is.2.1),(h.dat x hx).2⟩⟩;rcases h.row.2 with hv|⟨g,cap,cur,hv,hbg,hg,r⟩
 ·exact .inl hv
 ·exact .inr ⟨g,cap,cur,hv,hbg,(hb g hbg (Array.getElem?_eq_some_iff.1 hg).1).trans hg,r⟩
theorem zj1 {base:Nat} {w:World} {sp:Option Addr} {c:Nat} {l:List Pw} (hown:OwnW base w sp c l) (B:Nat) (x:Pw) (hB:w.heap[B]? = some (.cells (zf3 x).toArray 54 (0,0))) (hd:zbx base w (some ⟨x.g,0,none⟩) x.c x.po.ts) (hne:sp.map (·.block)≠some x.g) (hn:l.length≤1000) (hbase:base≤w.heap.size) (ty:TypeId) :
  ∃ sp' c' w',(Builtin.append_ #[43,43] ty #[.slice sp l.length c,.slice (some ⟨B,0,none⟩) 1 1]).run Tryz.prog w=.ok (.slice sp' (l.length+1) c') w'∧OwnW base w' sp' c' (l++[x])∧Below base w w':=by
 obtain⟨i0,hi,hz0,hz1,hz2⟩:=info_parts zl5;obtain⟨v',w',hrun,h1,h2,_,h5⟩:=run_append_own_at (P:=Tryz.prog) w base 43 ty 54 i0 _ 2 40 Tryz.underlying43 hi hz0 hz1 hz2 rfl (by omega) _ _ _ hown.row ⟨B,0,none⟩ 1 1 (zf3 x) rfl
  (fun j u hu=>by have:=World.news_of_block hB j u;simp only at this;exact this hu) (zla x) (by simp only[maxLen];omega) (by omega) hbase
 have hob:∀ (s:Option Addr) (n c:Nat),(Value.slice s n c).ownBlock=s.map (·.block):=fun s n c=>by cases s <;> rfl
 have hv:∃ sp' c',v'=.slice sp' (l.length+1) c':=by
  rcases h1.2 with⟨hv,h0⟩|⟨g,cap,cur,hv,_⟩
  ·omega
  ·exact⟨_,_,hv⟩
 obtain⟨sp',c',rfl⟩:=hv;rw[hob] at h2;rw[hob,hob] at h5;have hlow:∀ g,sp.map (·.block)=some g→base≤g:=fun g hg=>by
  rcases hown.row.2 with⟨hv,h0⟩|⟨g',cap,cur,hv,hbg,_⟩
  ·simp only[Value.slice.injEq] at hv;rw[hv.1] at hg;cases hg
  ·simp only[Value.slice.injEq] at hv;rw[hv.1] at hg;cases hg
   exact hbg
 have one:∀ y:Pw,zbx base w (some ⟨y.g,0,none⟩) y.c y.po.ts→sp.map (·.block)≠some y.g→zbx base w' (some ⟨y.g,0,none⟩) y.c y.po.ts∧sp'.map (·.block)≠some y.g:=fun y ho hy=>by
  have hi:=ho.is;refine⟨ho.same (h2.block _ hi.2.1 (fun e=>hy e.symm)),fun e=>?_⟩;rcases h5 with h5|h5
  ·exact hy (h5.symm.trans e)
  ·rw[h5] at e;have:=Option.some.inj e;omega
 refine⟨sp',c',w',hrun,⟨?_,fun y hy=>?_⟩,(Below.refl base w).grown h2 hbase hlow⟩
 ·rw[List.length_append,show zid (l++[x])=zid l++zf3 x from by simp[zid]];exact h1
 ·rcases List.mem_append.1 hy with hy|hy
  ·exact one y (hown.dat y hy).1 (hown.dat y hy).2
  ·obtain rfl:y=x:=by simpa using hy
   exact one y hd hne
theorem zaz {w:World} {ops:Array Oper} {o:Oper} {a:Act} {K:Act→World→Prop} {Q:Exit→Act→World→Prop} {E0:Prop} (hgd:o.guard=none) (s x:Operand)
  (ho:o.op=.call { callee:=.builtin .append,args:=#[s,x],argTypes:=#[43,43] })
  (base:Nat) (sp:Option Addr) (n c:Nat) (l:List Pw) (hs:a.eval s=.slice sp n c) (hn:l.length=n) (hown:OwnW base w sp c l) (B:Nat) (y:Pw) (hx:a.eval x=.slice (some ⟨B,0,none⟩) 1 1)
  (hB:w.heap[B]? = some (.cells (zf3 y).toArray 54 (0,0))) (hd:zbx base w (some ⟨y.g,0,none⟩) y.c y.po.ts) (hne:sp.map (·.block)≠some y.g) (hsz:n≤1000) (hbase:base≤w.heap.size)
  (hk:∀ sp' c' w',OwnW base w' sp' c' (l++[y])→Below base w w'→K (a.put o.dst (.slice sp' (n+1) c')) w') :
  if Region.wanted o (yielded ops a.tmps)=true then Oper.wp Tryz.prog o a w K Q else E0:=by
 subst hn;have hw:Region.wanted o (yielded ops a.tmps)=true:=by simp[Region.wanted,hgd]
 rw[if_pos hw];obtain⟨sp',c',w',hrun,h1,h2⟩:=zj1 hown B y hB hd hne hsz hbase o.type;unfold Oper.wp;simp[execOp,ho,resolve,invoke,builtin,hs,hx,hrun,Result.andThen];exact hk sp' c' w' h1 h2
end Go.Proofs.YtjcjleaicjhpeaaGreatDoor
