/- Conf: a map's places, collected and sorted. -/
import Derived.Test.YtjcjleaicjhpeaaGreatDoorB10
import Derived.Test.YtjcjleaicjhpeaaGreatDoorB07
import Derived.Maps.AppendAt
import Derived.Shelf.SlIter.Nil
import Derived.Shelf.SortM.Plain
import Derived.Shelf.SortM.SortNone
import Derived.Ground.GgzProg
import Derived.Ground.SlgmProg
import Derived.Test.YtjcjleaicjhpeaaGreatDoorProg
set_option linter.unusedVariables false
set_option maxRecDepth 20000
set_option maxHeartbeats 16000000
namespace Go.Proofs.YtjcjleaicjhpeaaGreatDoor
section
open Go.ChangeShapes Go.WideShapes Go.ChangeAt Go.RowKit Go.Maps Go.Shelf Go.Sort
attribute [local go_sem] Oper.semAt_some
def zc (p:Pl):List Value:=[.string p.1,.string p.2]
def zdr (l:List Pl):List Value:=l.flatMap zc
theorem zgm (l:List Pl):(zdr l).length=l.length*2:=by
 induction l with
 |nil=>rfl
 |cons x r ih =>
  show(zc x++zdr r).length=_
  rw[List.length_append,ih,List.length_cons,show(zc x).length=2 from rfl];omega
theorem zg9:∀ (xs:List Pl) (i f:Nat) (hi:i<xs.length) (_:f<2),(zdr xs)[i*2+f]? = (zc xs[i])[f]?
 |x::r,0,f,_,hf=>by
  show(zc x++zdr r)[0*2+f]? = _
  rw[List.getElem?_append_left (by rw[show(zc x).length=2 from rfl];omega)];simp
 |x::r,i+1,f,hi,hf=>by
  show(zc x++zdr r)[(i+1)*2+f]? = _
  have ih:=zg9 r i f (by simpa using hi) hf;rw[List.getElem?_append_right (by rw[show(zc x).length=2 from rfl];omega)];have e4:(i+1)*2+f - (zc x).length=i*2+f:=by rw[show(zc x).length=2 from rfl];omega
  rw[e4];exact ih
theorem zpp (l:List Pl):∀ u∈zdr l,u.oneCell'=true:=by
 intro u hu;obtain⟨t,_,ht⟩:=List.mem_flatMap.1 hu;simp only[zc,List.mem_cons,List.not_mem_nil,or_false] at ht;rcases ht with rfl|rfl <;> rfl
theorem zug:(Tryz.prog.info? 89).map (fun i=>(i.zero,i.size,i.bytes))=some (some (.agg #[.string ByteArray.empty,.string ByteArray.empty]),2,32):=by kernel_rfl
def zfj (base:Nat) (w:World) (sp:Option Addr) (c:Nat) (l:List Pl):Prop:=w.ownsRow base 89 2 (.slice sp l.length c) l.length (zdr l)
theorem zne (n:Nat) (hn:1≤n) (Bm b:Nat) {fs:List (Pl×Value)} (w:World) (hB:Bm<w.heap.size) (hm:w.cell? ⟨Bm,0,none⟩=some (.map (some b))) (hown:MapG kxP w b fs) :
  SeqStopsK Fence.wide n Tryz.prog 88 #[.pointer (some ⟨Bm,0,none⟩)] zr3 KeepsWalks (fun ks=>ks.Perm (fs.map (·.1))) (fun _=>True) fs.length w:=fun l J Jx W hW hJ _ hY h0 =>
 zq4 n hn l Bm b J Jx W hJ hY ((hW.cell (p:=⟨Bm,0,none⟩) hB).trans hm) (hown.later hW) h0
structure AppI (w0:World) (Bs:Nat) (pre:List Pl) (W:World):Prop where
 box:∃ sp c,W.heap[Bs]? = some (.cells #[.slice sp pre.length c] 86 (0,0))∧zfj w0.heap.size W sp c pre
 bel:Below w0.heap.size w0 W
 big:w0.heap.size+1≤W.heap.size
theorem zfj.blk {base:Nat} {w:World} {sp:Option Addr} {c:Nat} {l:List Pl} (h:zfj base w sp c l) {g:Nat} (hg:(Value.slice sp l.length c).ownBlock=some g):base≤g∧∃ cur:Array Value,w.heap[g]? = some (.cells cur 89 (0,0)):=by
 rcases h.2 with⟨hv,h0⟩|⟨g',cap,cur,hv,hb,hh,_⟩
 ·rw[hv] at hg;cases hg
 ·rw[hv] at hg;simp[Value.ownBlock] at hg;subst hg;exact⟨hb,cur,hh⟩
theorem zfj.keep {base:Nat} {w w':World} {sp:Option Addr} {c:Nat} {l:List Pl} (h:zfj base w sp c l) (hs:∀ g,(Value.slice sp l.length c).ownBlock=some g→w'.heap[g]? = w.heap[g]?):zfj base w' sp c l:=by
 refine⟨h.1,?_⟩;rcases h.2 with hv|⟨g,cap,cur,hv,hb,hg,r⟩
 ·exact .inl hv
 ·exact .inr ⟨g,cap,cur,hv,hb,(hs g (by rw[hv];rfl)).trans hg,r⟩
theorem AppI.kept {w0 W W':World} {Bs:Nat} {pre:List Pl} {row:Option Nat} (h:AppI w0 Bs pre W) (hg:W.grownBy W' row) (hr:∀ r,row=some r→w0.heap.size≤r∧∃ o:Obj,W.heap[r]? = some o∧o.isCells=false):AppI w0 Bs pre W':=by
 obtain⟨sp,c,h1,h2⟩:=h.box;refine⟨⟨sp,c,(hg.block Bs (Array.getElem?_eq_some_iff.1 h1).1 (fun e=>?_)).trans h1,h2.keep (fun g hb=>?_)⟩,h.bel.grown hg h.bel.size (fun g e=>(hr g e).1),Nat.le_trans h.big hg.size⟩
 ·obtain⟨_,o,ho,hc⟩:=hr Bs e.symm;rw[h1] at ho;cases ho;cases hc
 ·obtain⟨_,cur,hh⟩:=h2.blk hb;refine hg.block g (Array.getElem?_eq_some_iff.1 hh).1 (fun e=>?_);obtain⟨_,o,ho,hc⟩:=hr g e.symm;rw[hh] at ho;cases ho;cases hc
theorem zmh {F:Fence} {n:Nat} {P:Program} {w w':World} {ops:Array Oper} {rest:List Oper} {o:Oper} {a:Act} {Q:Exit→Act→World→Prop} (hg:o.guard=none) (s x:Operand) (t:TypeId)
  (hop:o.op=Op.call { callee:=Callee.builtin Builtin.append,args:=#[s,x],argTypes:=#[t,t] }) {v u v':Value} (hs:a.eval s=v) (hx:a.eval x=u) (hrun:(Builtin.append_ #[t,t] o.type #[v,u]).run P w=.ok v' w')
  (hK:wpListIn F n P ops Q rest (a.put o.dst v') w'):wpListIn F n P ops Q (o::rest) a w:=by
 refine wpListIn_plain hg fun K hK'=>?_;unfold Oper.wpIn;refine⟨?_,?_⟩
 ·simp[Oper.about,hop,resolve,Target.leads,Sem.run_pure]
 ·rw[Oper.semAt_plain F _ _ (by rw[hop];intro c hc';cases hc')];simp[execOp,hop,resolve,invoke,builtin,hs,hx,hrun,Result.andThen];exact hK' _ _ hK
theorem zhk {w:World} {fs:List (Pl×Value)} {b Bm:Nat} (hown:MapG kxP w b fs) (hB:Bm<w.heap.size) (hm:w.cell? ⟨Bm,0,none⟩=some (.map (some b))) (hl:fs.length≤1000) :
  Calls Tryz.prog 145 #[.slice none 0 0,.func (.func 88) #[] #[.pointer (some ⟨Bm,0,none⟩)]] w fun e w'=>∃ sp c ks,e=.returned (.slice sp ks.length c)∧ks.Perm (fs.map (·.1))∧zfj w.heap.size w' sp c ks∧Below w.heap.size w w':=by
 have b0:=zaa (show Below w.heap.size w (w.alloc (.cells #[.slice none 0 0] 86)) from(Below.refl _ _).alloc (Nat.le_refl _) _);have I0:=zaa (show AppI w w.heap.size [] (w.alloc (.cells #[.slice none 0 0] 86)) from⟨⟨none,0,zad _ _,⟨rfl,.inl ⟨rfl,rfl⟩⟩⟩,za b0,by simp⟩);have ST:=zaa (zne 4 (by omega) Bm b (w.alloc (.cells #[.slice none 0 0] 86)) (by have:=(za b0).size;omega) (cell_later (za b0) hm) (hown.later (za b0)));have hs0:=zaa (show(w.alloc (.cells #[.slice none 0 0] 86)).heap.size=w.heap.size+1 by simp);clear hown hm;refine callsIn_wide.1 (callsIn_of_wp_marks (n:=5) Tryz.func145 rfl trivial (wpIn_wide.2 ?_) rfl);simp only[Tryz.ntmps145,List.size_toArray,List.length_cons,List.length_nil,Nat.reduceAdd,Nat.reduceSub,Array.replicate_succ,Array.replicate_zero,List.push_toArray,List.append_toArray,List.nil_append,List.cons_append]
 go_wp2_with fail
 refine(wpIn_wide (n:=5)).1 ?_;generalize hW0:w.alloc (.cells #[.slice none 0 0] 86)=W0 at *;have hsz:=za hs0;refine wpIn_rangeFunc_ownH rfl (by omega) (gf:=88) (lb:=#[.pointer (some ⟨Bm,0,none⟩)]) rfl trivial (enters_of Tryz.func88 (by kernel_rfl) rfl)
  (za ST) (fun h k=>h.trans k) (fun W l o o' h1 h2 h3 h4=>KeepsWalks.putObj o' h2 h4) (Below.refl _ _) (fun _=>rfl)
  (fun pre W=>AppI w w.heap.size pre W) (fun _ _ _=>False) ?hI (fun _ _ _ _ _ hs _ _=>hs) (za I0)
  (fun x a' W=>∃ Bx,w.heap.size+1≤Bx∧W.heap[Bx]? = some (.cells #[.string x.1,.string x.2] 89 (0,0))∧a' = {
   tmps:=#[Value.slice none 0 0,Value.func (Fn.func 88) #[] #[Value.pointer (some { block:=Bm,off:=0 })],
    Value.pointer (some { block:=w.heap.size,off:=0 }),undef,Value.slice none 0 0,Value.pointer (some { block:=Bx,off:=0 }),
    Value.func (Fn.func 88) #[] #[Value.pointer (some { block:=Bm,off:=0 })],.agg #[.string x.1,.string x.2],undef,undef,undef,undef,undef],
   defers:=[] }) ?hAx ?assign ?body ?done ?stop
 case hI =>
  rintro s W W' row h hg hrow;exact h.kept hg (fun r e=>⟨by have:=(hrow r e).1;omega,(hrow r e).2⟩)
 case hAx =>
  rintro x a' s W W' row ⟨Bx,h1,h2,h3⟩ hg hrow;refine⟨Bx,h1,(hg.block Bx (Array.getElem?_eq_some_iff.1 h2).1 (fun e=>?_)).trans h2,h3⟩;obtain⟨_,o,ho,hc⟩:=hrow Bx e.symm;rw[h2] at ho;cases ho
  cases hc
 case assign =>
  rintro l0 pre x W K h hK;simp only[zr3,plV]
  gi_wp2
  have ga:=World.grownBy_alloc W (.cells #[.string x.1,.string x.2] 89) none;exact hK _ _ ((KeepsOthers.alloc _ _).from _) (KeepsWalks.alloc _ _) (h.kept ga (fun r e=>by cases e)) ⟨W.heap.size,h.big,zad _ _,rfl⟩
 case body =>
  rintro l0 pre x a' W hl0 ⟨r,hr⟩ h ⟨Bx,hBx,hX,rfl⟩ hlt;obtain⟨x1,x2⟩:=x;obtain⟨sp,c,hbox,hown⟩:=h.box;have hbel:=h.bel;have hbig:=h.big;obtain⟨i0,hi,hz0,hz1,hz2⟩:=info_parts zug;have cB:=zae hbox 0 _ rfl;have cX:=zae hX 0 _ rfl;have cY:=zae hX 1 _ rfl;have ga:=World.grownBy_alloc W (.cells #[.string x1,.string x2] 89) none
  have hown2:zfj w.heap.size (W.alloc (.cells #[.string x1,.string x2] 89)) sp c pre:=hown.keep (fun g hg=>by
   obtain⟨_,cur,hh⟩:=hown.blk hg
   exact ga.block g (Array.getElem?_eq_some_iff.1 hh).1 (by simp))
  obtain⟨v',w3,hrun,h1,h2,h3⟩:=run_append_own (P:=Tryz.prog) (W.alloc (.cells #[.string x1,.string x2] 89)) w.heap.size 86 86 89 i0 _ 2 32 Tryz.underlying86 hi hz0 hz1 hz2 rfl (by omega) _ _ _ hown2 ⟨W.heap.size,0,none⟩ 1 1 (zc (x1,x2)) rfl
   (fun j u hu=>by
    rw[Addr.add_lit,Nat.zero_add,cell_of_row _ _ _ _ _ _ (zad W (.cells #[.string x1,.string x2] 89))]
    rw[← hu,← Array.getElem?_toList];rfl) (fun u hu=>zpp [(x1,x2)] u (by simpa [zdr] using hu)) (by simp only[maxLen];omega) (by omega) (by simp;omega)
  have hv:∃ sp' c',v'=.slice sp' (pre.length+1) c':=by
   rcases h1.2 with⟨hv,h0⟩|⟨g,cap,cur,hv,_⟩
   ·omega
   ·exact⟨_,_,hv⟩
  obtain⟨sp',c',rfl⟩:=hv;have hown3:zfj w.heap.size w3 sp' c' (pre++[(x1,x2)]):=by
   unfold zfj;rw[List.length_append,show zdr (pre++[(x1,x2)])=zdr pre++zc (x1,x2) from by simp[zdr]];exact h1
  have hneB:∀ g,(Value.slice sp pre.length c).ownBlock=some g→g≠w.heap.size:=fun g hg e=>by
   obtain⟨_,cur,hh⟩:=hown.blk hg;rw[e,hbox] at hh;simp at hh
  have hbox3:w3.heap[w.heap.size]? = some (.cells #[.slice sp pre.length c] 86 (0,0)):=(h2.block w.heap.size (by simp;omega) (fun e=>hneB _ e.symm rfl)).trans ((ga.block _ (Array.getElem?_eq_some_iff.1 hbox).1 (by simp)).trans hbox);have cB3:=zae hbox3 0 _ rfl;have fB3:=zbf hbox3 0;have hbel3:Below w.heap.size w w3:=(hbel.grown ga hbel.size (fun k e=>by cases e)).grown h2 (by have:=hbel.size;simp;omega) (fun k e=>(hown2.blk e).1);have K3:KeepsOthers W w3∧KeepsWalks W w3:=by
   have hc:∀ (j:Nat) (o:Obj),(Value.slice sp pre.length c).ownBlock=some j→(W.alloc (.cells #[.string x1,.string x2] 89)).heap[j]? = some o→o.isCells=true∧o.isWalk=false:=fun j o e ho=>by
    obtain⟨_,cur,hh⟩:=hown2.blk e;rw[hh] at ho;cases ho;exact⟨rfl,rfl⟩
   exact⟨(KeepsOthers.alloc _ _).trans (KeepsOthers.of_grownBy h2 (fun j o e ho=>(hc j o e ho).1)),(KeepsWalks.alloc _ _).trans (KeepsWalks.of_grownBy h2 (fun j o e ho=>(hc j o e ho).2))⟩
  have hz3:w.heap.size<w3.heap.size:=(Array.getElem?_eq_some_iff.1 hbox3).1
  have FIN:=zaa (show KeepsFrom (w.heap.size+1) W (w3.setCell ⟨w.heap.size,0,none⟩ (.slice sp' (pre.length+1) c'))∧KeepsWalks W (w3.setCell ⟨w.heap.size,0,none⟩ (.slice sp' (pre.length+1) c'))∧AppI w w.heap.size (pre++[(x1,x2)]) (w3.setCell ⟨w.heap.size,0,none⟩ (.slice sp' (pre.length+1) c')) from by
   have gs:w3.grownBy (w3.setCell ⟨w.heap.size,0,none⟩ (.slice sp' (pre.length+1) c')) (some w.heap.size):=zb w3 _ _ _;refine⟨(K3.1.trans (KeepsOthers.of_grownBy gs (fun j o e ho=>by cases e;rw[hbox3] at ho;cases ho;rfl))).from _,K3.2.trans (KeepsWalks.setCell _ _ _),⟨⟨sp',c',?_,?_⟩,?_,?_⟩⟩
   ·have:=heap_setCell_same w3 w.heap.size 0 _ _ (.slice sp' (pre.length+1) c') hbox3;rw[List.length_append];exact this
   ·refine hown3.keep (fun g hg=>gs.block g ?_ (fun e=>?_))
    ·obtain⟨_,cur,hh⟩:=hown3.blk hg;exact(Array.getElem?_eq_some_iff.1 hh).1
    ·obtain⟨_,cur,hh⟩:=hown3.blk hg;rw[Option.some.inj e,hbox3] at hh;simp at hh
   ·exact hbel3.grown gs hbel3.size (fun k e=>by cases e;exact Nat.le_refl _)
   ·have:=gs.size;omega)
  clear hown hown2 hown3 h1 h2 h3 K3 hbel hbel3 hneB hi hz0 hz1 hz2 hbox hbox3 h ga;dsimp only at cX cY ⊢;have HR:=zaa hrun;clear hrun
  gi_wp2_with (gi_at_builtin;refine zmh rfl (.tmp 8) (.tmp 10) 86 rfl rfl rfl (za HR) ?_)
  exact za FIN
 case done =>
  rintro D xs W hD hS h hK;obtain⟨sp,c,hbox,hown⟩:=h.box;have hbel:=h.bel;have cB:=zae hbox 0 _ rfl
  go_wp2
  refine⟨by simp,.inl ⟨_,_,rfl,run_takeDeferred hK,?_⟩⟩;refine⟨_,results_tmp rfl _ _ _,sp,c,xs,rfl,hS,hown.keep (fun g hg=>?_),hbel.grown (grownBy_putObj' _ D _) hbel.size (fun g e=>by have:=Option.some.inj e;omega)⟩;refine(grownBy_putObj' W D _).block g ?_ (fun e=>?_)
  ·obtain⟨_,cur,hh⟩:=hown.blk hg;exact(Array.getElem?_eq_some_iff.1 hh).1
  ·obtain⟨_,cur,hh⟩:=hown.blk hg;rw[Option.some.inj e,hK] at hh;cases hh
 case stop =>
  intro D cc pre W _ _ h _;exact h.elim
theorem zji {w:World} {fs:List (Pl×Value)} {b Bm:Nat} (hown:MapG kxP w b fs) (hB:Bm<w.heap.size) (hm:w.cell? ⟨Bm,0,none⟩=some (.map (some b))) (hl:fs.length≤1000) :
  Calls Tryz.prog 86 #[.func (.func 88) #[] #[.pointer (some ⟨Bm,0,none⟩)]] w fun e w'=>∃ sp c ks,e=.returned (.slice sp ks.length c)∧ks.Perm (fs.map (·.1))∧zfj w.heap.size w' sp c ks∧Below w.heap.size w w':=by
 have AC:=zaa (zhk hown hB hm hl);go_enter Tryz.func86,Tryz.ntmps86
 go_wp2_with fail
 refine(za AC).mono ?_;rintro e w' ⟨sp,c,ks,rfl,h1,h2,h3⟩
 go_wp2
 go_ret
 exact⟨sp,c,ks,rfl,h1,h2,h3⟩
theorem zm6 (b:Nat) (w:World):Calls Tryz.prog 45 #[.map (some b)] w fun e w'=>e=.returned (.func (.func 88) #[] #[.pointer (some ⟨w.heap.size,0,none⟩)])∧w'=w.alloc (.cells #[.map (some b)] 76):=by
 go_enter Tryz.func45,Tryz.ntmps45
 go_wp2
 go_ret
 exact⟨rfl,rfl⟩
theorem zid (fs:List Pl):(flatK zc 2 fs.toArray).toList=zdr fs:=by
 apply List.ext_getElem?
 intro t;by_cases ht:t<fs.length*2
 ·have h1:=zg9 fs (t / 2) (t % 2) (by omega) (by omega);rw[show t / 2*2+t % 2=t by omega] at h1;rw[h1,Array.getElem?_toList];have hs:t<(flatK zc 2 fs.toArray).size:=by rw[size_flatK];simpa using ht
  rw[Array.getElem?_eq_getElem hs,← getElem!_pos _ t hs,get_flatK _ _ _ _ (by simpa using ht)];have hd:(fs.toArray)[t / 2]! = fs[t / 2]:=by rw[getElem!_pos _ _ (by simp;omega)];simp
  rw[hd];have hf:t % 2<(zc fs[t / 2]).length:=by show t % 2<2;omega
  rw[List.getElem?_eq_getElem hf];exact congrArg some (getElem!_pos (zc fs[t / 2]) (t % 2) hf)
 ·rw[List.getElem?_eq_none (by rw[Array.length_toList,size_flatK];simp;omega),List.getElem?_eq_none (by rw[zgm];omega)]
theorem zr1 (blk off size:Nat) (w:World):CmpLays Tryz.prog 46 #[] zc 2 zes blk off size w:=fun _ _ _ _ x y=>zhr x y _
theorem znv {w:World} {g n:Nat} {os:Array Obj} {cur:Array Value} {e:TypeId} {fr:Nat×Nat} (d:Array Value) (hb:w.heap[g]? = some (.cells cur e fr)) :
  (grow (putRow id (Sort.ahead w n) g 0 d) os).heap[g]? = some (.cells (putCells id 0 d cur) e fr):=by
 have hg:g<w.heap.size:=(Array.getElem?_eq_some_iff.1 hb).1;rw[heap_grow_old _ _ (by simpa using hg)];simp[putRow,mapBlock,Sort.ahead,Array.getElem?_modify,hb,onCells]
theorem zl6 {w:World} {g n:Nat} {os:Array Obj} (d:Array Value):w.grownBy (grow (putRow id (Sort.ahead w n) g 0 d) os) (some g):=by
 refine⟨rfl,rfl,rfl,by simp,fun k hk hne=>?_⟩;rw[heap_grow_old _ _ (by simpa using hk)];have:g≠k:=fun e=>hne (by rw[e]);simp[putRow,mapBlock,Sort.ahead,Array.getElem?_modify,this]
theorem zsj (cur:Array Value) (d:Array Value) (h:d.size≤cur.size):(putCells id 0 d cur).toList.take d.size=d.toList:=by
 apply List.ext_getElem?
 intro j;by_cases hj:j<d.size
 ·rw[List.getElem?_take_of_lt hj,Array.getElem?_toList,Array.getElem?_toList];simp[putCells,hj,show j<cur.size by omega]
 ·rw[List.getElem?_take_eq_none (by omega),List.getElem?_eq_none (by simp;omega)]
theorem zl5 {base:Nat} {V:World} {sp:Option Addr} {c:Nat} {fs:List Pl} (o:zfj base V sp c fs) (hl:fs.length≤1000) (hb:base≤V.heap.size) :
  Calls Tryz.prog 87 #[.slice sp fs.length c,.func (.func 46) #[] #[]] V fun e w'=>e=.returned (.tuple #[])∧∃ fs':List Pl,fs'.Perm fs∧fs'.Pairwise (fun a b=>¬ Kord.lt b a)∧zfj base w' sp c fs'∧Below base V w':=by
 rcases o.2 with⟨hv,h0⟩|⟨g,cap,cur,hv,hbg,hg,hle,hmx,hsz,ht⟩
 ·simp only[Value.slice.injEq] at hv;obtain⟨rfl,hz,rfl⟩:=hv;obtain rfl:fs=[]:=List.eq_nil_of_length_eq_zero hz;have hN:=AnyF.slices_SortFunc_none (P:=Tryz.prog) (ρ:=Tryz.sortF87_ren) Tryz.sortF87 none 0 (.func (.func 46) #[] #[]) V;refine Calls.mono (show Calls Tryz.prog 87 #[.slice none ([]:List Pl).length 0,.func (.func 46) #[] #[]] V _ from hN) ?_;rintro e w' ⟨rfl,rfl⟩;exact⟨rfl,[],List.Perm.refl _,List.Pairwise.nil,⟨rfl,.inl ⟨rfl,rfl⟩⟩,Below.refl _ _⟩
 ·simp only[Value.slice.injEq] at hv;obtain⟨rfl,_,rfl⟩:=hv;have hglt:g<V.heap.size:=(Array.getElem?_eq_some_iff.1 hg).1;have hH:HoldsK zc 2 V g 0 fs.toArray:=by
   intro j hj;have hj':j<fs.length*2:=by rw[size_flatK] at hj;simpa using hj
   refine⟨?_,by simp[World.frozen?,hg]⟩;have h1:(List.take (fs.length*2) cur.toList)[j]? = (zdr fs)[j]?:=by rw[ht]
   rw[List.getElem?_take_of_lt hj',Array.getElem?_toList] at h1;have h2:(flatK zc 2 fs.toArray)[j]! = (flatK zc 2 fs.toArray)[j]:=getElem!_pos _ j hj;have h3:(flatK zc 2 fs.toArray).toList[j]? = some (flatK zc 2 fs.toArray)[j]:=by rw[Array.getElem?_toList,Array.getElem?_eq_getElem hj]
   rw[zid,← h1] at h3;rw[Nat.zero_add,cell_of_row V g _ _ _ _ hg,h2];exact h3
  have hcon:=AnyQ.slices_SortFunc (P:=Tryz.prog) (ρ:=Tryz.sortF87_ren) Tryz.sortF87 2 Tryz.isAgg89 Tryz.sizeOf89 zc (fun _=>rfl) (fun x v hv=>by simp[zc] at hv;rcases hv with rfl|rfl <;> rfl) zes swoP 46 #[] g 0 c fs.toArray V (enters_of Tryz.func46 (by kernel_rfl) rfl) (zr1 g 0 fs.toArray.size V) hH hglt (by simp;omega);refine Calls.mono (show Calls Tryz.prog 87 #[.slice (some ⟨g,0,none⟩) fs.length c,.func (.func 46) #[] #[]] V _ from hcon) ?_;rintro e w' ⟨rfl,d',n,os,hp,hs,rfl⟩;have hdl:d'.size=fs.length:=by have:=hp.1;simpa using this
  refine⟨rfl,d'.toList,?_,?_,?_,?_⟩
  ·have h1:=hp.2.2;have e1:d'.extract 0 fs.toArray.size=d':=by rw[show fs.toArray.size=d'.size by rw[hdl];simp];exact Array.extract_size
   have e2:fs.toArray.extract 0 fs.toArray.size=fs.toArray:=Array.extract_size;rw[e1,e2] at h1
   simpa using h1
  ·rw[List.pairwise_iff_getElem];intro i j hi hj hij;have h1:=hs i j (Nat.zero_le _) hij (by rw[show fs.toArray.size=d'.size by rw[hdl];simp];simpa using hj);rw[ltP] at h1;have h2:=of_decide_eq_false h1;rw[getElem!_pos d' i (by simpa using hi),getElem!_pos d' j (by simpa using hj)] at h2
   simpa only [Array.getElem_toList] using h2
  ·have hfs:(flatK zc 2 d').size=d'.size*2:=size_flatK _ _ _;have hfl:(flatK zc 2 d').toList=zdr d'.toList:=by
    have:=zid d'.toList
    simpa using this
   refine⟨by rw[zgm],.inr ⟨g,c,_,?_,hbg,znv (flatK zc 2 d') hg,?_,hmx,by simp[putCells,hsz],?_⟩⟩
   ·rw[Array.length_toList,hdl]
   ·rw[Array.length_toList,hdl];exact hle
   ·rw[Array.length_toList,← hfs,zsj cur (flatK zc 2 d') (by rw[hfs,hdl,hsz];omega),hfl]
  ·exact(Below.refl base V).grown (zl6 (flatK zc 2 d')) hb (fun g' hg'=>by have:=Option.some.inj hg';omega)
theorem znw {κ α:Type} [Kord κ] {fs:List (κ×α)} (hr:Kr fs) {ks:List κ} (hp:ks.Perm (fs.map (·.1))) (hs:ks.Pairwise (fun a b=>¬ Kord.lt b a)):ks=fs.map (·.1):=by
 refine List.Perm.eq_of_pairwise (le:=fun a b=>¬ Kord.lt b a) (fun a b _ _ h1 h2=>?_) hs ?_ hp
 ·rcases Kord.tri a b with h|h|h
  ·exact absurd h h2
  ·exact h
  ·exact absurd h h1
 ·exact List.pairwise_map.2 (List.Pairwise.imp (fun {a b} h h'=>Kord.irr _ (Kord.tr h h')) (show fs.Pairwise (fun x y=>Kord.lt x.1 y.1) from hr))
theorem zkp {w:World} {fs:List (Pl×Value)} {b Bm:Nat} (hown:MapG kxP w b fs) (hB:Bm<w.heap.size) (hm:w.cell? ⟨Bm,0,none⟩=some (.map (some b))) (hl:fs.length≤1000) :
  Calls Tryz.prog 44 #[.func (.func 88) #[] #[.pointer (some ⟨Bm,0,none⟩)],.func (.func 46) #[] #[]] w fun e w'=>∃ sp c,e=.returned (.slice sp fs.length c)∧zfj w.heap.size w' sp c (fs.map (·.1))∧Below w.heap.size w w':=by
 have AC:=zaa (zji hown hB hm hl);have hr:=zaa hown.rise;clear hown hm;go_enter Tryz.func44,Tryz.ntmps44
 go_wp2_with fail
 refine(za AC).mono ?_;rintro e V ⟨sp,c,ks,rfl,h1,h2,h3⟩;have hlen:ks.length=fs.length:=by rw[h1.length_eq,List.length_map]
 have SC:=zaa (zl5 h2 (by omega) h3.size);have H1:=zaa h1;have H3:=zaa h3;have HL:=zaa hlen;clear h1 h2 h3 hlen
 go_wp2_with fail
 refine(za SC).mono ?_;rintro e V2 ⟨rfl,ks2,p1,p2,p3,p4⟩;have E:=znw (za hr) (p1.trans (za H1)) p2;subst E;have P3:=zaa p3;have P4:=zaa ((za H3).trans p4);clear p1 p2 p3 p4
 go_wp2
 go_ret
 exact⟨sp,c,by rw[za HL];rfl,za P3,za P4⟩
end
end Go.Proofs.YtjcjleaicjhpeaaGreatDoor
section
namespace Go.Proofs
open Go.RowKit Go.Maps Go.Sort Go.Shelf
def Tryz.keys42_ren:Go.Shelf.Ren:=⟨fun|7=>42|10=>84|n=>n,fun|23=>75|26=>9|3=>54|28=>83|0=>0|27=>82|33=>58|4=>4|n=>n,fun|n=>n⟩
theorem Tryz.keys42:Go.Proofs.SlLaysZ.n7 Tryz.prog Tryz.keys42_ren:={
 mixed:=by kernel_rfl
 f7:=⟨Tryz.f42.name,by decide,Tryz.func42.trans (congrArg some (by kernel_rfl))⟩
 f10:=⟨Tryz.f84.name,by decide,Tryz.func84.trans (congrArg some (by kernel_rfl))⟩
 t0:=Tryz.underlying0
 a0:=Tryz.isAgg0
 z0:=Tryz.sizeOf0
 v0:=Tryz.zeroValue0
 t4:=Tryz.underlying4
 a4:=Tryz.isAgg4
 z4:=Tryz.sizeOf4
 v4:=Tryz.zeroValue4
 t23:=Tryz.underlying75
 a23:=Tryz.isAgg75
 z23:=Tryz.sizeOf75
 v23:=Tryz.zeroValue75
 t26:=Tryz.underlying9
 a26:=Tryz.isAgg9
 z26:=Tryz.sizeOf9
 v26:=Tryz.zeroValue9
 t27:=Tryz.underlying82
 a27:=Tryz.isAgg82
 z27:=Tryz.sizeOf82
 v27:=Tryz.zeroValue82
 t28:=Tryz.underlying83
 a28:=Tryz.isAgg83
 z28:=Tryz.sizeOf83
 v28:=Tryz.zeroValue83
 t33:=Tryz.underlying58
 a33:=Tryz.isAgg58
 z33:=Tryz.sizeOf58
 v33:=Tryz.zeroValue58 }
def Tryz.sorted41_ren:Go.Shelf.Ren:=⟨fun|6=>41|8=>82|9=>83|11=>142|13=>144|12=>143|23=>178|24=>179|14=>169|15=>170|16=>171|17=>172|18=>173|19=>174|20=>175|21=>176|22=>177|25=>204|26=>205|27=>206|28=>207|29=>208|30=>147|31=>219|n=>n,fun|26=>9|28=>83|24=>80|0=>0|3=>3|37=>191|48=>218|50=>143|4=>4|40=>210|39=>209|45=>215|5=>5|9=>9|51=>237|55=>241|57=>251|58=>252|33=>58|n=>n,fun|n=>n⟩
theorem Tryz.sorted41:Go.Proofs.SlLaysZ.n6 Tryz.prog Tryz.sorted41_ren:={
 mixed:=by kernel_rfl
 f6:=⟨Tryz.f41.name,by decide,Tryz.func41.trans (congrArg some (by kernel_rfl))⟩
 f8:=⟨Tryz.f82.name,by decide,Tryz.func82.trans (congrArg some (by kernel_rfl))⟩
 f11:=⟨Tryz.f142.name,by decide,Tryz.func142.trans (congrArg some (by kernel_rfl))⟩
 t0:=Tryz.underlying0
 a0:=Tryz.isAgg0
 z0:=Tryz.sizeOf0
 v0:=Tryz.zeroValue0
 t24:=Tryz.underlying80
 a24:=Tryz.isAgg80
 z24:=Tryz.sizeOf80
 v24:=Tryz.zeroValue80
 t26:=Tryz.underlying9
 a26:=Tryz.isAgg9
 z26:=Tryz.sizeOf9
 v26:=Tryz.zeroValue9
 t28:=Tryz.underlying83
 a28:=Tryz.isAgg83
 z28:=Tryz.sizeOf83
 v28:=Tryz.zeroValue83
 i26:=by kernel_rfl }
def Tryz.sort83_ren:Go.Shelf.Ren:=⟨fun|6=>83|8=>144|9=>143|19=>178|20=>179|21=>169|22=>170|23=>171|24=>172|25=>173|26=>174|27=>175|28=>176|29=>177|36=>204|31=>205|32=>206|37=>207|38=>208|39=>147|41=>219|n=>n,fun|27=>80|29=>9|3=>3|32=>191|26=>80|0=>0|44=>218|46=>143|4=>4|36=>210|35=>209|41=>215|5=>5|9=>9|53=>237|57=>241|63=>251|64=>252|n=>n,fun|n=>n⟩
theorem Tryz.sort83:Go.Proofs.SlLaysM.n6 Tryz.prog Tryz.sort83_ren:={
 mixed:=by kernel_rfl
 f6:=⟨Tryz.f83.name,by decide,Tryz.func83.trans (congrArg some (by kernel_rfl))⟩
 f8:=Tryz.func144.trans (congrArg some (by kernel_rfl))
 f9:=⟨Tryz.f143.name,by decide,Tryz.func143.trans (congrArg some (by kernel_rfl))⟩
 f19:=Tryz.func178.trans (congrArg some (by kernel_rfl))
 f20:=Tryz.func179.trans (congrArg some (by kernel_rfl))
 f21:=⟨Tryz.f169.name,by decide,Tryz.func169.trans (congrArg some (by kernel_rfl))⟩
 f22:=⟨Tryz.f170.name,by decide,Tryz.func170.trans (congrArg some (by kernel_rfl))⟩
 f23:=⟨Tryz.f171.name,by decide,Tryz.func171.trans (congrArg some (by kernel_rfl))⟩
 f24:=⟨Tryz.f172.name,by decide,Tryz.func172.trans (congrArg some (by kernel_rfl))⟩
 f25:=⟨Tryz.f173.name,by decide,Tryz.func173.trans (congrArg some (by kernel_rfl))⟩
 f26:=⟨Tryz.f174.name,by decide,Tryz.func174.trans (congrArg some (by kernel_rfl))⟩
 f27:=⟨Tryz.f175.name,by decide,Tryz.func175.trans (congrArg some (by kernel_rfl))⟩
 f28:=⟨Tryz.f176.name,by decide,Tryz.func176.trans (congrArg some (by kernel_rfl))⟩
 f29:=⟨Tryz.f177.name,by decide,Tryz.func177.trans (congrArg some (by kernel_rfl))⟩
 f31:=Tryz.func205.trans (congrArg some (by kernel_rfl))
 f32:=Tryz.func206.trans (congrArg some (by kernel_rfl))
 f36:=⟨Tryz.f204.name,by decide,Tryz.func204.trans (congrArg some (by kernel_rfl))⟩
 f37:=⟨Tryz.f207.name,by decide,Tryz.func207.trans (congrArg some (by kernel_rfl))⟩
 f38:=⟨Tryz.f208.name,by decide,Tryz.func208.trans (congrArg some (by kernel_rfl))⟩
 f39:=⟨Tryz.f147.name,by decide,Tryz.func147.trans (congrArg some (by kernel_rfl))⟩
 f41:=⟨Tryz.f219.name,by decide,Tryz.func219.trans (congrArg some (by kernel_rfl))⟩
 t0:=Tryz.underlying0
 a0:=Tryz.isAgg0
 z0:=Tryz.sizeOf0
 v0:=Tryz.zeroValue0
 t3:=Tryz.underlying3
 a3:=Tryz.isAgg3
 z3:=Tryz.sizeOf3
 v3:=Tryz.zeroValue3
 t4:=Tryz.underlying4
 a4:=Tryz.isAgg4
 z4:=Tryz.sizeOf4
 v4:=Tryz.zeroValue4
 t5:=Tryz.underlying5
 a5:=Tryz.isAgg5
 z5:=Tryz.sizeOf5
 v5:=Tryz.zeroValue5
 t9:=Tryz.underlying9
 a9:=Tryz.isAgg9
 z9:=Tryz.sizeOf9
 v9:=Tryz.zeroValue9
 t26:=Tryz.underlying80
 a26:=Tryz.isAgg80
 z26:=Tryz.sizeOf80
 v26:=Tryz.zeroValue80
 t27:=Tryz.underlying80
 a27:=Tryz.isAgg80
 z27:=Tryz.sizeOf80
 v27:=Tryz.zeroValue80
 t29:=Tryz.underlying9
 a29:=Tryz.isAgg9
 z29:=Tryz.sizeOf9
 v29:=Tryz.zeroValue9
 t32:=Tryz.underlying191
 a32:=Tryz.isAgg191
 z32:=Tryz.sizeOf191
 v32:=Tryz.zeroValue191
 t35:=Tryz.underlying209
 a35:=Tryz.isAgg209
 z35:=Tryz.sizeOf209
 v35:=Tryz.zeroValue209
 t36:=Tryz.underlying210
 a36:=Tryz.isAgg210
 z36:=Tryz.sizeOf210
 v36:=Tryz.zeroValue210
 t41:=Tryz.underlying215
 a41:=Tryz.isAgg215
 z41:=Tryz.sizeOf215
 v41:=Tryz.zeroValue215
 t44:=Tryz.underlying218
 a44:=Tryz.isAgg218
 z44:=Tryz.sizeOf218
 v44:=Tryz.zeroValue218
 t46:=Tryz.underlying143
 a46:=Tryz.isAgg143
 z46:=Tryz.sizeOf143
 v46:=Tryz.zeroValue143
 t53:=Tryz.underlying237
 a53:=Tryz.isAgg237
 z53:=Tryz.sizeOf237
 v53:=Tryz.zeroValue237
 t57:=Tryz.underlying241
 a57:=Tryz.isAgg241
 z57:=Tryz.sizeOf241
 v57:=Tryz.zeroValue241
 t63:=Tryz.underlying251
 a63:=Tryz.isAgg251
 z63:=Tryz.sizeOf251
 v63:=Tryz.zeroValue251
 t64:=Tryz.underlying252
 a64:=Tryz.isAgg252
 z64:=Tryz.sizeOf252
 v64:=Tryz.zeroValue252 }
theorem Tryz.sorts41 (m:Nat):AnyZ.SortsIn Tryz.prog Tryz.sorted41_ren Fence.wide m :=
 ⟨fun blk off cap ss W hH hblk hsz=>callsIn_wide.2 (AnyM.slices_Sort_string Tryz.sort83 blk off cap ss W hH hblk hsz),
  fun p cap W=>callsIn_wide.2 (AnyM.slices_Sort_string_none Tryz.sort83 p cap W)⟩
theorem Tryz.maps_Keys_42 (mb:Option Nat) (W:World):CallsIn Fence.wide 5 Tryz.prog 42 #[.map mb] W fun e w'=>e=.returned (.func (.func 84) #[] #[.pointer (some ⟨W.heap.size,0,none⟩)])∧w'=W.alloc (.cells #[.map mb] 75) :=
 AnyZ.keys_in Tryz.keys42 Fence.wide 5 trivial rfl mb W
theorem Tryz.slices_Sorted_keys_41_42 {H:Type} (b nn:Nat) (D0:DataW H) (R:Value→Option (DataW H×List MemPlace)) (w:World) (hown:w.ownsMap Tryz.prog 9 R b nn D0) (hmax:Maps.size D0≤maxLen) (hbytes:Maps.size D0*16≤140737488355328) :
  CallsIn Fence.wide 5 Tryz.prog 41 #[.func (.func 84) #[] #[.pointer (some ⟨w.heap.size,0,none⟩)]] (w.alloc (.cells #[.map (some b)] 75)) fun e w'=>∃ (v:Value) (ss:List (List UInt8)),e=.returned v∧ss.Perm (strKeys D0) ∧
   w'.ownsRow (w.alloc (.cells #[.map (some b)] 75)).heap.size 9 1 v ss.length ((ss.mergeSort (fun x y=>decide (x≤y))).map encStr)∧(v=.slice none 0 0↔ss=[])∧Below (w.alloc (.cells #[.map (some b)] 75)).heap.size (w.alloc (.cells #[.map (some b)] 75)) w':=by
 have hbl:=hown.lt;have hseq:SeqGives Fence.wide 2 Tryz.prog 84 #[.pointer (some ⟨w.heap.size,0,none⟩)] encStr (fun ss=>ss.Perm (strKeys D0)) (Maps.size D0) (w.alloc (.cells #[.map (some b)] 75)) :=
  AnyZ.keys_gives (ρ:=Tryz.keys42_ren) { Tryz.keys42 with } Fence.wide _ trivial rfl (by omega) w.heap.size b nn D0 _ (by simp) (by simp) (by
   obtain⟨es,clock,hb,Ft,hs,hD⟩:=hown
   exact⟨es,clock,(Below.heap_alloc _ _ b hbl).trans hb,Ft,hs,hD⟩)
 exact AnyZ.sorted_in Tryz.sorted41 Fence.wide 5 trivial trivial trivial trivial rfl (by omega) (Tryz.sorts41 _) (enters_of Tryz.func83 (by kernel_rfl) rfl) 84 #[.pointer (some ⟨w.heap.size,0,none⟩)] trivial (enters_of Tryz.func84 (by kernel_rfl) rfl) _ _ hmax hbytes _ hseq
end Go.Proofs
end
namespace Go.Proofs.YtjcjleaicjhpeaaGreatDoor
section
open Go.ChangeShapes Go.WideShapes Go.ChangeAt Go.RowKit Go.Maps Go.Shelf Go.Sort
theorem MapG.keysS {w:World} {B:Nat} {fs:List (ByteArray×Value)} (h:MapG kxS w B fs):∃ D:DataW Value,w.ownsMap Tryz.prog 9 zca B fs.length D∧Maps.size D=fs.length∧∀ ss:List (List UInt8),ss.Perm (strKeys D)→ss.mergeSort (fun x y=>decide (x≤y))=fs.map (fun x=>x.1.data.toList):=by
 obtain⟨D,hD,hH,hA,hS⟩:=h.map;refine⟨D,hD,hS,fun ss hp=>?_⟩;obtain⟨es,rfl,hke⟩:=hD.keysOf;obtain⟨es',e',ht⟩:=hD.tidy kxS.law;obtain rfl:es=es':=by simpa using e'
 have hk2:∀ p∈es,∃ x,p.1=.string x:=fun p hp=>by
  obtain⟨key,hk⟩:=hke p hp;obtain⟨x,_,hx,_⟩:=Maps.keyOf_str Tryz.underlying9 hk;exact⟨x,hx⟩
 have hinj:∀ a b:ByteArray×Value,a.1.data.toList=b.1.data.toList→a.1=b.1:=fun a b e=>zex e;have hnd:(fs.map (fun x=>x.1.data.toList)).Nodup:=by
  rw[List.Nodup,List.pairwise_map];refine List.Pairwise.imp ?_ (show fs.Pairwise (fun x y=>Kord.lt x.1 y.1) from h.rise);intro a b hab e;rw[hinj a b e] at hab;exact Kord.irr _ hab
 have hq:(fs.map (fun x=>x.1.data.toList)).Perm (strKeys (.map es)):=by
  refine perm_strKeys ht hk2 hnd (fun x=>?_);constructor
  ·intro hx;obtain⟨y,hy,rfl⟩:=List.mem_map.1 hx;exact(hH y.1 (h.okk y hy)).2 (List.mem_map.2 ⟨y,hy,rfl⟩)
  ·intro hx;have hex:∃ p∈es,p.1=.string x:=by
    rw[Maps.has_eq,List.any_eq_true] at hx;obtain⟨p,hp1,hp2⟩:=hx;obtain⟨a,ha⟩:=hk2 p hp1;rw[ha] at hp2;simp[Lit.sameKey] at hp2;exact⟨p,hp1,by rw[ha,hp2]⟩
   obtain⟨p,hp1,hp2⟩:=hex;obtain⟨key,hk⟩:=hke p hp1;obtain⟨s,hs,_,hl⟩:=kxS.inv hk;rw[hp2] at hl;have e:x=s.data.toList:=by simpa [kxS] using hl
   have h3:=(hH s hs).1 (by show Maps.has _ (.string s.data.toList)=true;rw[← e];exact hx);obtain⟨y,hy,hy2⟩:=List.mem_map.1 h3;exact List.mem_map.2 ⟨y,hy,by rw[hy2,e]⟩
 have h1:=mergeSort_of_perm (hp.trans hq.symm);refine h1.trans (List.mergeSort_of_pairwise ?_);refine List.pairwise_map.2 (List.Pairwise.imp (fun {a b} hab=>?_) (show fs.Pairwise (fun x y=>Kord.lt x.1 y.1) from h.rise));simp only[leB,decide_eq_true_eq];exact List.le_of_lt hab
def zrv (base:Nat) (w:World) (sp:Option Addr) (c:Nat) (l:List ByteArray):Prop:=w.ownsRow base 9 1 (.slice sp l.length c) l.length (l.map Value.string)
theorem zrv.cell {base:Nat} {w:World} {sp:Option Addr} {c:Nat} {l:List ByteArray} (h:zrv base w sp c l) (i:Nat) (hi:i<l.length):∃ g,sp=some ⟨g,0,none⟩∧base≤g∧g<w.heap.size∧∀ w':World,w'.heap[g]? = w.heap[g]?→w'.cell? ⟨g,i,none⟩=some (.string l[i]):=by
 rcases h.2 with⟨hv,h0⟩|⟨g,cap,cur,hv,hb,hg,hle,hmx,hsz,ht⟩
 ·omega
 ·simp only[Value.slice.injEq] at hv;refine⟨g,hv.1,hb,(Array.getElem?_eq_some_iff.1 hg).1,fun w' hw=>?_⟩;rw[cell_of_row w' g i cur _ _ (hw.trans hg)];have e:(l.map Value.string)[i]? = some (.string l[i]):=by rw[List.getElem?_map,List.getElem?_eq_getElem hi];rfl
  rw[← ht,List.getElem?_take,if_pos (by omega)] at e;rw[← Array.getElem?_toList,e]
theorem zm7 (b:Nat) (w:World):Calls Tryz.prog 42 #[.map (some b)] w fun e w'=>e=.returned (.func (.func 84) #[] #[.pointer (some ⟨w.heap.size,0,none⟩)])∧w'=w.alloc (.cells #[.map (some b)] 75) :=
 callsIn_wide.1 (Tryz.maps_Keys_42 (some b) w)
theorem zkq {w:World} {fs:List (ByteArray×Value)} {b:Nat} (h:MapG kxS w b fs) (hl:fs.length≤1000) :
  Calls Tryz.prog 41 #[.func (.func 84) #[] #[.pointer (some ⟨w.heap.size,0,none⟩)]] (w.alloc (.cells #[.map (some b)] 75)) fun e w'=>∃ sp c,e=.returned (.slice sp fs.length c)∧zrv w.heap.size w' sp c (fs.map (·.1))∧Below w.heap.size w w':=by
 obtain⟨D,hD,hS,hK⟩:=h.keysS;refine(callsIn_wide.1 (Tryz.slices_Sorted_keys_41_42 b _ D zca w hD (by rw[hS];simp only[maxLen];omega) (by rw[hS];omega))).mono ?_;rintro e w' ⟨v,ss,rfl,hp,hrow,hnil,hb⟩;have hm:=hK ss hp;rw[hm] at hrow;have hlen:ss.length=fs.length:=by have:=congrArg List.length hm;rw[List.length_mergeSort,List.length_map] at this;exact this
 rw[hlen] at hrow;have e1:(fs.map (fun x=>x.1.data.toList)).map encStr=(fs.map (·.1)).map Value.string:=by
  rw[List.map_map,List.map_map];exact List.map_congr_left fun x _=>by simp[encStr]
 rw[e1] at hrow;have b1:Below w.heap.size w (w.alloc (.cells #[.map (some b)] 75)):=(Below.refl _ _).alloc (Nat.le_refl _) _;have hv:∃ sp c,v=.slice sp fs.length c:=by
  rcases hrow.2 with⟨hv,h0⟩|⟨g,cap,cur,hv,_⟩
  ·exact⟨none,0,by rw[hv,h0]⟩
  ·exact⟨_,_,hv⟩
 obtain⟨sp,c,rfl⟩:=hv;refine⟨sp,c,rfl,?_,b1.trans (hb.mono b1.size)⟩;unfold zrv;rw[List.length_map];exact⟨hrow.1,hrow.2.imp id (fun ⟨g,cap,cur,h1,h2,h3⟩=>⟨g,cap,cur,h1,Nat.le_trans b1.size h2,h3⟩)⟩
end
end Go.Proofs.YtjcjleaicjhpeaaGreatDoor
