/- Entries read in memory; the contracts of tollgateref02.SameEntries, SameMsg. -/
import Derived.Test.YtofllbpfajppeaaGreatDoorB11
import Derived.Deep.RegionHeld3
import Derived.Test.YtofllbpfajppeaaGreatDoorB04
import Derived.Test.YtofllbpfajppeaaGreatDoorB01
set_option linter.unusedVariables false
set_option maxRecDepth 20000
set_option maxHeartbeats 16000000
namespace Go.Proofs.YtofllbpfajppeaaGreatDoor
section
open Go.ChangeShapes Go.WideShapes Go.ChangeAt Go.RowKit
abbrev EntI:=Int×Int×Int×List Nat
structure EntsAt (w:World) (a:Option Addr) (es:List EntI):Prop where
 cell:∀ i (hi:i<es.length),∃ b off dp dc,a=some ⟨b,off,none⟩∧w.cell? ⟨b,off+i*4,none⟩=some (.int .i64 (es[i]).1)∧w.cell? ⟨b,off+i*4+1,none⟩=some (.int .i64 (es[i]).2.1) ∧
  w.cell? ⟨b,off+i*4+2,none⟩=some (.int .i64 (es[i]).2.2.1)∧w.cell? ⟨b,off+i*4+3,none⟩=some (.slice dp (es[i]).2.2.2.length dc)∧BytesAt w dp (es[i]).2.2.2∧(dp=none→dc=0)
theorem EntsAt.later {w w':World} {a:Option Addr} {es:List EntI} (h:EntsAt w a es) (hb:Below w.heap.size w w'):EntsAt w' a es :=
 ⟨fun i hi=>by
  obtain⟨b,off,dp,dc,h0,h1,h2,h3,h4,h5,h6⟩:=h.cell i hi
  exact⟨b,off,dp,dc,h0,cell_later hb h1,cell_later hb h2,cell_later hb h3,cell_later hb h4,h5.later hb,h6⟩⟩
def toI (e:EntN):EntI:=(e.1,e.2.1,e.2.2.1,e.2.2.2)
theorem zk9:∀ (es:List EntN) (hs:List (Option Addr×Nat)) (i f:Nat) (hi:i<es.length) (hh:i<hs.length) (_:f<4),(zet es hs)[i*4+f]? = (zc8 es[i] hs[i])[f]?
 |[],_,i,_,hi,_,_=>by simp at hi
 |_::_,[],_,_,_,hh,_=>by simp at hh
 |e::es,h::hs,0,f,_,_,hf=>by
  simp only[zet,List.zip_cons_cons,List.flatMap_cons,Nat.zero_mul,Nat.zero_add,List.getElem_cons_zero];rw[List.getElem?_append_left (by simp only[zc8,List.length_cons,List.length_nil];omega)]
 |e::es,h::hs,i+1,f,hi,hh,hf=>by
  have ih:=zk9 es hs i f (by simpa using hi) (by simpa using hh) hf;simp only[zet,List.zip_cons_cons,List.flatMap_cons,List.getElem_cons_succ] at ih ⊢;rw[List.getElem?_append_right (by simp only[zc8,List.length_cons,List.length_nil];omega)];have e4:(i+1)*4+f - (zc8 e h).length=i*4+f:=by simp only[zc8,List.length_cons,List.length_nil];omega
  rw[e4];exact ih
theorem zli (a a':Option Addr) (n c c':Nat) (es:List EntI) (w:World) (hn:es.length=n) (hlen:n≤4611686018427387904) (hb:EntsAt w a es) (hb':EntsAt w a' es) :
  Calls Tryz.prog 15 #[.slice a n c,.slice a' n c'] w fun e w'=>e=.returned (.bool true)∧Below w.heap.size w w':=by
 have HB:=zaa hb;have HB':=zaa hb';have HN:=zaa hn;clear hb hb' hn;go_enter Tryz.func15,Tryz.ntmps15
 go_wp2_with fail
 go_loopw [5] (fun i wr=>∃ j:Nat,j≤n∧i=.int .i64 (j:Int)∧Hid (Below w.heap.size w wr)) (fun i _=>n - (intOf i).toNat)
 case atStart=>exact⟨0,by omega,rfl,Below.refl _ _⟩
 case round =>
  obtain⟨j,hj,rfl,F⟩:=hrel;by_cases hjn:j<n
  ·have hje:j<es.length:=by have:=za HN;omega
   obtain⟨b,off,dp,dc,rfl,p0,p1,p2,p3,p4,_⟩:=((za HB).later (za F)).cell j hje;obtain⟨b',off',dp',dc',rfl,q0,q1,q2,q3,q4,_⟩:=((za HB').later (za F)).cell j hje;generalize es[j]=e at *;obtain⟨k,t,i,d⟩:=e;have P4:=zaa p4;have Q4:=zaa q4;have hj0:(0:Int)≤(j:Int):=by omega
   have hj1:(j:Int)<(n:Int):=by omega
   clear p4 q4;simp only at p0 p1 p2 p3 q0 q1 q2 q3
   go_wp2_with fail
   go_region_held3 (fun w'=>w'.cell? ⟨b,off+j*4,none⟩=some (.int .i64 k)∧w'.cell? ⟨b,off+j*4+1,none⟩=some (.int .i64 t)∧w'.cell? ⟨b,off+j*4+2,none⟩=some (.int .i64 i)∧w'.cell? ⟨b,off+j*4+3,none⟩=some (.slice dp d.length dc) ∧
     w'.cell? ⟨b',off'+j*4,none⟩=some (.int .i64 k)∧w'.cell? ⟨b',off'+j*4+1,none⟩=some (.int .i64 t)∧w'.cell? ⟨b',off'+j*4+2,none⟩=some (.int .i64 i)∧w'.cell? ⟨b',off'+j*4+3,none⟩=some (.slice dp' d.length dc'))
    (first
     |exact⟨p0,p1,p2,p3,q0,q1,q2,q3⟩
     |exact⟨cell_later hb1 p0,cell_later hb1 p1,cell_later hb1 p2,cell_later hb1 p3,cell_later hb1 q0,cell_later hb1 q1,cell_later hb1 q2,cell_later hb1 q3⟩)
    (first
     |(go_at_call 50;refine(ziz k t i dp dp' d.length d.length dc dc' d _ rfl rfl (by exact(za P4).drew) (by exact(za Q4).drew)).mono ?_;rintro e W1 ⟨rfl,hb1⟩))
   have F1:=zaa ((za F).drew.trans (hb1.mono (za F).size));clear hb1
   go_wp2
   exact⟨⟨j+1,by omega,by go_num,za F1⟩,by simp[intOf];omega⟩
  ·go_wp2
   go_ret
   exact⟨rfl,za F⟩
def zbu (e:EntI) (h:Option Addr×Nat):List Value:=[.int .i64 e.1,.int .i64 e.2.1,.int .i64 e.2.2.1,.slice h.1 e.2.2.2.length h.2]
def zqs (es:List EntI) (hs:List (Option Addr×Nat)):List Value:=(es.zip hs).flatMap fun p=>zbu p.1 p.2
theorem zna (es:List EntI) (hs:List (Option Addr×Nat)) (e:EntI) (h:Option Addr×Nat) (hl:hs.length=es.length):zqs (es++[e]) (hs++[h])=zqs es hs++zbu e h:=by
 unfold zqs;rw[List.zip_append hl.symm,List.flatMap_append];simp
structure OwnEI (base:Nat) (w:World) (sp:Option Addr) (c:Nat) (es:List EntI):Prop where
 ex:∃ hs:List (Option Addr×Nat),hs.length=es.length∧w.ownsRow base 64 4 (.slice sp es.length c) es.length (zqs es hs)∧∀ i,i<es.length→OwnB base w (hs.getD i (none,0)).1 (hs.getD i (none,0)).2 (es.getD i default).2.2.2
theorem OwnEI.later {base:Nat} {w w':World} {sp:Option Addr} {c:Nat} {es:List EntI} (h:OwnEI base w sp c es) (hb:Below w.heap.size w w'):OwnEI base w' sp c es:=by
 obtain⟨hs,h1,h2,h3⟩:=h.ex;exact⟨hs,h1,ziv h2 hb,fun i hi=>(h3 i hi).later hb⟩
theorem zqx {w:World} (base:Nat) (sp:Option Addr) (c:Nat) (es:List EntI) (hown:OwnEI base w sp c es) (B:Nat) (e:EntI) (h:Option Addr×Nat)
  (hB:w.heap[B]? = some (.cells (zbu e h).toArray 64 (0,0))) (hd:OwnB base w h.1 h.2 e.2.2.2) (hn:(es.length+1)*48≤140737488355328) (hbase:base≤w.heap.size) (ty:TypeId) :
  ∃ sp' c' w',(Builtin.append_ #[27,27] ty #[.slice sp es.length c,.slice (some ⟨B,0,none⟩) 1 1]).run Tryz.prog w=.ok (.slice sp' (es.length+1) c') w'∧OwnEI base w' sp' c' (es++[e])∧w.grownBy w' (blk sp):=by
 obtain⟨hs,hl,hrow,hdat⟩:=hown.ex;obtain⟨i0,hi,hz0,hz1,hz2⟩:=info_parts zzf;obtain⟨v',w',hrun,h1,h2,_,_⟩:=run_append_own_at (P:=Tryz.prog) w base 27 ty 64 i0 _ 4 48 Tryz.underlying27 hi hz0 hz1 hz2 rfl (by omega) _ _ _ hrow ⟨B,0,none⟩ 1 1 (zbu e h) rfl
  (fun j u hu=>by have:=World.news_of_block hB j u;simp only at this;exact this hu) (by intro u hu;simp only[zbu,List.mem_cons,List.not_mem_nil,or_false] at hu;rcases hu with rfl|rfl|rfl|rfl <;> rfl) (by simp only[maxLen];omega) (by omega) hbase
 have hv:∃ sp' c',v'=.slice sp' (es.length+1) c':=by
  rcases h1.2 with⟨hv,h0⟩|⟨g,cap,cur,hv,_⟩
  ·omega
  ·exact⟨_,_,hv⟩
 obtain⟨sp',c',rfl⟩:=hv;rw[zal] at h2;refine⟨sp',c',w',hrun,⟨hs++[h],by simp[hl],?_,?_⟩,h2⟩
 ·rw[zna es hs e h hl,List.length_append];exact h1
 ·intro i hi;rw[List.length_append] at hi;simp only[List.length_cons,List.length_nil] at hi;by_cases hi':i<es.length
  ·rw[List.getD_eq_getElem?_getD,List.getElem?_append_left (by omega),List.getD_eq_getElem?_getD,List.getElem?_append_left hi',← List.getD_eq_getElem?_getD,← List.getD_eq_getElem?_getD];exact(hdat i hi').grownNe h2 (fun g hg=>(hdat i hi').notEnts hrow g hg)
  ·obtain rfl:i=es.length:=by omega
   have e1:(hs++[h]).getD es.length (none,0)=h:=by rw[List.getD_eq_getElem?_getD,List.getElem?_append_right (by omega),hl];simp
   have e2:(es++[e]).getD es.length default=e:=by rw[List.getD_eq_getElem?_getD,List.getElem?_append_right (Nat.le_refl _)];simp
   rw[e1,e2];exact hd.grownNe h2 (fun g hg=>hd.notEnts hrow g hg)
theorem zhb:∀ (es:List EntI) (hs:List (Option Addr×Nat)) (i f:Nat) (hi:i<es.length) (hh:i<hs.length) (_:f<4),(zqs es hs)[i*4+f]? = (zbu es[i] hs[i])[f]?
 |[],_,i,_,hi,_,_=>by simp at hi
 |_::_,[],_,_,_,hh,_=>by simp at hh
 |e::es,h::hs,0,f,_,_,hf=>by
  simp only[zqs,List.zip_cons_cons,List.flatMap_cons,Nat.zero_mul,Nat.zero_add,List.getElem_cons_zero];rw[List.getElem?_append_left (by simp only[zbu,List.length_cons,List.length_nil];omega)]
 |e::es,h::hs,i+1,f,hi,hh,hf=>by
  have ih:=zhb es hs i f (by simpa using hi) (by simpa using hh) hf;simp only[zqs,List.zip_cons_cons,List.flatMap_cons,List.getElem_cons_succ] at ih ⊢;rw[List.getElem?_append_right (by simp only[zbu,List.length_cons,List.length_nil];omega)];have e4:(i+1)*4+f - (zbu e h).length=i*4+f:=by simp only[zbu,List.length_cons,List.length_nil];omega
  rw[e4];exact ih
theorem OwnEI.ents {base:Nat} {w:World} {sp:Option Addr} {c:Nat} {es:List EntI} (h:OwnEI base w sp c es):EntsAt w sp es:=by
 obtain⟨hs,hl,hrow,hdat⟩:=h.ex;refine⟨fun i hi=>?_⟩;rcases hrow.2 with⟨_,h0⟩|⟨g,cap,cur,hv,_,hg,_,_,_,ht⟩
 ·omega
 ·simp only[Value.slice.injEq] at hv;obtain⟨rfl,_,_⟩:=hv;have hih:i<hs.length:=by omega
  have key:∀ f,f<4→w.cell? ⟨g,0+i*4+f,none⟩=(zbu es[i] hs[i])[f]?:=by
   intro f hf;rw[cell_of_row w g _ cur _ _ hg,Nat.zero_add];have e:=zhb es hs i f hi hih hf;rw[← ht,List.getElem?_take,if_pos (by omega)] at e;rw[← Array.getElem?_toList,e]
  have hd:=hdat i hi;have e1:hs.getD i (none,0)=hs[i]:=by rw[List.getD_eq_getElem?_getD,List.getElem?_eq_getElem hih];rfl
  have e2:es.getD i default=es[i]:=by rw[List.getD_eq_getElem?_getD,List.getElem?_eq_getElem hi];rfl
  rw[e1,e2] at hd;refine⟨g,0,hs[i].1,hs[i].2,rfl,?_,?_,?_,?_,?_,?_⟩
  ·have:=key 0 (by omega);simpa [zbu] using this
  ·have:=key 1 (by omega);simpa [zbu] using this
  ·have:=key 2 (by omega);simpa [zbu] using this
  ·have:=key 3 (by omega);simpa [zbu] using this
  ·simpa using hd.bytes
  ·intro e;rcases hd.owns.2 with⟨hv,_⟩|⟨g',cap',cur',hv,_⟩
   ·simp only[Value.slice.injEq] at hv;exact hv.2.2
   ·simp only[Value.slice.injEq] at hv;rw[hv.1] at e;cases e
theorem OwnB.ne_block {base:Nat} {w:World} {sp:Option Addr} {c:Nat} {l:List Nat} (h:OwnB base w sp c l) {g:Nat} {cs:Array Value} {T:TypeId} {fr:Nat×Nat} (hg:w.heap[g]? = some (.cells cs T fr)) (hT:T≠5):blk sp≠some g:=by
 intro hs;rcases h.owns.2 with⟨hv,_⟩|⟨g1,cap,cur,hv,_,hh,_⟩
 ·simp only[Value.slice.injEq] at hv;rw[hv.1] at hs;cases hs
 ·simp only[Value.slice.injEq] at hv;rw[hv.1] at hs;obtain rfl:g1=g:=by simpa [blk] using hs
  rw[hh] at hg;simp only[Option.some.injEq,Obj.cells.injEq] at hg;exact hT hg.2.1.symm
theorem zlw {w:World} {ops:Array Oper} {rest:List Oper} {o:Oper} {a:Act} {Q:Exit→Act→World→Prop} (hgd:o.guard=none) (s x:Operand)
  (ho:o.op=.call { callee:=.builtin .append,args:=#[s,x],argTypes:=#[27,27] })
  (base:Nat) (sp:Option Addr) (n c:Nat) (es:List EntI) (hs:a.eval s=.slice sp n c) (hn:es.length=n) (hown:OwnEI base w sp c es) (B:Nat) (e:EntI) (h:Option Addr×Nat) (hx:a.eval x=.slice (some ⟨B,0,none⟩) 1 1)
  (hB:w.heap[B]? = some (.cells (zbu e h).toArray 64 (0,0))) (hd:OwnB base w h.1 h.2 e.2.2.2) (hlen:(es.length+1)*48≤140737488355328) (hbase:base≤w.heap.size)
  (hk:∀ sp' c' w',OwnEI base w' sp' c' (es++[e])→w.grownBy w' (blk sp)→wpList Tryz.prog ops Q rest (a.put o.dst (.slice sp' (n+1) c')) w') :
  wpList Tryz.prog ops Q (o::rest) a w:=by
 subst hn;refine wpList_plain hgd fun K hK=>?_;obtain⟨sp',c',w',hrun,h1,h2⟩:=zqx (w:=w) base sp c es hown B e h hB hd hlen hbase o.type;unfold Oper.wp;simp[execOp,ho,resolve,invoke,builtin,hs,hx,hrun,Result.andThen];exact hK _ _ (hk sp' c' w' h1 h2)
theorem OwnEI.blk_ge {base:Nat} {w:World} {sp:Option Addr} {c:Nat} {es:List EntI} (h:OwnEI base w sp c es):∀ g,blk sp=some g→base≤g:=by
 intro g hg;obtain⟨hs,_,h2,_⟩:=h.ex;exact(h2.lt g (by rw[zal];exact hg)).1
theorem OwnEI.empty (w:World) (base:Nat) (hb:base≤w.heap.size):OwnEI base (w.alloc (.cells #[] 64)) (some ⟨w.heap.size,0,none⟩) 0 [] :=
 ⟨[],rfl,⟨rfl,.inr ⟨w.heap.size,0,#[],rfl,hb,zad _ _,Nat.le_refl _,by simp[maxLen],rfl,rfl⟩⟩,by simp⟩
theorem zfw (a:Option Addr) (n c:Nat) (es:List EntI) (w:World) (hn:es.length=n) (hlen:n*48≤140737488355328) (hd:∀ e∈es,e.2.2.2.length≤140737488355328) (hb:EntsAt w a es) :
  Calls Tryz.prog 28 #[.slice a n c] w fun e w'=>∃ sp' c',e=.returned (.slice sp' n c')∧OwnEI w.heap.size w' sp' c' es∧Below w.heap.size w w':=by
 have HB:=zaa hb;have HN:=zaa hn;have HD:=zaa hd;clear hb hn hd;have O0:=zaa (OwnEI.empty w w.heap.size (Nat.le_refl _));have b0:=zaa (show Below w.heap.size w (w.alloc (.cells #[] 64)) from(Below.refl _ _).alloc (Nat.le_refl _) _);go_enter Tryz.func28,Tryz.ntmps28
 go_wp2_with fail
 go_loopw [3,4] (fun v i wr=>∃ (j:Nat) (sp':Option Addr) (c':Nat),j≤n∧v=.slice sp' j c'∧i=.int .i64 (j:Int)∧Hid (OwnEI w.heap.size wr sp' c' (es.take j))∧Hid (Below w.heap.size w wr)) (fun _ i _=>n - (intOf i).toNat)
 case atStart=>exact⟨0,_,0,by omega,rfl,rfl,za O0,za b0⟩
 case round =>
  obtain⟨j,sp',c',hj,rfl,rfl,O,F⟩:=hrel;by_cases hjn:j<n
  ·have hje:j<es.length:=by have:=za HN;omega
   obtain⟨b,off,dp,dc,rfl,p0,p1,p2,p3,p4,p5⟩:=((za HB).later (za F)).cell j hje;have htk:=zaa (List.take_succ_eq_append_getElem hje);have hdl:=zaa (za HD _ (List.getElem_mem hje));generalize es[j]=ee at *;obtain⟨k',t',i',d'⟩:=ee;simp only at p0 p1 p2 p3;have hj0:(0:Int)≤(j:Int):=by omega
   have hj1:(j:Int)<(n:Int):=by omega
   have P4:=zaa p4;have P5:=zaa p5;clear p4 p5;have bA:=zaa (show Below wr.heap.size wr ((wr.alloc (entB k' t' i' dp d'.length dc)).alloc (.cells #[] 5)) from((Below.refl _ _).alloc (Nat.le_refl _) _).alloc (by rw[size_alloc];omega) _);have q3:=cell_later (za bA) p3;have hbs:=zaa (za F).size;have OE:=zaa (OwnB.empty (wr.alloc (entB k' t' i' dp d'.length dc)) w.heap.size (by rw[size_alloc];exact Nat.le_succ_of_le (za hbs)));rw[size_alloc] at OE;have X1:=zaa (show((wr.alloc (entB k' t' i' dp d'.length dc)).alloc (.cells #[] 5)).heap[wr.heap.size]? = some (entB k' t' i' dp d'.length dc) from zbp _ (zad wr _));have hsz2:((wr.alloc (entB k' t' i' dp d'.length dc)).alloc (.cells #[] 5)).heap.size=wr.heap.size+1+1:=by rw[size_alloc,size_alloc]
   have HS2:=zaa hsz2;clear hsz2
   go_wp2_with (at_builtin;refine za ?_)
   refine zaa ?_;refine zby rfl (.tmp 17) (.tmp 22) rfl w.heap.size (some ⟨wr.heap.size+1,0,none⟩) 0 0 [] rfl rfl (by exact za OE) dp d'.length dc rfl d' rfl (by exact(za P4).later (za bA)) (za P5) (by have:=za hdl;simp only[List.length_nil];omega) (by exact Nat.le_trans (za hbs) (za bA).size) ?_;intro sp2 n2 c2 W2 hn2 ho2 hg2 hl2;obtain rfl:d'.length=n2:=za hn2;have O2:=zaa (show OwnB w.heap.size W2 sp2 c2 d' from ho2);have hg2':((wr.alloc (entB k' t' i' dp d'.length dc)).alloc (.cells #[] 5)).grownBy W2 (some (wr.heap.size+1)):=hg2;have bO:=zaa (show Below wr.heap.size wr W2 from(za bA).grown hg2' (za bA).size (fun g hg=>by have:=Option.some.inj hg;omega));have x2:W2.heap[wr.heap.size]? = some (entB k' t' i' dp d'.length dc):=(hg2'.block _ (Array.getElem?_eq_some_iff.1 (za X1)).1 (fun e=>by have:=Option.some.inj e;omega)).trans (za X1);have hs2:wr.heap.size+2≤W2.heap.size:=by have:=hg2'.size;rw[za HS2] at this;omega
   have f3:W2.frozen? ⟨wr.heap.size,3,none⟩=false:=by simp[World.frozen?,x2]
   have v3:=(zar x2).2.2.2;have x3:(W2.setCell ⟨wr.heap.size,3,none⟩ (.slice sp2 d'.length c2)).heap[wr.heap.size]? = some (entB k' t' i' sp2 d'.length c2):=by
    simpa using heap_setCell_same W2 wr.heap.size 3 _ 64 (.slice sp2 d'.length c2) x2
   obtain⟨z0,z1,z2,z3⟩:=zar x3;have g3:=zaf W2 wr.heap.size 3 (.slice sp2 d'.length c2)
   have O3:=zaa ((za O2).grownNe g3 (fun g hg e=>by
    rw[← Option.some.inj e] at hg
    exact(za O2).ne_block x2 (by decide) hg))
   have hsz3:=zaa (show(W2.setCell ⟨wr.heap.size,3,none⟩ (.slice sp2 d'.length c2)).heap.size=W2.heap.size by simp);have b3:=zaa ((za bO).grown g3 (za bO).size (fun g hg=>by have:=Option.some.inj hg;omega));have OE3:=zaa ((za O).later (za b3));have hlj:=zaa (show(es.take j).length=j by rw[List.length_take];omega);clear hn2 ho2 hg2 hl2 hg2' OE O X1 HS2 bA q3 P4 P5 p0 p1 p2 p3 x2
   go_wp2_with (at_builtin;refine za ?_)
   refine zaa ?_;generalize W2.setCell ⟨wr.heap.size,3,none⟩ (.slice sp2 d'.length c2)=W3 at *;have b4:Below W3.heap.size W3 (W3.alloc (entB k' t' i' sp2 d'.length c2)):=(Below.refl _ _).alloc (Nat.le_refl _) _;refine zlw rfl (.tmp 25) (.tmp 27) rfl w.heap.size sp' j c' (es.take j) rfl (za hlj) ((za OE3).later b4) W2.heap.size (k',t',i',d') (sp2,c2) rfl (by rw[← za hsz3];exact zad W3 _) ((za O3).later b4) (by have:=za hlj;omega) (by exact Nat.le_trans (za hbs) (Nat.le_trans (za b3).size b4.size)) ?_;intro sp5 c5 W5 ho5 hg5;rw[← za htk] at ho5;have F5:=zaa ((za F).trans (((za b3).trans (b4.mono (za b3).size)).mono (za F).size));have F6:=zaa ((za F5).grown hg5 (za F5).size (fun g hg=>(za OE3).blk_ge g hg));have O6:=zaa ho5;clear ho5 hg5 b4 F5 z0 z1 z2 z3 f3 v3 x3 g3
   go_wp2
   exact⟨⟨j+1,sp5,c5,by omega,rfl,by go_num,za O6,za F6⟩,by simp[intOf];omega⟩
  ·have hfull:es.take j=es:=List.take_of_length_le (by have:=za HN;omega);rw[hfull] at O;clear hfull;obtain rfl:j=n:=by omega
   go_wp2
   go_ret
   exact⟨sp',c',rfl,za O,za F⟩
instance (k t i:Int) (n:Nat):Decidable (zrl k t i n):=by unfold zrl;infer_instance
def zi6 (e:EntI):Except Nat (List Nat):=if zrl e.1 e.2.1 e.2.2.1 e.2.2.2.length then (if e.2.2.2.length≤2048 then .ok (zct e.1.toNat e.2.1.toNat e.2.2.1.toNat e.2.2.2) else .error 6) else .error 2
def zcl:List EntI→Except Nat (List Nat)
 |[]=>.ok []
 |e::r=>match zi6 e with
  |.error x=>.error x
  |.ok b=>match zcl r with
   |.error x=>.error x
   |.ok l=>.ok (zjw 3 b++l)
theorem zdh (e:EntI) (r:List EntI):zcl (e::r)=(match zi6 e with
  |.error x=>.error x
  |.ok b=>match zcl r with
   |.error x=>.error x
   |.ok l=>.ok (zjw 3 b++l)):=rfl
theorem zk5:∀ (a b:List EntI) (l:List Nat),zcl a=.ok l→zcl (a++b)=(match zcl b with
  |.error x=>.error x
  |.ok m=>.ok (l++m))
 |[],b,l,h=>by
  cases h
  rw[List.nil_append];cases zcl b <;> rfl
 |e::r,b,l,h=>by
  rw[List.cons_append,zdh];rw[zdh] at h;cases hp:zi6 e with
  |error x=>rw[hp] at h;cases h
  |ok c =>
   rw[hp] at h;dsimp only at h ⊢;cases hr:zcl r with
   |error x=>rw[hr] at h;cases h
   |ok m =>
    rw[hr] at h;cases h
    rw[zk5 r b m hr];cases zcl b with
    |error x=>rfl
    |ok q=>dsimp only;rw[List.append_assoc]
theorem zqf (a:List EntI) (e:EntI) (b:List EntI) (l:List Nat) (x:Nat) (h:zcl a=.ok l) (hp:zi6 e=.error x):zcl (a++e::b)=.error x:=by
 rw[zk5 a _ l h,zdh,hp]
theorem zn (a:List EntI) (e:EntI) (l c:List Nat) (h:zcl a=.ok l) (hp:zi6 e=.ok c):zcl (a++[e])=.ok (l++zjw 3 c):=by
 rw[zk5 a _ l h,zdh,hp];dsimp only[zcl];rw[List.append_nil]
theorem zhi (k t i:Nat) (d:List Nat) (ht:t≤1099511627776) (hi:i≤1099511627776) (hd:d.length≤2048):(zct k t i d).length≤2067:=by
 unfold zct;have h1:=zbt t ht;have h2:=zbt i hi;have h3:=zbt d.length (by omega);simp only[List.length_cons,List.length_append];omega
theorem zk1 {e:EntI} {b:List Nat} (h:zi6 e=.ok b):∃ k t i:Nat,e.1=k∧e.2.1=t∧e.2.2.1=i∧zrl k t i e.2.2.2.length∧e.2.2.2.length≤2048∧b=zct k t i e.2.2.2∧b.length≤2067:=by
 unfold zi6 at h;split at h
 ·rename_i hm
  split at h
  ·rename_i hl
   cases h
   have hm':=hm;obtain⟨⟨a1,a2⟩,⟨b1,b2⟩,⟨c1,c2⟩,_⟩:=hm';refine⟨e.1.toNat,e.2.1.toNat,e.2.2.1.toNat,by omega,by omega,by omega,?_,hl,rfl,zhi _ _ _ _ (by omega) (by omega) hl⟩;rw[show((e.1.toNat:Nat):Int)=e.1 by omega,show((e.2.1.toNat:Nat):Int)=e.2.1 by omega,show((e.2.2.1.toNat:Nat):Int)=e.2.2.1 by omega];exact hm
  ·cases h
 ·cases h
def zwf (w:World) (r:Except Nat (List Nat)) (e:Ending) (w':World):Prop:=Below w.heap.size w w'∧(match r with
 |.ok l=>∃ sp n c,e=.returned (.tuple #[.slice sp n c,.int .i64 0])∧Hid (l.length=n)∧OwnB w.heap.size w' sp c l
 |.error x=>e=.returned (.tuple #[.slice none 0 0,.int .i64 (x:Int)]))
theorem zfi (a:Option Addr) (n c:Nat) (es:List EntI) (w:World) (hn:es.length=n) (hb:EntsAt w a es) (hl:n≤1000000) :
  Calls Tryz.prog 64 #[.slice a n c] w (zwf w (zcl es)):=by
 have HE:=zaa hb;have HN:=zaa hn;clear hb hn;have FEo:=zaa (show ∀ l,zcl es=.ok l→∀ sp m c' W,Hid (l.length=m)→OwnB w.heap.size W sp c' l→Below w.heap.size w W→zwf w (zcl es) (.returned (.tuple #[.slice sp m c',.int .i64 0])) W from fun l h sp m c' W h1 h2 h3=>by rw[h];exact⟨h3,sp,m,c',rfl,h1,h2⟩);have FEe:=zaa (show ∀ (x:Nat) W,zcl es=.error x→Below w.heap.size w W→zwf w (zcl es) (.returned (.tuple #[.slice none 0 0,.int .i64 (x:Int)])) W from fun x W h h3=>by rw[h];exact⟨h3,rfl⟩);go_enter Tryz.func64,Tryz.ntmps64
 go_wp2_with fail
 go_loopw [4,11] (fun v i wr=>∃ (j:Nat) (l:List Nat) (sp:Option Addr) (m k:Nat),j≤n∧i=.int .i64 (j:Int)∧v=.slice sp m k∧Hid (zcl (es.take j)=.ok l)∧Hid (l.length=m)∧Hid (m≤j*2100)∧Hid (OwnB w.heap.size wr sp k l)∧Hid (Below w.heap.size w wr)) (fun _ i _=>n - (intOf i).toNat)
 case atStart=>exact⟨0,[],none,0,0,by omega,rfl,rfl,zaa rfl,zaa rfl,zaa (by omega),zaa (OwnB.ofNil _ _),zaa (Below.refl _ _)⟩
 case round =>
  obtain⟨j,l,sp,m,k,hj,rfl,rfl,HR,HM,HB,O,B⟩:=hrel;by_cases hjn:j<n
  ·have y0:(0:Int)≤(j:Int):=by omega
   have y1:(j:Int)<(n:Int):=by omega
   have hjl:j<es.length:=by rw[za HN];exact hjn
   obtain⟨b,off,dp,dc,rfl,q0,q1,q2,q3,q4,q5⟩:=(za HE).cell j hjl;have p0:=cell_later (za B) q0;have p1:=cell_later (za B) q1;have p2:=cell_later (za B) q2;have p3:=cell_later (za B) q3;have Y:=zaa (q4.later (za B));have Z:=zaa q5;have TK:=zaa (show es=es.take j++es[j]::es.drop (j+1) by simp);have TS:=zaa (show es.take (j+1)=es.take j++[es[j]] by rw[List.take_succ_eq_append_getElem hjl]);clear q0 q1 q2 q3 q4 q5;generalize es[j]=e at *;obtain⟨ek,et,ei,ed⟩:=e;dsimp only at p0 p1 p2 p3 Y;have v1:Below wr.heap.size wr (wr.alloc (entB ek et ei dp ed.length dc)):=(Below.refl _ _).alloc (Nat.le_refl _) _;have X1:=zad wr (entB ek et ei dp ed.length dc);obtain⟨e0,e1,e2,e3⟩:=zar X1;have B1:=zaa ((za B).trans (v1.mono (za B).size));have O1:=zaa ((za O).later v1);have Y1:=zaa ((za Y).later v1);clear v1 X1;cases hp:zi6 (ek,et,ei,ed) with
   |error x =>
    have PE:=zaa (show ∀ W,Calls Tryz.prog 103 #[entV ek et ei dp ed.length dc] W fun e w'=>e=.returned (.tuple #[.slice none 0 0,.int .i64 (x:Int)])∧Below W.heap.size W w' from fun W=>by
     unfold zi6 at hp;dsimp only at hp;by_cases hm:zrl ek et ei ed.length
     ·rw[if_pos hm] at hp;by_cases hl2:ed.length≤2048
      ·rw[if_pos hl2] at hp;cases hp
      ·rw[if_neg hl2] at hp;cases hp
       exact zoc ek et ei dp ed.length dc W hm (by omega)
     ·rw[if_neg hm] at hp;cases hp
      exact zsd ek et ei dp ed.length dc W hm)
    have hx0:¬ (x:Int)=0:=by
     unfold zi6 at hp;split at hp
     ·split at hp
      ·cases hp
      ·cases hp;omega
     ·cases hp;omega
    have hx1:((x:Int)==0)=false:=by simp;omega
    have ER:=zaa (show zcl es=.error x by rw[za TK];exact zqf _ _ _ l x (za HR) hp);unfold entV at PE;clear hp
    go_wp2_with fail
    clear e0 e1 e2 e3 p0 p1 p2 p3;generalize wr.alloc _=W1 at *;go_at_call 103
    refine(za PE _).mono ?_;rintro r W2 ⟨rfl,b2⟩;have FE:=zaa (za FEe x W2 (za ER) ((za B1).trans (b2.mono (za B1).size)));clear b2
    go_wp2
    go_ret2
    exact za FE
   |ok bb =>
    obtain⟨kk,tt,ii,rfl,rfl,rfl,hm,hl2,hbb,hbl⟩:=zk1 hp;dsimp only at hm hl2 hbb;subst hbb;have PE:=zaa (fun W (hB:BytesAt W dp ed)=>zp9 kk tt ii dp ed.length dc ed W hm rfl hB (za Z) hl2);have ER:=zaa (show zcl (es.take (j+1))=.ok (l++zjw 3 (zct kk tt ii ed)) by rw[za TS];exact zn _ _ l _ (za HR) hp);unfold entV at PE;clear hp hm hl2;generalize zct kk tt ii ed=bb at *
    go_wp2_with fail
    clear e0 e1 e2 e3 p0 p1 p2 p3;generalize wr.alloc _=W1 at *;go_at_call 103
    refine(za PE _ (za Y1)).mono ?_;rintro r W2 ⟨sp2,n2,k2,rfl,hn2,o2,b2⟩;have B2:=zaa ((za B1).trans (b2.mono (za B1).size));have O2:=zaa ((za O1).later b2);have FC:=zaa (zgz 3 sp2 n2 k2 bb W2 (by omega) (za hn2) (by exact o2.bytes) (show sp2=none→k2=0 from(show Bx W1.heap.size W2 sp2 k2 bb from o2.toBx).nil0) (by rw[← za hn2];omega));clear b2 o2
    go_wp2_with fail
    go_at_call 104
    refine(za FC).mono ?_;rintro r W3 ⟨g3,n3,rfl,hn3,o3,b3⟩;have B3:=zaa ((za B2).trans (b3.mono (za B2).size));have O3:=zaa ((za O2).later b3);have Y3:=zaa o3.bytes;have HS:=zaa (show l.length+n3≤140737488355328 by rw[za HM,← za hn3,zdc];have:=za HB;omega);have N3:=zaa (show n3≤2080 by rw[← za hn3,zdc];omega);clear b3 o3
    go_wp2_with (at_builtin;refine zas rfl (.tmp 23) (.tmp 25) rfl w.heap.size sp m k l rfl (za HM) (by exact za O3) (some ⟨g3,0,none⟩) n3 n3 rfl (zjw 3 bb) (za hn3) (by exact za Y3) (fun h=>by cases h) (za HS) (by exact(za B3).size) ?_;intro sp4 n4 c4 W4 hn4 ho4 hg4 hb4)
    have B4:=zaa ((za B3).trans hb4);have O4:=zaa ho4;have N4:=zaa (show n4≤(j+1)*2100 by rw[← za hn4,List.length_append,za HM,za hn3];have:=za HB;have:=za N3;omega);clear hb4 ho4 hg4
    go_wp2
    exact⟨⟨j+1,_,sp4,n4,c4,by omega,by go_num,rfl,ER,hn4,N4,O4,B4⟩,by simp[intOf];omega⟩
  ·have hjj:¬ (j:Int)<(n:Int):=by omega
   obtain rfl:j=n:=by omega
   have FE:=zaa (za FEo l (by have h:=za HR;rwa [List.take_of_length_le (by rw[za HN];exact Nat.le_refl _)] at h) sp m k wr HM (za O) (za B))
   go_wp2
   go_ret2
   exact za FE
structure Wc where
 bi:Nat
 bt:Nat
 ht:Nat
 hv:Nat
 es:List EntN
def wc0:Wc:=⟨0,0,0,0,[]⟩
structure OwnL (base:Nat) (w:World) (sp:Option Addr) (c:Nat) (es:List EntN) (hs:List (Option Addr×Nat)):Prop where
 len:hs.length=es.length
 row:w.ownsRow base 64 4 (.slice sp es.length c) es.length (zet es hs)
 dat:∀ i (hi:i<es.length) (hj:i<hs.length),Bx base w hs[i].1 hs[i].2 es[i].2.2.2
def zc6 (sp:Option Addr) (hs:List (Option Addr×Nat)) (g:Nat):Prop:=blk sp=some g∨∃ h∈hs,blk h.1=some g
section
variable {base:Nat} {w w':World} {sp:Option Addr} {c:Nat} {es:List EntN} {hs:List (Option Addr×Nat)}
theorem OwnL.ofNil (base:Nat) (w:World):OwnL base w none 0 [] []:=⟨rfl,w.ownsRow_nil base 64 4,fun i hi=>by simp at hi⟩
theorem OwnL.foot (h:OwnL base w sp c es hs):∀ g,zc6 sp hs g→base≤g∧g<w.heap.size∧∃ (cur:Array Value) (T:TypeId),w.heap[g]? = some (.cells cur T (0,0))∧(T=64∨T=5):=by
 rintro g (hg|⟨x,hx,hg⟩)
 ·rcases h.row.2 with⟨hv,h0⟩|⟨g',cap,cur,hv,hbg,hh,_⟩
  ·simp only[Value.slice.injEq] at hv;rw[hv.1] at hg;cases hg
  ·simp only[Value.slice.injEq] at hv;rw[hv.1] at hg;cases hg
   exact⟨hbg,(Array.getElem?_eq_some_iff.1 hh).1,cur,_,hh,.inl rfl⟩
 ·obtain⟨i,hi,rfl⟩:=List.getElem_of_mem hx;obtain⟨h1,h2,cur,h3⟩:=(h.dat i (by rw[← h.len];exact hi) hi).isT g hg;exact⟨h1,h2,cur,_,h3,.inr rfl⟩
theorem OwnL.same (h:OwnL base w sp c es hs) (hk:∀ g,zc6 sp hs g→w'.heap[g]? = w.heap[g]?):OwnL base w' sp c es hs:=by
 refine⟨h.len,⟨h.row.1,?_⟩,fun i hi hj=>(h.dat i hi hj).same (fun g hg=>hk g (.inr ⟨_,List.getElem_mem hj,hg⟩))⟩;rcases h.row.2 with hv|⟨g,cap,cur,hv,hbg,hg,r⟩
 ·exact .inl hv
 ·refine .inr ⟨g,cap,cur,hv,hbg,(hk g (.inl ?_)).trans hg,r⟩;simp only[Value.slice.injEq] at hv;rw[hv.1];rfl
theorem OwnL.later (h:OwnL base w sp c es hs) (hb:Below w.heap.size w w'):OwnL base w' sp c es hs:=h.same (fun g hg=>hb.block g (h.foot g hg).2.1)
theorem OwnL.mono {base':Nat} (h:OwnL base w sp c es hs) (hb:base'≤base):OwnL base' w sp c es hs :=
 ⟨h.len,⟨h.row.1,h.row.2.imp id (fun ⟨g,cap,cur,h1,h2,h3⟩=>⟨g,cap,cur,h1,Nat.le_trans hb h2,h3⟩)⟩,fun i hi hj=>(h.dat i hi hj).mono hb⟩
theorem OwnL.ents (h:OwnL base w sp c es hs):EntsAt w sp (es.map toI):=by
 refine⟨fun i hi=>?_⟩;have hi':i<es.length:=by simpa using hi
 have hh:i<hs.length:=by rw[h.len];exact hi'
 rcases h.row.2 with⟨hv,h0⟩|⟨g,cap,cur,hv,hb,hg,hle,hmx,hsz,ht⟩
 ·omega
 ·simp only[Value.slice.injEq] at hv;obtain⟨rfl,_,rfl⟩:=hv;have one:∀ f,f<4→w.cell? ⟨g,0+i*4+f,none⟩=(zc8 es[i] hs[i])[f]?:=fun f hf=>by
   have hk:=zk9 es hs i f hi' hh hf;rw[Nat.zero_add,cell_of_row w g _ cur _ _ hg,← Array.getElem?_toList];have hj:i*4+f<es.length*4:=by omega
   rw[← ht,List.getElem?_take,if_pos hj] at hk;exact hk
  have e:(es.map toI)[i]=toI es[i]:=by simp
  rw[e];have hd:=h.dat i hi' hh;exact⟨g,0,hs[i].1,hs[i].2,rfl,one 0 (by omega),one 1 (by omega),one 2 (by omega),one 3 (by omega),hd.bytes,hd.nil0⟩
theorem znc:∀ (es:List EntN) (hs:List (Option Addr×Nat)) (k:Nat),hs.length=es.length→zet (es.take k) (hs.take k)=(zet es hs).take (k*4)
 |[],[],k,_=>by simp[zet]
 |[],_::_,_,h=>by simp at h
 |_::_,[],_,h=>by simp at h
 |e::es,h::hs,0,_=>by simp[zet]
 |e::es,h::hs,k+1,hl=>by
  have ih:=znc es hs k (by simpa using hl);have hc:∀ (e:EntN) (es:List EntN) (h:Option Addr×Nat) (hs:List (Option Addr×Nat)),zet (e::es) (h::hs)=zc8 e h++zet es hs:=fun _ _ _ _=>rfl;have t1:(zc8 e h).take (4+k*4)=zc8 e h:=List.take_of_length_le (show 4≤4+k*4 by omega);rw[List.take_succ_cons,List.take_succ_cons,hc,hc,ih,show(k+1)*4=4+k*4 by omega,List.take_append,t1,show 4+k*4 - (zc8 e h).length=k*4 from by show 4+k*4 - 4=k*4;omega]
theorem OwnL.take (h:OwnL base w sp c es hs) (k:Nat) (hk:k≤es.length):OwnL base w sp c (es.take k) (hs.take k):=by
 have hl:(es.take k).length=k:=by rw[List.length_take];omega
 refine⟨by rw[List.length_take,List.length_take,h.len],?_,fun i hi hj=>?_⟩
 ·rw[hl,znc es hs k h.len];refine⟨by rw[List.length_take,h.row.1];omega,?_⟩;rcases h.row.2 with⟨hv,h0⟩|⟨g,cap,cur,hv,hb,hg,hle,hmx,hsz,ht⟩
  ·have hk0:k=0:=by omega
   subst hk0;simp only[Value.slice.injEq] at hv;obtain⟨rfl,_,rfl⟩:=hv;exact .inl ⟨rfl,rfl⟩
  ·simp only[Value.slice.injEq] at hv;obtain⟨rfl,_,rfl⟩:=hv;refine .inr ⟨g,c,cur,rfl,hb,hg,by omega,hmx,hsz,?_⟩;rw[← ht,List.take_take]
   congr 1
   omega
 ·rw[List.getElem_take,List.getElem_take];exact h.dat i (by rw[List.length_take] at hi;omega) (by rw[List.length_take] at hj;omega)
theorem zle (hown:OwnL base w sp c es hs) (B:Nat) (e:EntN) (h:Option Addr×Nat)
  (hB:w.heap[B]? = some (.cells (zc8 e h).toArray 64 (0,0))) (hd:Bx base w h.1 h.2 e.2.2.2) (hn:es.length≤1048576) (hbase:base≤w.heap.size) (ty:TypeId) :
  ∃ sp' c' w',(Builtin.append_ #[27,27] ty #[.slice sp es.length c,.slice (some ⟨B,0,none⟩) 1 1]).run Tryz.prog w=.ok (.slice sp' (es.length+1) c') w'∧OwnL base w' sp' c' (es++[e]) (hs++[h])∧w.grownBy w' (blk sp)∧(∀ g,blk sp'=some g→blk sp=some g∨w.heap.size≤g):=by
 obtain⟨i0,hi,hz0,hz1,hz2⟩:=info_parts zzf;obtain⟨v',w',hrun,h1,h2,h4,h5⟩:=run_append_own_at (P:=Tryz.prog) w base 27 ty 64 i0 _ 4 48 Tryz.underlying27 hi hz0 hz1 hz2 rfl (by omega) _ _ _ hown.row ⟨B,0,none⟩ 1 1 (zc8 e h) rfl
  (fun j u hu=>by have:=World.news_of_block hB j u;simp only at this;exact this hu) (by intro u hu;simp only[zc8,List.mem_cons,List.not_mem_nil,or_false] at hu;rcases hu with rfl|rfl|rfl|rfl <;> rfl) (by simp only[maxLen];omega) (by omega) hbase
 have hv:∃ sp' c',v'=.slice sp' (es.length+1) c':=by
  rcases h1.2 with⟨hv,h0⟩|⟨g,cap,cur,hv,_⟩
  ·omega
  ·exact⟨_,_,hv⟩
 obtain⟨sp',c',rfl⟩:=hv;rw[zal] at h2;rw[zal,zal] at h5;have hrow:=hown.row;have notE:∀ (x:Option Addr) (xc:Nat) (l:List Nat),Bx base w x xc l→∀ g,blk x=some g→blk sp≠some g:=fun x xc l hx g hg hsp=>by
  obtain⟨_,_,cur,hc⟩:=hx.isT g hg;rcases hrow.2 with⟨hv,h0⟩|⟨g',cap,cur',hv,_,hh,_⟩
  ·simp only[Value.slice.injEq] at hv;rw[hv.1] at hsp;cases hsp
  ·simp only[Value.slice.injEq] at hv;rw[hv.1] at hsp;cases hsp
   rw[hc] at hh;simp at hh
 refine⟨sp',c',w',hrun,⟨by simp[hown.len],?_,?_⟩,h2,?_⟩
 ·rw[zvo es hs e h hown.len,List.length_append];exact h1
 ·intro i hi hj;rw[List.length_append] at hi;simp only[List.length_cons,List.length_nil] at hi;by_cases hi':i<es.length
  ·have hj':i<hs.length:=by rw[hown.len];exact hi'
   rw[List.getElem_append_left hi',List.getElem_append_left hj'];exact(hown.dat i hi' hj').grownNe h2 (fun g hg e=>notE _ _ _ (hown.dat i hi' hj') g hg e)
  ·have hi2:i=es.length:=by omega
   have e1:(es++[e])[i]=e:=by rw[List.getElem_append_right (by omega)];simp
   have e2:(hs++[h])[i]=h:=by rw[List.getElem_append_right (by rw[hown.len];omega)];simp
   rw[e1,e2];exact hd.grownNe h2 (fun g hg e=>notE _ _ _ hd g hg e)
 ·intro g hg;rcases h5 with h5|h5
  ·exact .inl (by rw[← h5];exact hg)
  ·right
   rw[h5] at hg;cases hg
   exact Nat.le_refl _
end
end
section
open Go.RowKit
section
variable {P:Program} {md:Region.Mode} {ops:Array Oper} {Q:Exit→Act→World→Prop} {S:World→Prop}
theorem zw6 (i:Nat) {oi:Oper} {v:Value} {fuel:Nat} {listed:Array Bool} {a:Act} {w:World} (hr:(Region.ready md ops listed).contains i=true) (hi:ops[i]? = some oi)
  (hw:Region.wanted oi (yielded ops a.tmps)=true) (hs:Region.noSelect ops=true) (hf:Region.free md ops listed i=true)
  (hQ:∀ c a w,Q (.panic c) (a.put oi.dst v) w→Q (.panic c) a w) (hy:∀ w,S w→(execOp a.eval oi).run P w=.ok (.value v) w) (hS:S w)
  (h:wpAnyH P md ops Q S fuel (listed.setIfInBounds i true) (a.put oi.dst v) w):wpAnyH P md ops Q S (fuel+1) listed a w :=
 wpAnyH_take hi hs hf hr hQ (Or.inl ⟨hw,hy⟩) hS h
theorem zw5 (i:Nat) {oi:Oper} {fuel:Nat} {listed:Array Bool} {a:Act} {w:World} (hr:(Region.ready md ops listed).contains i=true) (hi:ops[i]? = some oi)
  (hw:Region.wanted oi (yielded ops a.tmps)=false) (hs:Region.noSelect ops=true) (hf:Region.free md ops listed i=true)
  (hQ:∀ c a w,Q (.panic c) (a.put oi.dst undef) w→Q (.panic c) a w) (hS:S w)
  (h:wpAnyH P md ops Q S fuel (listed.setIfInBounds i true) (a.put oi.dst undef) w):wpAnyH P md ops Q S (fuel+1) listed a w :=
 wpAnyH_take hi hs hf hr hQ (Or.inr ⟨hw,rfl⟩) hS h
theorem zte (i:Nat) {oi:Oper} {fuel:Nat} {listed:Array Bool} {a:Act} {w:World} (hr:Region.ready md ops listed=[i]) (hi:ops[i]? = some oi)
  (h:∀ K':Act→World→Prop,Shut (∀ a w,S w→(S w→wpAnyH P md ops Q S fuel (listed.setIfInBounds i true) a w)→K' a w)→if Region.wanted oi (yielded ops a.tmps)=true then Oper.wp P oi a w K' Q else K' (a.put oi.dst undef) w) :
  wpAnyH P md ops Q S (fuel+1) listed a w :=
 wpAnyH_ready hr (by simp) (AllReadyH.cons hi h AllReadyH.nil)
theorem zir (i:Nat) {oi:Oper} {fuel:Nat} {listed:Array Bool} {a:Act} {w:World} (hr:Region.ready md ops listed=[i]) (hi:ops[i]? = some oi)
  (hw:Region.wanted oi (yielded ops a.tmps)=false) (hS:S w)
  (h:wpAnyH P md ops Q S fuel (listed.setIfInBounds i true) (a.put oi.dst undef) w):wpAnyH P md ops Q S (fuel+1) listed a w :=
 zte i hr hi (fun K' hK=>by rw[hw];exact hK.out _ _ hS (fun _=>h))
theorem hT (i:Nat) {oi:Oper} {v:Value} {fuel:Nat} {listed:Array Bool} {a a':Act} {w:World} (h:wpAnyH P md ops Q S fuel (listed.setIfInBounds i true) a' w) (hr:(Region.ready md ops listed).contains i=true:=by kernel_rfl) (hi:ops[i]? = some oi:=by rfl)
  (hw:Region.wanted oi (yielded ops a.tmps)=true:=by rfl) (hs:Region.noSelect ops=true:=by kernel_rfl) (hf:Region.free md ops listed i=true:=by kernel_rfl)
  (hy:∀ w,S w→(execOp a.eval oi).run P w=.ok (.value v) w:=by(intro w hSw;(try dsimp only at hSw);go_simp;try with_reducible rfl))
  (hp:a.put oi.dst v=a':=by first|(simp only[Act.put,List.getElem_toArray,List.getElem_cons_succ,List.getElem_cons_zero,List.setIfInBounds_toArray,List.set_cons_zero,List.set_cons_succ];done)|(simp only[Act.put,List.getElem_toArray,List.getElem_cons_succ,List.getElem_cons_zero,List.setIfInBounds_toArray,List.set_cons_zero,List.set_cons_succ];rfl)|rfl)
  (hQ:∀ c a w,Q (.panic c) (a.put oi.dst v) w→Q (.panic c) a w:=by exact fun _ _ _ h=>h) (hS:S w:=by assumption):wpAnyH P md ops Q S (fuel+1) listed a w:=by
 subst hp;exact zw6 i hr hi hw hs hf hQ hy hS h
theorem hN (i:Nat) {oi:Oper} {fuel:Nat} {listed:Array Bool} {a a':Act} {w:World} (h:wpAnyH P md ops Q S fuel (listed.setIfInBounds i true) a' w) (hr:(Region.ready md ops listed).contains i=true:=by kernel_rfl) (hi:ops[i]? = some oi:=by rfl)
  (hw:Region.wanted oi (yielded ops a.tmps)=false:=by rfl) (hs:Region.noSelect ops=true:=by kernel_rfl) (hf:Region.free md ops listed i=true:=by kernel_rfl)
  (hp:a.put oi.dst undef=a':=by first|(simp only[Act.put,List.getElem_toArray,List.getElem_cons_succ,List.getElem_cons_zero,List.setIfInBounds_toArray,List.set_cons_zero,List.set_cons_succ];done)|(simp only[Act.put,List.getElem_toArray,List.getElem_cons_succ,List.getElem_cons_zero,List.setIfInBounds_toArray,List.set_cons_zero,List.set_cons_succ];rfl)|rfl)
  (hQ:∀ c a w,Q (.panic c) (a.put oi.dst undef) w→Q (.panic c) a w:=by exact fun _ _ _ h=>h) (hS:S w:=by assumption):wpAnyH P md ops Q S (fuel+1) listed a w:=by
 subst hp;exact zw5 i hr hi hw hs hf hQ hS h
theorem hO (i:Nat) {oi:Oper} {fuel:Nat} {listed:Array Bool} {a:Act} {w:World}
  (h:∀ K':Act→World→Prop,Shut (∀ a w,S w→(S w→wpAnyH P md ops Q S fuel (listed.setIfInBounds i true) a w)→K' a w)→if Region.wanted oi (yielded ops a.tmps)=true then Oper.wp P oi a w K' Q else K' (a.put oi.dst undef) w) (hr:Region.ready md ops listed=[i]:=by kernel_rfl) (hi:ops[i]? = some oi:=by rfl) :
  wpAnyH P md ops Q S (fuel+1) listed a w:=zte i hr hi h
theorem hP {fuel:Nat} {listed:Array Bool} {a a':Act} {w:World} (h:wpAnyH P md ops Q S fuel listed a' w)
  (hp:a=a':=by first|(simp only[Act.put,List.getElem_toArray,List.getElem_cons_succ,List.getElem_cons_zero,List.setIfInBounds_toArray,List.set_cons_zero,List.set_cons_succ];done)|(simp only[Act.put,List.getElem_toArray,List.getElem_cons_succ,List.getElem_cons_zero,List.setIfInBounds_toArray,List.set_cons_zero,List.set_cons_succ];rfl)|rfl):wpAnyH P md ops Q S fuel listed a w:=by
 subst hp;exact h
end
end
end Go.Proofs.YtofllbpfajppeaaGreatDoor
