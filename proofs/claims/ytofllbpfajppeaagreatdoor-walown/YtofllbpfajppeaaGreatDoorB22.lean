/- The document's log: an entry more (written by wip/mkwxd.py). -/
import Derived.Test.YtofllbpfajppeaaGreatDoorB21
import Derived.Deep.QuietTactic
import Derived.BigQuiet
import Derived.Test.YtofllbpfajppeaaGreatDoorB20
import Derived.Test.YtofllbpfajppeaaGreatDoorB11
set_option linter.unusedVariables false
set_option maxRecDepth 20000
set_option maxHeartbeats 16000000
namespace Go.Proofs.YtofllbpfajppeaaGreatDoor
section
open Go.ChangeShapes Go.WideShapes Go.ChangeAt Go.RowKit
theorem zg {w:World} {b off:Nat} {x:Value} (h:w.cell? ⟨b,off,none⟩=some x):b<w.heap.size:=by
 rcases Nat.lt_or_ge b w.heap.size with h1|h1
 ·exact h1
 ·have:w.heap[b]? = none:=Array.getElem?_eq_none h1;simp[World.cell?,this] at h
theorem zae {w:World} {j:Nat} {cs:Array Value} {T:TypeId} (h:w.heap[j]? = some (.cells cs T (0,0))) (f:Nat):w.frozen? ⟨j,f,none⟩=false:=by
 simp[World.frozen?,h]
theorem zbo {u:World} {j:Nat} {x0 x1 x2 x3 x4:Value} {T:TypeId} (h:u.heap[j]? = some (.cells #[x0,x1,x2,x3,x4] T (0,0))) (a0 a1 a2 a3 a4:Value):∃ W,W.heap[j]? = some (.cells #[a0,a1,a2,a3,a4] T (0,0))∧u.grownBy W (some j) ∧
  ((((u.setCell ⟨j,0,none⟩ a0).setCell ⟨j,1,none⟩ a1).setCell ⟨j,2,none⟩ a2).setCell ⟨j,3,none⟩ a3).setCell ⟨j,4,none⟩ a4=W:=by
 have h1:=heap_setCell_same u j 0 _ T a0 h;have h2:=heap_setCell_same _ j 1 _ T a1 h1;have h3:=heap_setCell_same _ j 2 _ T a2 h2;have h4:=heap_setCell_same _ j 3 _ T a3 h3;have h5:=heap_setCell_same _ j 4 _ T a4 h4;exact⟨_,h5,zag (zag (zag (zag (zaf u j 0 a0) (zaf _ j 1 a1)) (zaf _ j 2 a2)) (zaf _ j 3 a3)) (zaf _ j 4 a4),rfl⟩
theorem EntsIn.same {Q:Nat→Prop} {w w':World} {a:Option Addr} {es:List EntI} (h:EntsIn Q w a es) (hk:∀ g,Q g→w'.heap[g]? = w.heap[g]?):EntsIn Q w' a es:=by
 refine⟨⟨fun i hi=>?_⟩,h.row,fun i hi b off dp dc n e hc=>?_⟩
 ·obtain⟨b,off,dp,dc,h0,h1,h2,h3,h4,h5,h6⟩:=h.at_.cell i hi;have hb:=hk b (h.row b off h0 (by omega));refine⟨b,off,dp,dc,h0,(World.cell?_of_block hb).trans h1,(World.cell?_of_block hb).trans h2,(World.cell?_of_block hb).trans h3,(World.cell?_of_block hb).trans h4,⟨h5.lt,fun k hk2=>?_⟩,h6⟩;obtain⟨g,o,e1,e2⟩:=h5.cell k hk2;exact⟨g,o,e1,(World.cell?_of_block (hk g (h.dat i hi b off dp dc _ h0 h4 g o e1 (by omega)))).trans e2⟩
 ·have hb:=hk b (h.row b off e (by omega));exact h.dat i hi b off dp dc n e ((World.cell?_of_block hb).symm.trans hc)
theorem EntsIn.both {Q:Nat→Prop} {w:World} {a:Option Addr} {es:List EntI} (h:EntsIn Q w a es):EntsIn (fun g=>Q g∧g<w.heap.size) w a es:=by
 have lt:=EntsIn.ofLt h.at_;exact⟨h.at_,fun b off e h0=>⟨h.row b off e h0,lt.row b off e h0⟩,fun i hi b off dp dc n e hc g o e1 h0=>⟨h.dat i hi b off dp dc n e hc g o e1 h0,lt.dat i hi b off dp dc n e hc g o e1 h0⟩⟩
theorem EntsIn.later {Q:Nat→Prop} {w w':World} {a:Option Addr} {es:List EntI} (h:EntsIn Q w a es) (hb:Below w.heap.size w w'):EntsIn Q w' a es:=(h.both.same (fun g hg=>hb.block g hg.2)).sub (fun g hg=>hg.1)
theorem zn2 {P:Nat→Prop} {w:World} {sp:Option Addr} {es:List EntN} (h:EntsIn P w sp (es.map toI)) (j:Nat) (hj:j<es.length):∃ g off dp dc,sp=some ⟨g,off,none⟩∧w.cell? ⟨g,off+j*4,none⟩=some (.int .i64 (es[j].1:Int))∧w.cell? ⟨g,off+j*4+1,none⟩=some (.int .i64 (es[j].2.1:Int))∧w.cell? ⟨g,off+j*4+2,none⟩=some (.int .i64 (es[j].2.2.1:Int))∧w.cell? ⟨g,off+j*4+3,none⟩=some (.slice dp es[j].2.2.2.length dc)∧DatIn (fun g=>P g∧g<w.heap.size) w (dp,dc) es[j].2.2.2:=by
 obtain⟨g,off,dp,dc,h0,h1,h2,h3,h4,h5,h6⟩:=zpr h.at_ j hj;refine⟨g,off,dp,dc,h0,h1,h2,h3,h4,h5,h6,fun g' o e h7=>⟨?_,?_⟩⟩
 ·have:=h.dat j (by rw[List.length_map];exact hj) g off dp dc _ h0 h4 g' o e;rw[List.getElem_map] at this;exact this h7
 ·obtain⟨b,o',e2,hc⟩:=h5.cell 0 h7;rw[show dp=some ⟨g',o,none⟩ from e] at e2;cases e2
  exact zg hc
theorem DatIn.of {P:Nat→Prop} {w:World} {dp:Option Addr} {dc:Nat} {l:List Nat} (h:BytesAt w dp l) (hz:dp=none→dc=0) (hp:∀ g o,dp=some ⟨g,o,none⟩→0<l.length→P g):DatIn (fun g=>P g∧g<w.heap.size) w (dp,dc) l:=⟨h,hz,fun g o e h0=>⟨hp g o e h0,by
 obtain⟨b,o',e2,hc⟩:=h.cell 0 h0;rw[show dp=some ⟨g,o,none⟩ from e] at e2;cases e2
 exact zg hc⟩⟩
def zmh (P:Nat→Prop) (w:World) (c':Wc) (b:Bool) (e:Ending) (w':World):Prop:=Below w.heap.size w w'∧∃ sp k,e=.returned (.tuple #[.agg (zb1 c' sp k),.bool b])∧EntsIn (fun g=>P g∨(w.heap.size≤g∧g<w'.heap.size)) w' sp (c'.es.map toI)
section
variable {P:Nat→Prop} {c:Wc} {sp:Option Addr} {k:Nat} {xk xt xi:Nat} {dp:Option Addr} {dc:Nat} {xd:List Nat} {w:World}
theorem zty (hE:EntsIn P w sp (c.es.map toI)) (xn:Nat) (hb:c.bi≤1099511627776) (hl:c.es.length≤1048576) (hx:xi≤1099511627776) (hf:zde c (xi:Int)=false) :
  Calls Tryz.prog 70 #[.agg (zb1 c sp k),entV (xk:Int) (xt:Int) (xi:Int) dp xn dc] w (zmh P w c false):=by
 unfold zb1 entV;generalize hen:c.es.length=en at *;have A1:Below w.heap.size w (w.alloc (.cells #[.int .i64 (c.bi:Int),.int .i64 (c.bt:Int),.int .i64 (c.ht:Int),.int .i64 (c.hv:Int),.slice sp en k] 51)):=(Below.refl _ _).alloc (Nat.le_refl _) _;have A2:Below (w.alloc (.cells #[.int .i64 (c.bi:Int),.int .i64 (c.bt:Int),.int .i64 (c.ht:Int),.int .i64 (c.hv:Int),.slice sp en k] 51)).heap.size (w.alloc (.cells #[.int .i64 (c.bi:Int),.int .i64 (c.bt:Int),.int .i64 (c.ht:Int),.int .i64 (c.hv:Int),.slice sp en k] 51)) ((w.alloc (.cells #[.int .i64 (c.bi:Int),.int .i64 (c.bt:Int),.int .i64 (c.ht:Int),.int .i64 (c.hv:Int),.slice sp en k] 51)).alloc (.cells #[.int .i64 (xk:Int),.int .i64 (xt:Int),.int .i64 (xi:Int),.slice dp xn dc] 64)):=(Below.refl _ _).alloc (Nat.le_refl _) _;have A3:Below ((w.alloc (.cells #[.int .i64 (c.bi:Int),.int .i64 (c.bt:Int),.int .i64 (c.ht:Int),.int .i64 (c.hv:Int),.slice sp en k] 51)).alloc (.cells #[.int .i64 (xk:Int),.int .i64 (xt:Int),.int .i64 (xi:Int),.slice dp xn dc] 64)).heap.size ((w.alloc (.cells #[.int .i64 (c.bi:Int),.int .i64 (c.bt:Int),.int .i64 (c.ht:Int),.int .i64 (c.hv:Int),.slice sp en k] 51)).alloc (.cells #[.int .i64 (xk:Int),.int .i64 (xt:Int),.int .i64 (xi:Int),.slice dp xn dc] 64)) (((w.alloc (.cells #[.int .i64 (c.bi:Int),.int .i64 (c.bt:Int),.int .i64 (c.ht:Int),.int .i64 (c.hv:Int),.slice sp en k] 51)).alloc (.cells #[.int .i64 (xk:Int),.int .i64 (xt:Int),.int .i64 (xi:Int),.slice dp xn dc] 64)).alloc (.cells #[.int .i64 0,.int .i64 0,.int .i64 0,.int .i64 0,.slice none 0 0] 51)):=(Below.refl _ _).alloc (Nat.le_refl _) _
 have hs1:(w.alloc (.cells #[.int .i64 (c.bi:Int),.int .i64 (c.bt:Int),.int .i64 (c.ht:Int),.int .i64 (c.hv:Int),.slice sp en k] 51)).heap.size=w.heap.size+1:=by simp
 have hs2:((w.alloc (.cells #[.int .i64 (c.bi:Int),.int .i64 (c.bt:Int),.int .i64 (c.ht:Int),.int .i64 (c.hv:Int),.slice sp en k] 51)).alloc (.cells #[.int .i64 (xk:Int),.int .i64 (xt:Int),.int .i64 (xi:Int),.slice dp xn dc] 64)).heap.size=w.heap.size+2:=by simp
 have X1:=zaa (zac A3 (zac A2 (zad w (.cells #[.int .i64 (c.bi:Int),.int .i64 (c.bt:Int),.int .i64 (c.ht:Int),.int .i64 (c.hv:Int),.slice sp en k] 51))));have X2:=zaa (zac A3 (zad (w.alloc (.cells #[.int .i64 (c.bi:Int),.int .i64 (c.bt:Int),.int .i64 (c.ht:Int),.int .i64 (c.hv:Int),.slice sp en k] 51)) (.cells #[.int .i64 (xk:Int),.int .i64 (xt:Int),.int .i64 (xi:Int),.slice dp xn dc] 64)));have X3:=zaa (zad ((w.alloc (.cells #[.int .i64 (c.bi:Int),.int .i64 (c.bt:Int),.int .i64 (c.ht:Int),.int .i64 (c.hv:Int),.slice sp en k] 51)).alloc (.cells #[.int .i64 (xk:Int),.int .i64 (xt:Int),.int .i64 (xi:Int),.slice dp xn dc] 64)) (.cells #[.int .i64 0,.int .i64 0,.int .i64 0,.int .i64 0,.slice none 0 0] 51));rw[hs1] at X2;rw[hs2] at X3;have B3:=zaa ((A1.trans (A2.mono A1.size)).trans (A3.mono (A1.trans (A2.mono A1.size)).size));have HE:=zaa (hE.both.later (za B3));have FW:=zaa hf;have hff:¬ ((c.bi:Int)<(xi:Int)∧(xi:Int)≤(c.bi:Int)+(en:Int)+1):=fun q=>by
  have h1:=za FW;unfold zde at h1;rw[decide_eq_true q.1,decide_eq_true (by rw[hen];have:=q.2;omega)] at h1;cases h1
 have HE0:=hE;clear A1 A2 A3 hs1 hs2 hE hf;have B4:=zaa (show Below w.heap.size w (((w.alloc (.cells #[.int .i64 (c.bi:Int),.int .i64 (c.bt:Int),.int .i64 (c.ht:Int),.int .i64 (c.hv:Int),.slice sp en k] 51)).alloc (.cells #[.int .i64 (xk:Int),.int .i64 (xt:Int),.int .i64 (xi:Int),.slice dp xn dc] 64)).alloc (.cells #[.int .i64 (c.bi:Int),.int .i64 (c.bt:Int),.int .i64 (c.ht:Int),.int .i64 (c.hv:Int),.slice sp en k] 51)) from(((Below.refl _ _).alloc (Nat.le_refl _) _).alloc (by first|(simp;done)|(simp;omega)) _).alloc (by first|(simp;done)|(simp;omega)) _);have HE4:=zaa (HE0.both.later (za B4));have X5:=zaa (zad ((w.alloc (.cells #[.int .i64 (c.bi:Int),.int .i64 (c.bt:Int),.int .i64 (c.ht:Int),.int .i64 (c.hv:Int),.slice sp en k] 51)).alloc (.cells #[.int .i64 (xk:Int),.int .i64 (xt:Int),.int .i64 (xi:Int),.slice dp xn dc] 64)) (.cells #[.int .i64 (c.bi:Int),.int .i64 (c.bt:Int),.int .i64 (c.ht:Int),.int .i64 (c.hv:Int),.slice sp en k] 51));have hs2:((w.alloc (.cells #[.int .i64 (c.bi:Int),.int .i64 (c.bt:Int),.int .i64 (c.ht:Int),.int .i64 (c.hv:Int),.slice sp en k] 51)).alloc (.cells #[.int .i64 (xk:Int),.int .i64 (xt:Int),.int .i64 (xi:Int),.slice dp xn dc] 64)).heap.size=w.heap.size+1+1:=by simp
 rw[hs2] at X5;have FF:=zaa (show zmh P w c false (.returned (.tuple #[.agg #[.int .i64 (c.bi:Int),.int .i64 (c.bt:Int),.int .i64 (c.ht:Int),.int .i64 (c.hv:Int),.slice sp en k],.bool false])) (((w.alloc (.cells #[.int .i64 (c.bi:Int),.int .i64 (c.bt:Int),.int .i64 (c.ht:Int),.int .i64 (c.hv:Int),.slice sp en k] 51)).alloc (.cells #[.int .i64 (xk:Int),.int .i64 (xt:Int),.int .i64 (xi:Int),.slice dp xn dc] 64)).alloc (.cells #[.int .i64 (c.bi:Int),.int .i64 (c.bt:Int),.int .i64 (c.ht:Int),.int .i64 (c.hv:Int),.slice sp en k] 51)) from⟨za B4,sp,k,by unfold zb1;rw[hen],(za HE4).sub (fun g hg=>.inl hg.1)⟩);clear hs2 HE0;have a0:=zab (za X1) 0 _ rfl;have a1:=zab (za X1) 1 _ rfl;have a2:=zab (za X1) 2 _ rfl;have a3:=zab (za X1) 3 _ rfl;have a4:=zab (za X1) 4 _ rfl;have b0:=zab (za X2) 0 _ rfl;have b1:=zab (za X2) 1 _ rfl;have b2:=zab (za X2) 2 _ rfl;have b3:=zab (za X2) 3 _ rfl;have r0:=zab (za X5) 0 _ rfl;have r1:=zab (za X5) 1 _ rfl;have r2:=zab (za X5) 2 _ rfl;have r3:=zab (za X5) 3 _ rfl;have r4:=zab (za X5) 4 _ rfl;by_cases h1:(c.bi:Int)<(xi:Int)
 ·have y1:¬ (xi:Int)≤(c.bi:Int):=by omega
  have y2:(c.bi:Int)+(en:Int)+1<(xi:Int):=by
   rcases Int.lt_or_le ((c.bi:Int)+(en:Int)+1) (xi:Int) with q|q
   ·exact q
   ·exact absurd ⟨h1,q⟩ hff
  clear h1 hff;go_enter Tryz.func70,Tryz.ntmps70
  go_wp2_with fail
  refine bodyPost_ret (v:=.tuple #[.agg #[.int .i64 (c.bi:Int),.int .i64 (c.bt:Int),.int .i64 (c.ht:Int),.int .i64 (c.hv:Int),.slice sp en k],.bool false]) (by simp[results,Tryz.results70,go_sem,r0,r1,r2,r3,r4]) rfl ?_;exact za FF
 ·have y1:(xi:Int)≤(c.bi:Int):=by omega
  clear h1 hff;go_enter Tryz.func70,Tryz.ntmps70
  go_wp2_with fail
  refine bodyPost_ret (v:=.tuple #[.agg #[.int .i64 (c.bi:Int),.int .i64 (c.bt:Int),.int .i64 (c.ht:Int),.int .i64 (c.hv:Int),.slice sp en k],.bool false]) (by simp[results,Tryz.results70,go_sem,r0,r1,r2,r3,r4]) rfl ?_;exact za FF
theorem zwg {c:Wc} {x:EntN} {t:Nat} (h:x.2.2.1 - c.bi - 1=t):(zfb c x).es=c.es.take t++[x]:=by
 unfold zfb;rw[h]
theorem zz8 (es:List EntN) (j t:Nat) (hj:j<es.length) (ht:j<t):(es.take (min (j+1) t)).map toI=(es.take (min j t)).map toI++[toI es[j]]:=by
 rw[Nat.min_eq_left (by omega),Nat.min_eq_left (by omega),List.take_succ_eq_append_getElem hj,List.map_append];rfl
theorem zqo (hE:EntsIn P w sp (c.es.map toI)) (hxd:DatIn P w (dp,dc) xd) (xn:Nat) (hxn:xd.length=xn) (hix:Ix c) (hb:c.bi≤1099511627776) (hl:c.es.length≤1048576) (hx:xi≤1099511627776) (hf:zde c (xi:Int)=true) :
  Calls Tryz.prog 70 #[.agg (zb1 c sp k),entV (xk:Int) (xt:Int) (xi:Int) dp xn dc] w (zmh P w (zfb c (xk,xt,xi,xd)) true):=by
 unfold zb1 entV;have hf2:(c.bi:Int)<(xi:Int)∧(xi:Int)≤(c.bi:Int)+(c.es.length:Int)+1:=by
  unfold zde at hf;simp only[Bool.and_eq_true,decide_eq_true_eq] at hf;omega
 obtain⟨y1',y2'⟩:=hf2;obtain⟨t,ht⟩:∃ t,xi - c.bi - 1=t:=⟨_,rfl⟩
 have htl:t≤c.es.length:=by omega
 have hti:xi=c.bi+1+t:=by omega
 have AW:=zaa (zwg (c:=c) (x:=(xk,xt,xi,xd)) ht);have HTI:=zaa hti;have HIX:=zaa hix;have HXN:=zaa hxn;have TL:=zaa (fun i=>show(c.es.take (min i t)).length=min i t by rw[List.length_take];omega);generalize hen:c.es.length=en at *;have HEN:=zaa hen;have A1:Below w.heap.size w (w.alloc (.cells #[.int .i64 (c.bi:Int),.int .i64 (c.bt:Int),.int .i64 (c.ht:Int),.int .i64 (c.hv:Int),.slice sp en k] 51)):=(Below.refl _ _).alloc (Nat.le_refl _) _;have A2:Below (w.alloc (.cells #[.int .i64 (c.bi:Int),.int .i64 (c.bt:Int),.int .i64 (c.ht:Int),.int .i64 (c.hv:Int),.slice sp en k] 51)).heap.size (w.alloc (.cells #[.int .i64 (c.bi:Int),.int .i64 (c.bt:Int),.int .i64 (c.ht:Int),.int .i64 (c.hv:Int),.slice sp en k] 51)) ((w.alloc (.cells #[.int .i64 (c.bi:Int),.int .i64 (c.bt:Int),.int .i64 (c.ht:Int),.int .i64 (c.hv:Int),.slice sp en k] 51)).alloc (.cells #[.int .i64 (xk:Int),.int .i64 (xt:Int),.int .i64 (xi:Int),.slice dp xn dc] 64)):=(Below.refl _ _).alloc (Nat.le_refl _) _;have A3:Below ((w.alloc (.cells #[.int .i64 (c.bi:Int),.int .i64 (c.bt:Int),.int .i64 (c.ht:Int),.int .i64 (c.hv:Int),.slice sp en k] 51)).alloc (.cells #[.int .i64 (xk:Int),.int .i64 (xt:Int),.int .i64 (xi:Int),.slice dp xn dc] 64)).heap.size ((w.alloc (.cells #[.int .i64 (c.bi:Int),.int .i64 (c.bt:Int),.int .i64 (c.ht:Int),.int .i64 (c.hv:Int),.slice sp en k] 51)).alloc (.cells #[.int .i64 (xk:Int),.int .i64 (xt:Int),.int .i64 (xi:Int),.slice dp xn dc] 64)) (((w.alloc (.cells #[.int .i64 (c.bi:Int),.int .i64 (c.bt:Int),.int .i64 (c.ht:Int),.int .i64 (c.hv:Int),.slice sp en k] 51)).alloc (.cells #[.int .i64 (xk:Int),.int .i64 (xt:Int),.int .i64 (xi:Int),.slice dp xn dc] 64)).alloc (.cells #[.int .i64 0,.int .i64 0,.int .i64 0,.int .i64 0,.slice none 0 0] 51)):=(Below.refl _ _).alloc (Nat.le_refl _) _
 have hs1:(w.alloc (.cells #[.int .i64 (c.bi:Int),.int .i64 (c.bt:Int),.int .i64 (c.ht:Int),.int .i64 (c.hv:Int),.slice sp en k] 51)).heap.size=w.heap.size+1:=by simp
 have hs2:((w.alloc (.cells #[.int .i64 (c.bi:Int),.int .i64 (c.bt:Int),.int .i64 (c.ht:Int),.int .i64 (c.hv:Int),.slice sp en k] 51)).alloc (.cells #[.int .i64 (xk:Int),.int .i64 (xt:Int),.int .i64 (xi:Int),.slice dp xn dc] 64)).heap.size=w.heap.size+1+1:=by simp
 have X1:=zaa (zac A3 (zac A2 (zad w (.cells #[.int .i64 (c.bi:Int),.int .i64 (c.bt:Int),.int .i64 (c.ht:Int),.int .i64 (c.hv:Int),.slice sp en k] 51))));have X2:=zaa (zac A3 (zad (w.alloc (.cells #[.int .i64 (c.bi:Int),.int .i64 (c.bt:Int),.int .i64 (c.ht:Int),.int .i64 (c.hv:Int),.slice sp en k] 51)) (.cells #[.int .i64 (xk:Int),.int .i64 (xt:Int),.int .i64 (xi:Int),.slice dp xn dc] 64)));have X3:=zaa (zad ((w.alloc (.cells #[.int .i64 (c.bi:Int),.int .i64 (c.bt:Int),.int .i64 (c.ht:Int),.int .i64 (c.hv:Int),.slice sp en k] 51)).alloc (.cells #[.int .i64 (xk:Int),.int .i64 (xt:Int),.int .i64 (xi:Int),.slice dp xn dc] 64)) (.cells #[.int .i64 0,.int .i64 0,.int .i64 0,.int .i64 0,.slice none 0 0] 51));rw[hs1] at X2;rw[hs2] at X3;have B3:=zaa ((A1.trans (A2.mono A1.size)).trans (A3.mono (A1.trans (A2.mono A1.size)).size));have S3:=zaa (show(((w.alloc (.cells #[.int .i64 (c.bi:Int),.int .i64 (c.bt:Int),.int .i64 (c.ht:Int),.int .i64 (c.hv:Int),.slice sp en k] 51)).alloc (.cells #[.int .i64 (xk:Int),.int .i64 (xt:Int),.int .i64 (xi:Int),.slice dp xn dc] 64)).alloc (.cells #[.int .i64 0,.int .i64 0,.int .i64 0,.int .i64 0,.slice none 0 0] 51)).heap.size=w.heap.size+3 by simp);have HE:=zaa (hE.both.later (za B3));have HX:=zaa (DatIn.of (P:=fun g=>P g∧g<w.heap.size) (hxd.by_.later (za B3)) hxd.z (fun g o e h0=>(DatIn.of (dp:=dp) (dc:=dc) hxd.by_ hxd.z hxd.p).p g o e h0));have y1:¬ (xi:Int)≤(c.bi:Int):=by omega
 have y2:¬ (c.bi:Int)+(en:Int)+1<(xi:Int):=by omega
 have a0:=zab (za X1) 0 _ rfl;have a1:=zab (za X1) 1 _ rfl;have a2:=zab (za X1) 2 _ rfl;have a3:=zab (za X1) 3 _ rfl;have a4:=zab (za X1) 4 _ rfl;have b0:=zab (za X2) 0 _ rfl;have b1:=zab (za X2) 1 _ rfl;have b2:=zab (za X2) 2 _ rfl;have b3:=zab (za X2) 3 _ rfl;clear A1 A2 A3 hs1 hs2 hE hf hxd hix hxn hen ht hti y1' y2';go_enter Tryz.func70,Tryz.ntmps70
 go_wp2_with fail
 clear a0 a1 a2 a3 a4 b0 b1 b2 b3;generalize ((w.alloc (.cells #[.int .i64 (c.bi:Int),.int .i64 (c.bt:Int),.int .i64 (c.ht:Int),.int .i64 (c.hv:Int),.slice sp en k] 51)).alloc (.cells #[.int .i64 (xk:Int),.int .i64 (xt:Int),.int .i64 (xi:Int),.slice dp xn dc] 64)).alloc (.cells #[.int .i64 0,.int .i64 0,.int .i64 0,.int .i64 0,.slice none 0 0] 51)=W3 at *;generalize hD:w.heap.size=D at *;have HDD:=zaa hD;clear hD
 have RE0:=zaa (show RowE (fun g=>(P g∧g<D)∧g<W3.heap.size) W3 (W3.alloc (.cells #[] 64)) (some ⟨D+1+1+1,0,none⟩) 0 [] from by
  have h:=RowE.empty (fun g=>(P g∧g<D)∧g<W3.heap.size) W3;have e:(some ⟨W3.heap.size,0,none⟩:Option Addr)=some ⟨D+1+1+1,0,none⟩:=by rw[za S3]
  rw[e] at h
  exact h)
 go_loopw [6,7] (fun v i wr=>∃ (j:Nat) (q:Option Addr) (z:Nat),j≤en∧i=.int .i64 (j:Int)∧v=.slice q (min j t) z∧Hid (RowE (fun g=>(P g∧g<D)∧g<W3.heap.size) W3 wr q z ((c.es.take (min j t)).map toI))) (fun _ i _=>en - (intOf i).toNat)
 case atStart=>exact⟨0,_,0,by omega,rfl,by rw[Nat.zero_min],by rw[Nat.zero_min,List.take_zero,List.map_nil];exact RE0⟩
 case round =>
  obtain⟨j,q,z,hj,rfl,rfl,hR⟩:=hrel;clear RE0;have BR:=zaa (za hR).bel;have XA:=zaa (zac (za BR) (za X1));have XB:=zaa (zac (za BR) (za X2));have XC:=zaa (zac (za BR) (za X3));have a4:=zab (za XA) 4 _ rfl;by_cases hje:j<en
  ·have hjl:j<c.es.length:=by rw[za HEN];exact hje
   have z0:(0:Int)≤(j:Int):=by omega
   have z1:(j:Int)<(en:Int):=by omega
   obtain⟨g,off,ep,ec,hsp,q0,q1,q2,q3,qd⟩:=zn2 (za HE) j hjl;have IX:=zaa (za HIX j hjl);have TM:=zaa (zz8 c.es j t hjl);have hmin:min j t≤1048576:=by omega
   subst hsp;have QD:=zaa qd;have PC:=zaa (show ∀ V,Below W3.heap.size W3 V→V.cell? ⟨g,off+j*4,none⟩=some (.int .i64 (c.es[j].1:Int))∧V.cell? ⟨g,off+j*4+1,none⟩=some (.int .i64 (c.es[j].2.1:Int))∧V.cell? ⟨g,off+j*4+2,none⟩=some (.int .i64 (c.es[j].2.2.1:Int))∧V.cell? ⟨g,off+j*4+3,none⟩=some (.slice ep c.es[j].2.2.2.length ec) from fun V u=>⟨cell_later u q0,cell_later u q1,cell_later u q2,cell_later u q3⟩);generalize c.es[j]=x at *;obtain⟨ek,et,ei,ed⟩:=x;dsimp only at *;have p2:=(za PC wr (za BR)).2.2.1;have b2:=zab (za XB) 2 _ rfl;generalize hdn:ed.length=dn at *;have HDN:=zaa hdn;clear q0 q1 q2 q3 qd hdn;by_cases hjt:j<t
   ·as_aux_lemma =>
    have w1:(ei:Int)<(xi:Int):=by rw[za IX,za HTI];omega
    have w2:decide ((ei:Int)<(xi:Int))=true:=decide_eq_true w1
    go_wp2_with fail
    go_quiet (fail)
    have UB:=zaa (_root_.Go.below_drewN (Below.refl wr.heap.size wr) nq);generalize wr.drewN nq=WQ at *;have BQ:=zaa ((za BR).trans ((za UB).mono (za BR).size));have XQ:=zaa (zac (za UB) (za XA));have d4:=zab (za XQ) 4 _ rfl;obtain⟨c0,c1,c2,c3⟩:=za PC WQ (za BQ);have A8:=zaa (show Below WQ.heap.size WQ (WQ.alloc (.cells #[.int .i64 (ek:Int),.int .i64 (et:Int),.int .i64 (ei:Int),.slice ep dn ec] 64)) from(Below.refl _ _).alloc (Nat.le_refl _) _);have X8:=zaa (zad WQ (.cells #[.int .i64 (ek:Int),.int .i64 (et:Int),.int .i64 (ei:Int),.slice ep dn ec] 64));have R8:=zaa (((za hR).later (za UB)).later (za A8));clear a4 b2 p2
    go_wp2_with (at_builtin;refine za ?_)
    refine zaa ?_;refine ze9 rfl (.tmp 45) (.tmp 51) rfl q (min j t) z ((c.es.take (min j t)).map toI) rfl (by rw[List.length_map];exact za TL j) (by exact za R8) WQ.heap.size (toI (ek,et,ei,ed)) (ep,ec) rfl (by unfold zbu toI;dsimp only;rw[za HDN];exact za X8) (za QD) hmin ?_;intro q' z' V9 hr9 _;have R9:=zaa hr9;rw[← za TM hjt] at R9;clear hr9;have hm1:min j t+1=min (j+1) t:=by omega
    rw[hm1]
    go_wp2_with fail
    exact⟨⟨j+1,q',z',by omega,by go_num,rfl,R9⟩,by simp[intOf];omega⟩
   ·as_aux_lemma =>
    have w1:¬ (ei:Int)<(xi:Int):=by rw[za IX,za HTI];omega
    have w2:decide ((ei:Int)<(xi:Int))=false:=decide_eq_false w1
    go_wp2_with fail
    go_quiet (fail)
    have UB:=zaa (_root_.Go.below_drewN (Below.refl wr.heap.size wr) nq);generalize wr.drewN nq=WQ at *;have R9:=zaa ((za hR).later (za UB));have hm1:min j t=min (j+1) t:=by omega
    rw[hm1] at R9;rw[hm1]
    go_wp2_with fail
    exact⟨⟨j+1,q,z,by omega,by go_num,rfl,R9⟩,by simp[intOf];omega⟩
  ·as_aux_lemma =>
   have z1:¬ (j:Int)<(en:Int):=by omega
   have hmt:min j t=t:=by omega
   rw[hmt] at hR;rw[hmt];have TT:=zaa (show(c.es.take t).length=t by have:=za TL j;rw[hmt] at this;exact this);have A8:=zaa (show Below wr.heap.size wr (wr.alloc (.cells #[.int .i64 (xk:Int),.int .i64 (xt:Int),.int .i64 (xi:Int),.slice dp xn dc] 64)) from(Below.refl _ _).alloc (Nat.le_refl _) _);have X8:=zaa (zad wr (.cells #[.int .i64 (xk:Int),.int .i64 (xt:Int),.int .i64 (xi:Int),.slice dp xn dc] 64));have R8:=zaa ((za hR).later (za A8));have b0:=zab (za XB) 0 _ rfl;have b1:=zab (za XB) 1 _ rfl;have b2:=zab (za XB) 2 _ rfl;have b3:=zab (za XB) 3 _ rfl;clear hmt
   go_wp2_with (at_builtin;refine za ?_)
   refine zaa ?_;refine ze9 rfl (.tmp 53) (.tmp 55) rfl q t z ((c.es.take t).map toI) rfl (by rw[List.length_map];exact za TT) (by exact za R8) wr.heap.size (toI (xk,xt,xi,xd)) (dp,dc) rfl (by unfold zbu toI;dsimp only;rw[za HXN];exact za X8) (za HX) (by omega) ?_;intro q' z' V9 hr9 _;have BV:=zaa hr9.bel;have XD:=zaa (zac (za BV) (za X1));have XE:=zaa (zac (za BV) (za X3));have LV:=zaa (show W3.heap.size≤V9.heap.size from hr9.bel.size);have EI:=zaa hr9.ents;have gS:=zaf V9 D 4 (.slice q' (t+1) z');have R1:=heap_setCell_same V9 D 4 _ _ (.slice q' (t+1) z') (za XD);have E1:(V9.setCell ⟨D,4,none⟩ (.slice q' (t+1) z')).heap[D+1+1]? = _:=(gS.block (D+1+1) (Array.getElem?_eq_some_iff.1 (za XE)).1 (fun e=>by have:=Option.some.inj e;omega)).trans (za XE);obtain⟨W,hwr,gW,hW⟩:=zbo E1 (.int .i64 (c.bi:Int)) (.int .i64 (c.bt:Int)) (.int .i64 (c.ht:Int)) (.int .i64 (c.hv:Int)) (.slice q' (t+1) z');have HW:=zaa hW
   have FF:=zaa (show zmh P w (zfb c (xk,xt,xi,xd)) true (.returned (.tuple #[.agg #[.int .i64 (c.bi:Int),.int .i64 (c.bt:Int),.int .i64 (c.ht:Int),.int .i64 (c.hv:Int),.slice q' (t+1) z'],.bool true])) W from by
    have s3:=za S3;have lv:=za LV;have b1:Below D w V9:=(za B3).trans ((za BV).mono (by omega));have b2:Below D w (V9.setCell ⟨D,4,none⟩ (.slice q' (t+1) z')):=b1.grown gS (by omega) (fun g hg=>by have:=Option.some.inj hg;omega);have b3:Below D w W:=b2.grown gW (by have:=gS.size;omega) (fun g hg=>by have:=Option.some.inj hg;omega);have sz:V9.heap.size≤W.heap.size:=Nat.le_trans gS.size gW.size;refine⟨by rw[za HDD];exact b3,q',z',?_,?_⟩
    ·unfold zb1;rw[za AW,List.length_append,za TT];rfl
    ·rw[za AW,List.map_append,za HDD];refine((za EI).same (fun g hg=>?_)).sub (fun g hg=>?_)
     ·have hgD:g<V9.heap.size∧g≠D∧g≠D+1+1:=by
       rcases hg with⟨⟨_,h1⟩,h2⟩|⟨h1,h2⟩
       ·exact⟨by omega,by omega,by omega⟩
       ·exact⟨h2,by omega,by omega⟩
      exact(gW.block g (Nat.lt_of_lt_of_le hgD.1 gS.size) (fun e=>by have:=Option.some.inj e;omega)).trans (gS.block g hgD.1 (fun e=>by have:=Option.some.inj e;omega))
     ·rcases hg with⟨⟨h1,_⟩,_⟩|⟨h1,h2⟩
      ·exact .inl h1
      ·exact .inr ⟨by omega,by omega⟩)
   have d0:=zab (za XD) 0 _ rfl;have d1:=zab (za XD) 1 _ rfl;have d2:=zab (za XD) 2 _ rfl;have d3:=zab (za XD) 3 _ rfl;have d4:=zab (za XD) 4 _ rfl;have n0:=zab (R1) 0 _ rfl;have n1:=zab (R1) 1 _ rfl;have n2:=zab (R1) 2 _ rfl;have n3:=zab (R1) 3 _ rfl;have n4:=zab (R1) 4 _ rfl;have r0:=zab (hwr) 0 _ rfl;have r1:=zab (hwr) 1 _ rfl;have r2:=zab (hwr) 2 _ rfl;have r3:=zab (hwr) 3 _ rfl;have r4:=zab (hwr) 4 _ rfl;have e0:=zab (E1) 0 _ rfl;have e1:=zab (E1) 1 _ rfl;have e2:=zab (E1) 2 _ rfl;have e3:=zab (E1) 3 _ rfl;have e4:=zab (E1) 4 _ rfl;have f0:=zae (E1) 0;have f1:=zae (E1) 1;have f2:=zae (E1) 2;have f3:=zae (E1) 3;have f4:=zae (E1) 4;have g0:=zae (za XD) 0;have g1:=zae (za XD) 1;have g2:=zae (za XD) 2;have g3:=zae (za XD) 3;have g4:=zae (za XD) 4;clear hr9 hW hwr gW gS R1 E1 b0 b1 b2 b3 a4
   go_wp2_with fail
   rw[za HW];refine bodyPost_ret (v:=.tuple #[.agg #[.int .i64 (c.bi:Int),.int .i64 (c.bt:Int),.int .i64 (c.ht:Int),.int .i64 (c.hv:Int),.slice q' (t+1) z'],.bool true]) (by simp[results,Tryz.results70,go_sem,r0,r1,r2,r3,r4]) rfl ?_;exact za FF
end
theorem zya {l:List Nat} {k n k2:Nat} (h:zbh l k=.ok (n,k2)):zdw l k=(0,n,k2):=by
 unfold zbh at h;split at h
 ·rename_i h0
  simp only[Except.ok.injEq,Prod.mk.injEq] at h;exact Prod.ext h0 (Prod.ext h.1 h.2)
 ·cases h
theorem zv2 {l:List Nat} {k x:Nat} (h:zbh l k=.error x):(zdw l k).1=x∧x≠0:=by
 unfold zbh at h;split at h
 ·cases h
 ·rename_i h0
  simp only[Except.error.injEq] at h;exact⟨h,fun e=>h0 (h.trans e)⟩
section
variable {w:World} {a:Option Addr} {c:Nat} {l:List Nat}
theorem zk8 (m:Nat) (k n k2:Nat) (kk:Int) (hm:l.length=m) (hkk:kk=(k:Int)) (hl:l.length≤140737488355328) (hk:k≤l.length) (hb:BytesAt w a l) (ht:zbh l k=.ok (n,k2)) :
  Calls Tryz.prog 131 #[.slice a m c,.int .i64 kk] w fun e w'=>e=.returned (.tuple #[.int .i64 (n:Int),.int .i64 (k2:Int),.int .i64 0])∧w'=w:=by
 refine(zgh a m c l k kk w hm hkk hl hk hb).mono fun e w' ⟨h1,h2⟩=>⟨?_,h2⟩
 rw[h1];have:=zya ht;simp[ze8,this]
theorem zjx (m:Nat) (k x:Nat) (kk:Int) (hm:l.length=m) (hkk:kk=(k:Int)) (hl:l.length≤140737488355328) (hk:k≤l.length) (hb:BytesAt w a l) (ht:zbh l k=.error x) :
  Calls Tryz.prog 131 #[.slice a m c,.int .i64 kk] w fun e w'=>e=.returned (.tuple #[.int .i64 0,.int .i64 0,.int .i64 (x:Int)])∧w'=w:=by
 refine(zgh a m c l k kk w hm hkk hl hk hb).mono fun e w' ⟨h1,h2⟩=>⟨?_,h2⟩
 rw[h1];obtain⟨t1,t2⟩:=zv2 ht;simp[ze8,t1,t2]
end
def zo7 (l:List Nat) (lo hi k x:Nat):Nat×Nat×Nat :=
 if x≠0 then (0,k,x) else
 match zkc l lo hi k with
 |.error y=>(0,k,y)
 |.ok (n,k2)=>(n,k2,0)
theorem zos (S:Nat) (a:Option Addr) (c:Nat) (l:List Nat) (lo hi k x:Nat) (w:World) (h:ScAt S w a c l k x) (hl:l.length≤140737488355328) :
  Calls Tryz.prog 197 #[.pointer (some ⟨S,0,none⟩),.int .i64 (lo:Int),.int .i64 (hi:Int)] w fun e w'=>e=.returned (.int .i64 ((zo7 l lo hi k x).1:Int))∧ScAt S w' a c l (zo7 l lo hi k x).2.1 (zo7 l lo hi k x).2.2∧w.grownBy w' (some S):=by
 obtain⟨c0,c1,c2,f1,f2⟩:=h.cells;have H:=zaa h;by_cases hx:x=0
 ·subst hx;by_cases hk:k<l.length
  ·obtain⟨b,off,rfl,hcell⟩:=h.bytes.cell k hk;have h256:=zcv h.bytes.lt k;have HO:=zaa (show zkc l lo hi k=if lo≤l.getD k 0∧l.getD k 0≤hi then .ok (l.getD k 0,k+1) else .error 4 by rw[zkc,if_pos hk]);generalize l.getD k 0=z at *;have hk':(k:Int)<(l.length:Int):=by omega
   have hk0:(0:Int)≤(k:Int):=by omega
   clear h;by_cases hz:lo≤z∧z≤hi
   ·have hN:=zaa (show zo7 l lo hi k 0=(z,k+1,0) by rw[zo7,if_neg (by decide),za HO,if_pos hz]);obtain⟨hz1,hz2⟩:=hz;go_enter Tryz.func197,Tryz.ntmps197
    go_wp2_with fail
    go_quiet (fail)
    go_wp2_with fail
    go_quiet (fail)
    go_wp2
    go_ret
    rw[za hN];exact⟨rfl,((za H).drewN _).place (k+1) hk,zag (za4 _ _ _) (zaf _ _ _ _)⟩
   ·have hN:=zaa (show zo7 l lo hi k 0=(0,k,4) by rw[zo7,if_neg (by decide),za HO,if_neg hz]);by_cases hz1:lo≤z
    ·have hz2:¬ z≤hi:=fun h=>hz ⟨hz1,h⟩;clear hz;go_enter Tryz.func197,Tryz.ntmps197
     go_wp2_with fail
     go_quiet (fail)
     go_wp2_with fail
     go_quiet (fail)
     go_wp2_with fail
     refine(zc1 S _ c l k 4 _ ((za H).drewN _)).mono ?_;rintro e w1 ⟨rfl,hs1,hg1⟩
     go_wp2
     go_ret
     rw[za hN];exact⟨rfl,hs1,zag (za4 _ _ _) hg1⟩
    ·clear hz;go_enter Tryz.func197,Tryz.ntmps197
     go_wp2_with fail
     go_quiet (fail)
     go_wp2_with fail
     go_quiet (fail)
     go_wp2_with fail
     refine(zc1 S _ c l k 4 _ ((za H).drewN _)).mono ?_;rintro e w1 ⟨rfl,hs1,hg1⟩
     go_wp2
     go_ret
     rw[za hN];exact⟨rfl,hs1,zag (za4 _ _ _) hg1⟩
  ·have hN:=zaa (show zo7 l lo hi k 0=(0,k,3) by rw[zo7,if_neg (by decide),zkc,if_neg hk]);clear h;go_enter Tryz.func197,Tryz.ntmps197
   go_wp2_with fail
   go_quiet (fail)
   go_wp2_with fail
   refine(zc1 S _ c l k 3 _ ((za H).drewN _)).mono ?_;rintro e w1 ⟨rfl,hs1,hg1⟩
   go_wp2
   go_ret
   rw[za hN];exact⟨rfl,hs1,zag (za4 _ _ _) hg1⟩
 ·have hN:=zaa (show zo7 l lo hi k x=(0,k,x) by rw[zo7,if_pos hx]);have hx0:¬ (x:Int)=0:=by omega
  clear hx h;go_enter Tryz.func197,Tryz.ntmps197
  go_wp2
  go_ret
  rw[za hN];exact⟨rfl,za H,zdf _ _⟩
theorem zA3 (S:Nat) (a:Option Addr) (c:Nat) (l:List Nat) (most k x:Nat) (w:World) (h:ScAt S w a c l k x) (hl:l.length≤140737488355328) (hx:x≠0) :
  Calls Tryz.prog 198 #[.pointer (some ⟨S,0,none⟩),.int .i64 (most:Int)] w fun e w'=>e=.returned (.slice none 0 0)∧ScAt S w' a c l k x∧w.grownBy w' (some S):=by
 have H:=zaa h;have HN:=zaa (show zfk l 0 k x=(0,k,x) by rw[zfk,if_pos hx]);have hx0:((x:Int)==0)=false:=by simp;omega
 have hx1:¬ (x:Int)=0:=by omega
 clear h hx;go_enter Tryz.func198,Tryz.ntmps198
 go_wp2_with fail
 refine(zdt S a c l 0 k x _ (za H) hl).mono ?_;rw[za HN];rintro e W1 ⟨rfl,s1,g1⟩;obtain⟨c0,c1,c2,f1,f2⟩:=s1.cells;have S1:=zaa s1;have G1:=zaa g1;clear s1 g1
 go_wp2_with fail
 go_quiet (fail)
 go_wp2
 go_ret
 exact⟨rfl,(za S1).drewN _,zag (za G1) (za4 _ _ _)⟩
theorem ScAt.later {S:Nat} {w w':World} {a:Option Addr} {c:Nat} {l:List Nat} {k x:Nat} (h:ScAt S w a c l k x) (hb:Below w.heap.size w w'):ScAt S w' a c l k x :=
 ⟨(hb.block S (Array.getElem?_eq_some_iff.1 h.blk).1).trans h.blk,h.bytes.later hb,h.low,h.le⟩
theorem ScAt.lt {S:Nat} {w:World} {a:Option Addr} {c:Nat} {l:List Nat} {k x:Nat} (h:ScAt S w a c l k x):S<w.heap.size:=(Array.getElem?_eq_some_iff.1 h.blk).1
theorem ScAt.far {S:Nat} {w w':World} {a:Option Addr} {c:Nat} {l:List Nat} {k x j:Nat} (h:ScAt S w a c l k x) (hg:w.grownBy w' (some j)) (hj:j≠S) (hb:∀ b off,0<l.length→a=some ⟨b,off,none⟩→b≠j):ScAt S w' a c l k x:=by
 refine⟨zah hg h.blk (fun e=>hj e.symm),⟨h.bytes.lt,fun i hi=>?_⟩,h.low,h.le⟩;obtain⟨b,off,h1,h2⟩:=h.bytes.cell i hi;refine⟨b,off,h1,?_⟩;rw[hg.cell_far ⟨b,off+i,none⟩ (World.block_lt_of_cell? _ _ h2) (by simpa using hb b off (by omega) h1)];exact h2
def zAp (S:Nat) (a:Option Addr) (c:Nat) (l:List Nat) (base:Nat) (r:Except Nat (List Nat×Nat)) (e:Ending) (w':World):Prop :=
 match r with
 |.ok (d,k')=>(∃ sp m cc,e=.returned (.slice sp m cc)∧Hid (d.length=m)∧OwnB base w' sp cc d)∧ScAt S w' a c l k' 0
 |.error y=>e=.returned (.slice none 0 0)∧∃ k',ScAt S w' a c l k' y
theorem zxw (S:Nat) (a:Option Addr) (c:Nat) (l:List Nat) (most k:Nat) (w:World) (h:ScAt S w a c l k 0) (hl:l.length≤140737488355328) (hc:l.length≤c) (hz:a=none→c=0) :
  Calls Tryz.prog 198 #[.pointer (some ⟨S,0,none⟩),.int .i64 (most:Int)] w fun e w'=>zAp S a c l w.heap.size (zv8 l most k) e w'∧w.grownBy w' (some S):=by
 have H:=zaa h;have HL:=zaa hl;have HSlt:=zaa (Array.getElem?_eq_some_iff.1 h.blk).1;clear h;cases ht:zbh l k with
 |error y =>
  have hy:=zc ht;have HR:=zaa (show zv8 l most k=.error y by rw[zv8,ht]);have HN:=zaa (show zfk l 0 k 0=(0,k,y) by simp only[zfk,ht];rfl);have hx0:((y:Int)==0)=false:=by simp;omega
  have hx1:¬ (y:Int)=0:=by omega
  clear hy ht;go_enter Tryz.func198,Tryz.ntmps198
  go_wp2_with fail
  refine(zdt S a c l 0 k 0 _ (za H) (za HL)).mono ?_;rw[za HN];rintro e W1 ⟨rfl,s1,g1⟩;obtain⟨c0,c1,c2,f1,f2⟩:=s1.cells;have S1:=zaa s1;have G1:=zaa g1;clear s1 g1
  go_wp2_with fail
  go_quiet (fail)
  go_wp2
  go_ret
  rw[za HR];exact⟨⟨rfl,k,(za S1).drewN _⟩,zag (za G1) (za4 _ _ _)⟩
 |ok p =>
  obtain⟨n,k1⟩:=p;have HN:=zaa (show zfk l 0 k 0=(n,k1,0) by simp only[zfk,ht];rfl);have hk1:=zt2 ht (za H).le;by_cases hm:most<n
  ·have HR:=zaa (show zv8 l most k=.error 6 by rw[zv8,ht];simp only[if_pos hm]);clear ht;go_enter Tryz.func198,Tryz.ntmps198
   go_wp2_with fail
   refine(zdt S a c l 0 k 0 _ (za H) (za HL)).mono ?_;rw[za HN];rintro e W1 ⟨rfl,s1,g1⟩;obtain⟨c0,c1,c2,f1,f2⟩:=s1.cells;have S1:=zaa s1;have G1:=zaa g1;clear s1 g1
   go_wp2_with fail
   refine(zc1 S a c l k1 6 _ (za S1)).mono ?_;rintro e W2 ⟨rfl,s2,g2⟩;obtain⟨d0,d1,d2,_,_⟩:=s2.cells;have S2:=zaa s2;have G2:=zaa (zag (za G1) g2);clear s2 g2 c0 c1 c2 f1 f2
   go_wp2_with fail
   go_quiet (fail)
   go_wp2
   go_ret
   rw[za HR];exact⟨⟨rfl,k1,(za S2).drewN _⟩,zag (za G2) (za4 _ _ _)⟩
  ·by_cases hs:l.length - k1<n
   ·have HR:=zaa (show zv8 l most k=.error 3 by rw[zv8,ht];simp only[if_neg hm,zgp,if_pos hs]);have hd:decide ((l.length:Int) - (k1:Int)<(n:Int))=true:=by simp;omega
    clear ht;go_enter Tryz.func198,Tryz.ntmps198
    go_wp2_with fail
    refine(zdt S a c l 0 k 0 _ (za H) (za HL)).mono ?_;rw[za HN];rintro e W1 ⟨rfl,s1,g1⟩;obtain⟨c0,c1,c2,f1,f2⟩:=s1.cells;have S1:=zaa s1;have G1:=zaa g1;clear s1 g1
    go_wp2_with fail
    go_quiet (fail)
    go_wp2_with fail
    refine(zc1 S a c l k1 3 _ ((za S1).drewN _)).mono ?_;rintro e W2 ⟨rfl,s2,g2⟩;obtain⟨d0,d1,d2,_,_⟩:=s2.cells;have S2:=zaa s2;have G2:=zaa (zag (zag (za G1) (za4 _ _ _)) g2);clear s2 g2 c0 c1 c2 f1 f2
    go_wp2
    go_ret
    rw[za HR];exact⟨⟨rfl,k1,za S2⟩,za G2⟩
   ·have HR:=zaa (show zv8 l most k=.ok ((l.drop k1).take n,k1+n) by rw[zv8,ht];simp only[if_neg hm,zgp,if_neg hs]);have hd:decide ((l.length:Int) - (k1:Int)<(n:Int))=false:=by simp;omega
    have hd':(n:Int)≤(l.length:Int) - (k1:Int):=by omega
    have hsl:∀ u,(Instr.slice 62 (.slice a l.length c) (some (.int .i64 (k1:Int))) (some (.int .i64 ((k1:Int)+(n:Int)))) none).run Tryz.prog u=.ok (.slice (slp a k1 c) n (c - k1)) u:=fun u=>by
     have:=zdi a l.length c k1 (k1+n) (by omega) (by omega) u;rw[Nat.add_sub_cancel_left] at this;rw[← this,Int.natCast_add]
    have HLen:=zaa (show((l.drop k1).take n).length=n by rw[List.length_take,List.length_drop];omega)
    have Hz:=zaa (show slp a k1 c=none→c - k1=0 by
     intro e;unfold slp at e;split at e
     ·omega
     ·cases a with
      |none=>have:=hz rfl;omega
      |some x=>cases e)
    have hslp:=zaa (show ∀ W:World,BytesAt W a l→BytesAt W (slp a k1 c) ((l.drop k1).take n) from fun W hb=>(hb.drop k1 c hc).take n);have hadd:IntKind.i64.wrap ((k1:Int)+(n:Int))=(k1:Int)+(n:Int):=by rw[IntKind.wrap_i64];omega
    generalize slp a k1 c=p at *;clear ht hz;go_enter Tryz.func198,Tryz.ntmps198
    go_wp2_with fail
    refine(zdt S a c l 0 k 0 _ (za H) (za HL)).mono ?_;rw[za HN];rintro e W1 ⟨rfl,s1,g1⟩;obtain⟨c0,c1,c2,f1,f2⟩:=s1.cells;have S1:=zaa s1;have G1:=zaa g1;clear s1 g1
    go_wp2_with fail
    go_quiet (fail)
    go_wp2_with fail
    have S2:=zaa ((za S1).drewN nq);have G2:=zaa (zag (za G1) (za4 W1 nq (some S)));obtain⟨d0,d1,d2,_,_⟩:=(za S2).cells;generalize W1.drewN nq=W2 at *;have hb3:Below W2.heap.size W2 (W2.alloc (.cells #[] 5)).drew:=((Below.refl _ _).alloc (Nat.le_refl _) _).drew;have B3:=zaa (za hslp _ ((za S2).bytes.later hb3));have B4:=zaa hb3;have o3:=zaa ((OwnB.empty W2 W2.heap.size (Nat.le_refl _)).drew);have HS2:=zaa (show S<W2.heap.size from(Array.getElem?_eq_some_iff.1 (za S2).blk).1);clear hb3 c0 c1 c2 f1 f2
    go_region_held3 (fun w'=>w'.cell? ⟨S,0,none⟩=some (.slice a l.length c)∧w'.cell? ⟨S,1,none⟩=some (.int .i64 (k1:Int))∧(Instr.slice 62 (.slice a l.length c) (some (.int .i64 (k1:Int))) (some (.int .i64 ((k1:Int)+(n:Int)))) none).run Tryz.prog w'=.ok (.slice p n (c - k1)) w')
     (first
      |exact⟨d0,d1,hsl _⟩
      |exact⟨((za B4).cell (p:=⟨S,0,none⟩) (za HS2)).trans d0,((za B4).cell (p:=⟨S,1,none⟩) (za HS2)).trans d1,hsl _⟩
      |exact⟨(((za B4).trans hb5).cell (p:=⟨S,0,none⟩) (za HS2)).trans d0,(((za B4).trans hb5).cell (p:=⟨S,1,none⟩) (za HS2)).trans d1,hsl _⟩)
     (first
      |(refine zi1 rfl (.tmp 47) (.tmp 62) rfl W2.heap.size (some ⟨W2.heap.size,0,none⟩) 0 0 [] rfl rfl (by exact za o3) p n (c - k1) rfl ((l.drop k1).take n) (za HLen) (by exact za B3) (za Hz) (by simp only[List.length_nil];omega) (by exact(za B4).size) ?_;intro sp5 n5 k5 W5 hn5 ho5 hg5 hl5;have hb5:=(Below.refl W2.heap.size _).grown hg5 (by exact(za B4).size) (fun j e=>Nat.le_of_eq (Option.some.inj e))))
    rw[List.nil_append] at hn5 ho5;have hw5:Below W2.heap.size W2 W5:=(za B4).trans hb5;have s5:=(za S2).later hw5;obtain⟨e0,e1,e2,f1,f2⟩:=s5.cells;have HS6:=zaa (s5.place (k1+n) (by omega));have HG6:=zaa (zag (zag (za G2) (zb0 (some S) hw5)) (zaf W5 S 1 (.int .i64 ((k1+n:Nat):Int))));have HO6:=zaa ((ho5.far (zaf W5 S 1 (.int .i64 ((k1+n:Nat):Int))) (za HS2)).mono (za G2).size);rw[show(((k1+n:Nat):Int))=(k1:Int)+(n:Int) from Int.natCast_add k1 n] at HS6 HG6 HO6;clear hw5 s5 ho5 hg5 hl5 hb5
    go_wp2
    go_ret
    rw[za HR];exact⟨⟨⟨sp5,n5,k5,rfl,hn5,za HO6⟩,za HS6⟩,za HG6⟩
end
end Go.Proofs.YtofllbpfajppeaaGreatDoor
