/- Snapshots: pieces that are gathered by the program (written by wip/mksgd.py). -/
import Derived.Test.YtagncghpfdjkmaaGreatDoorB27
import Derived.Test.YtagncghpfdjkmaaGreatDoorB31
import Derived.Deep.QuietTactic
import Derived.BigQuiet
import Derived.Deep.RegionLaw
namespace Go.Proofs.YtagncghpfdjkmaaGreatDoor
open Go.ChangeShapes Go.WideShapes Go.ChangeAt Go.RowKit
set_option linter.unusedVariables false

theorem OwnB.stays {base : Nat} {w w' : World} {sp : Option Addr} {c : Nat} {l : List Nat} (h : OwnB base w sp c l) (hs : ∀ g, blk sp = some g → w'.heap[g]? = w.heap[g]?) : OwnB base w' sp c l := by
  refine ⟨⟨h.owns.1, ?_⟩, h.lt⟩
  rcases h.owns.2 with q | ⟨g, cap, cur, hv, hb, hh, r⟩
  · exact .inl q
  · refine .inr ⟨g, cap, cur, hv, hb, (hs g ?_).trans hh, r⟩
    simp only [Value.slice.injEq] at hv
    rw [hv.1]
    rfl
/-- A gather: of how many bytes, and those that came. -/
structure GaAt (w : World) (G t : Nat) (bs : List Nat) (sp : Option Addr) (cp : Nat) : Prop where
  row : w.heap[G]? = some (.cells #[.int .i64 (t : Int), .slice sp bs.length cp] 139 (0, 0))
  own : OwnB 0 w sp cp bs
  tl : t ≤ 32768
  bl : bs.length ≤ 32768
theorem OwnB.cells8 {base : Nat} {V : World} {sp : Option Addr} {cc : Nat} {l : List Nat} (x : OwnB base V sp cc l) : ∀ g, blk sp = some g → ∃ cur : Array Value, V.heap[g]? = some (.cells cur 5 (0, 0)) := by
  intro g e
  obtain ⟨ad, rfl, rfl⟩ := blk_adr e
  rcases x.owns.2 with ⟨hv, _⟩ | ⟨g, cap, cur, hv, hb, hh, _⟩
  · simp only [Value.slice.injEq] at hv
    cases hv.1
  · simp only [Value.slice.injEq] at hv
    rw [Option.some.inj hv.1]
    exact ⟨cur, hh⟩
theorem GaAt.ne {w : World} {G t : Nat} {bs : List Nat} {sp : Option Addr} {cp : Nat} (h : GaAt w G t bs sp cp) : blk sp ≠ some G := fun e => by
  obtain ⟨cur, hc⟩ := h.own.cells8 G e
  rw [h.row] at hc
  cases hc
theorem GaAt.ltG {w : World} {G t : Nat} {bs : List Nat} {sp : Option Addr} {cp : Nat} (h : GaAt w G t bs sp cp) : G < w.heap.size := (Array.getElem?_eq_some_iff.1 h.row).1
theorem GaAt.keep {w w' : World} {G t : Nat} {bs : List Nat} {sp : Option Addr} {cp : Nat} (h : GaAt w G t bs sp cp) (hG : w'.heap[G]? = w.heap[G]?) (hs : ∀ g, blk sp = some g → w'.heap[g]? = w.heap[g]?) : GaAt w' G t bs sp cp := ⟨hG.trans h.row, h.own.stays hs, h.tl, h.bl⟩
theorem GaAt.later {w w' : World} {G t : Nat} {bs : List Nat} {sp : Option Addr} {cp : Nat} (h : GaAt w G t bs sp cp) (u : Below w.heap.size w w') : GaAt w' G t bs sp cp := h.keep (u.block G h.ltG) (fun g e => u.block g (h.own.blkLt g e))
theorem GaAt.far {w w' : World} {G t D : Nat} {bs : List Nat} {sp : Option Addr} {cp : Nat} (h : GaAt w G t bs sp cp) (g : w.grownBy w' (some D)) (h1 : D ≠ G) (h2 : blk sp ≠ some D) : GaAt w' G t bs sp cp :=
  h.keep (g.block G h.ltG (fun e => h1 (Option.some.inj e).symm)) (fun j e => g.block j (h.own.blkLt j e) (fun q => h2 (e.trans q)))
/-- What else lay there stays. -/
structure GFr (w w' : World) (G : Nat) (sp : Option Addr) : Prop where
  os : w'.os = w.os
  tape : w'.tape = w.tape
  output : w'.output = w.output
  size : w.heap.size ≤ w'.heap.size
  block : ∀ j, j < w.heap.size → j ≠ G → blk sp ≠ some j → w'.heap[j]? = w.heap[j]?
theorem GFr.of {w w' : World} {G : Nat} {sp : Option Addr} (u : Below w.heap.size w w') : GFr w w' G sp := ⟨u.os, u.tape, u.output, u.size, fun j h _ _ => u.block j h⟩
theorem GFr.trans {w w1 w2 : World} {G : Nat} {sp sp' : Option Addr} (h : GFr w w1 G sp) (k : GFr w1 w2 G sp') (hs : ∀ g, blk sp' = some g → blk sp = some g ∨ w.heap.size ≤ g) : GFr w w2 G sp :=
  ⟨k.os.trans h.os, k.tape.trans h.tape, k.output.trans h.output, Nat.le_trans h.size k.size, fun j hj h1 h2 => (k.block j (Nat.lt_of_lt_of_le hj h.size) h1 (fun e => by
    rcases hs j e with q | q
    · exact h2 q
    · omega)).trans (h.block j hj h1 h2)⟩
theorem GFr.set {w w' : World} {G : Nat} {sp : Option Addr} (g : w.grownBy w' (some G)) : GFr w w' G sp := ⟨g.os, g.tape, g.output, g.size, fun j h h1 _ => g.block j h (fun e => h1 (Option.some.inj e))⟩
theorem GFr.app {w w' : World} {G : Nat} {sp sp' : Option Addr} (g : Grew w sp w' sp') : GFr w w' G sp := ⟨g.grown.os, g.grown.tape, g.grown.output, g.grown.size, fun j h _ h2 => g.grown.block j h (fun e => h2 e.symm)⟩
theorem GFr.new {w w1 w2 : World} {G D : Nat} {sp : Option Addr} (h : GFr w w1 G sp) (g : w1.grownBy w2 (some D)) (hD : w.heap.size ≤ D) : GFr w w2 G sp :=
  ⟨g.os.trans h.os, g.tape.trans h.tape, g.output.trans h.output, Nat.le_trans h.size g.size, fun j hj h1 h2 => (g.block j (Nat.lt_of_lt_of_le hj h.size) (fun e => by have := Option.some.inj e; omega)).trans (h.block j hj h1 h2)⟩
def AddEnd (w : World) (G : Nat) (sp : Option Addr) (r : Ga) (e : Ending) (w' : World) : Prop := ∃ h sp' cp', e = .returned (.tuple #[.agg (snRow r.s h), .bool r.d, .int .i64 (r.e : Int)]) ∧ SnAt w' r.s h ∧ (∀ ad, h.va = some ad ∨ h.la = some ad ∨ h.dp = some ad → w.heap.size ≤ ad.block) ∧ GaAt w' G r.t r.b sp' cp' ∧ GFr w w' G sp ∧ (∀ g, blk sp' = some g → blk sp = some g ∨ w.heap.size ≤ g)
theorem add_none {w W : World} {G : Nat} {sp : Option Addr} {r : Ga} {x t : Nat} {b : List Nat} {sp' : Option Addr} {cp' : Nat} (hr : r = ⟨sn0, false, x, t, b⟩) (hg : GaAt W G t b sp' cp') (hf : GFr w W G sp) (hs : ∀ g, blk sp' = some g → blk sp = some g ∨ w.heap.size ≤ g) : AddEnd w G sp r (.returned (.tuple #[.agg #[.int .i64 0, .int .i64 0, .slice none 0 0, .slice none 0 0, .slice none 0 0], .bool false, .int .i64 (x : Int)])) W := by
  subst hr
  exact ⟨⟨none, 0, none, 0, none, 0⟩, sp', cp', rfl, snAt0 W, (fun ad e => by rcases e with e | e | e <;> cases e), hg, hf, hs⟩
theorem BytesAt.keepB {w w' : World} {a : Option Addr} {l : List Nat} (h : BytesAt w a l) (hs : ∀ ad, a = some ad → 0 < l.length → w'.heap[ad.block]? = w.heap[ad.block]?) : BytesAt w' a l := ⟨h.lt, fun i hi => by
  obtain ⟨b, off, e, hc⟩ := h.cell i hi
  exact ⟨b, off, e, (World.cell?_of_block (a := ⟨b, off + i, none⟩) (hs ⟨b, off, none⟩ e (by omega))).trans hc⟩⟩
theorem OwnB.neT {base : Nat} {V : World} {sp : Option Addr} {cc : Nat} {l : List Nat} (x : OwnB base V sp cc l) {j : Nat} {cs : Array Value} {T : TypeId} {fz : Nat × Nat} (h : V.heap[j]? = some (.cells cs T fz)) (hT : T ≠ 5) : blk sp ≠ some j := fun e => by
  obtain ⟨cur, hc⟩ := x.cells8 j e
  rw [h] at hc
  cases hc
  exact hT rfl
theorem two_cells2 {u : World} {j : Nat} {x y : Value} {T : TypeId} (h : u.heap[j]? = some (.cells #[x, y] T (0, 0))) (v : Value) : (u.setCell ⟨j, 1, none⟩ v).heap[j]? = some (.cells #[x, v] T (0, 0)) := heap_setCell_same u j 1 _ T v h
theorem two_sets2 {u : World} {j : Nat} {x y : Value} {T : TypeId} (h : u.heap[j]? = some (.cells #[x, y] T (0, 0))) (a b : Value) : ∃ W, W.heap[j]? = some (.cells #[a, b] T (0, 0)) ∧ u.grownBy W (some j) ∧ (u.setCell ⟨j, 0, none⟩ a).setCell ⟨j, 1, none⟩ b = W := by
  have h1 := heap_setCell_same u j 0 _ T a h
  have h2 := heap_setCell_same _ j 1 _ T b h1
  exact ⟨_, h2, grown_trans (grown_set u j 0 a) (grown_set _ j 1 b), rfl⟩
set_option maxRecDepth 20000 in
set_option maxHeartbeats 16000000 in
theorem gadd_calls (a : Option Addr) (n c : Nat) (p : List Nat) (w : World) (hn : p.length = n) (hc : n ≤ c) (hcx : n ≤ 140737488355328) (hz : a = none → c = 0) (hb : BytesAt w a p) (G t : Nat) (bs : List Nat) (sp : Option Addr) (cp : Nat) (hg : GaAt w G t bs sp cp) (har : ∀ ad, a = some ad → 0 < p.length → ad.block ≠ G ∧ blk sp ≠ some ad.block ∧ ad.block < w.heap.size) :
    Calls Tryz.prog 45 #[.pointer (some ⟨G, 0, none⟩), .slice a n c] w (AddEnd w G sp (gAdd t bs p)) := by
  have X1 := hide (heap_new w (.cells #[.int .i64 0, .int .i64 0, .slice none 0 0, .slice none 0 0, .slice none 0 0] 29))
  have B1 := hide (show Below w.heap.size w (w.alloc (.cells #[.int .i64 0, .int .i64 0, .slice none 0 0, .slice none 0 0, .slice none 0 0] 29)) from (Below.refl _ _).alloc (Nat.le_refl _) _)
  have HB := hide hb
  have HN := hide hn
  have HG := hide hg
  have HAR := hide har
  have HZ := hide hz
  have HGL := hide hg.ltG
  have RP := hide (readPiece_calls a n c p (w.alloc (.cells #[.int .i64 0, .int .i64 0, .slice none 0 0, .slice none 0 0, .slice none 0 0] 29)) hn hc (by omega) (hb.later (unhide B1)))
  clear hb hn hg har hz
  go_enter Tryz.func45, Tryz.ntmps45
  go_wp2_with fail
  generalize w.alloc _ = W1 at *
  go_at_call 94
  refine (unhide RP).mono ?_
  rintro e V1 ⟨rfl, v1⟩
  have U1 := hide ((unhide B1).trans (v1.mono (unhide B1).size))
  have X2 := hide (later_block v1 (unhide X1))
  have KD := hide (show ∀ V, Below V1.heap.size V1 V → V.heap[w.heap.size]? = some (.cells #[.int .i64 0, .int .i64 0, .slice none 0 0, .slice none 0 0, .slice none 0 0] 29 (0, 0)) from fun V u => later_block u (unhide X2))
  clear v1 RP X1
  cases hr : rdP p with
  | error x =>
    as_aux_lemma =>
    have hx0 := rdP_pos hr
    dsimp only [rpRow, rpX]
    have A7 := hide (show Below V1.heap.size V1 (V1.alloc (.cells #[.int .i64 0, .int .i64 0, .slice none 0 0] 143)) from (Below.refl _ _).alloc (Nat.le_refl _) _)
    have U7 := hide ((unhide U1).trans ((unhide A7).mono (unhide U1).size))
    have EQ := hide (gAdd_err (t := t) (bs := bs) hr)
    clear hr
    obtain ⟨W, hwr, gW, hW⟩ := five_sets (unhide KD (V1.alloc (.cells #[.int .i64 0, .int .i64 0, .slice none 0 0] 143)) (unhide A7)) (.int .i64 0) (.int .i64 0) (.slice none 0 0) (.slice none 0 0) (.slice none 0 0)
    have HW := hide hW
    have y0 := box_cell hwr 0 _ rfl
    have y1 := box_cell hwr 1 _ rfl
    have y2 := box_cell hwr 2 _ rfl
    have y3 := box_cell hwr 3 _ rfl
    have y4 := box_cell hwr 4 _ rfl
    have z0 := box_cell (unhide KD (V1.alloc (.cells #[.int .i64 0, .int .i64 0, .slice none 0 0] 143)) (unhide A7)) 0 _ rfl
    have z1 := box_cell (unhide KD (V1.alloc (.cells #[.int .i64 0, .int .i64 0, .slice none 0 0] 143)) (unhide A7)) 1 _ rfl
    have z2 := box_cell (unhide KD (V1.alloc (.cells #[.int .i64 0, .int .i64 0, .slice none 0 0] 143)) (unhide A7)) 2 _ rfl
    have z3 := box_cell (unhide KD (V1.alloc (.cells #[.int .i64 0, .int .i64 0, .slice none 0 0] 143)) (unhide A7)) 3 _ rfl
    have z4 := box_cell (unhide KD (V1.alloc (.cells #[.int .i64 0, .int .i64 0, .slice none 0 0] 143)) (unhide A7)) 4 _ rfl
    have f0 := mbox_free (unhide KD (V1.alloc (.cells #[.int .i64 0, .int .i64 0, .slice none 0 0] 143)) (unhide A7)) 0
    have f1 := mbox_free (unhide KD (V1.alloc (.cells #[.int .i64 0, .int .i64 0, .slice none 0 0] 143)) (unhide A7)) 1
    have f2 := mbox_free (unhide KD (V1.alloc (.cells #[.int .i64 0, .int .i64 0, .slice none 0 0] 143)) (unhide A7)) 2
    have f3 := mbox_free (unhide KD (V1.alloc (.cells #[.int .i64 0, .int .i64 0, .slice none 0 0] 143)) (unhide A7)) 3
    have f4 := mbox_free (unhide KD (V1.alloc (.cells #[.int .i64 0, .int .i64 0, .slice none 0 0] 143)) (unhide A7)) 4
    have FF := hide (show AddEnd w G sp (gAdd t bs p) (.returned (.tuple #[.agg #[.int .i64 0, .int .i64 0, .slice none 0 0, .slice none 0 0, .slice none 0 0], .bool false, .int .i64 ((x : Nat) : Int)])) W from add_none (unhide EQ) (((unhide HG).later (unhide U7)).far gW (by have := unhide HGL; omega) (fun e => by have := (unhide HG).own.blkLt _ e; omega)) ((GFr.of (unhide U7)).new gW (Nat.le_refl _)) (fun g e => .inl e))
    have x1 : ¬ ((x : Nat) : Int) = 0 := by omega
    have x2 : (((x : Nat) : Int) == 0) = false := by simp; omega
    generalize ((x : Nat) : Int) = xi at *
    clear hW hwr gW KD
    go_wp2_with fail
    rw [unhide HW]
    go_wp2
    refine bodyPost_ret (v := .tuple #[.agg #[.int .i64 0, .int .i64 0, .slice none 0 0, .slice none 0 0, .slice none 0 0], .bool false, .int .i64 xi]) (by simp [results, Tryz.results45, go_sem, y0, y1, y2, y3, y4]) rfl ?_
    exact unhide FF
  | ok r =>
    obtain ⟨tt, pl, k⟩ := r
    dsimp only [rpRow, rpX]
    rw [show ((0 : Nat) : Int) = 0 from rfl]
    obtain ⟨hk, htt, hpm, hm0⟩ := rdP_ok (unhide HB).lt hr
    rw [unhide HN] at hk hpm hm0
    have RD := hide hr
    have PBB := hide (show ∀ V, (∀ ad, a = some ad → 0 < p.length → V.heap[ad.block]? = w.heap[ad.block]?) → BytesAt V (slp a k c) (p.drop k) from fun V u => ((unhide HB).keepB u).drop k c (by rw [unhide HN]; exact hc))
    have PSZ := hide (show slp a k c = none → c - k = 0 from fun e => slp_none e (unhide HZ))
    have PAL := hide (show ∀ ad, a = some ad → 0 < p.length → ad.block ≠ G ∧ blk sp ≠ some ad.block ∧ ad.block < w.heap.size from unhide HAR)
    have PLN := hide (show (p.drop k).length = n - k by rw [List.length_drop, unhide HN])
    have hmb : n - k ≤ 32768 := by omega
    generalize slp a k c = ps at *
    generalize n - k = m at *
    generalize c - k = cs at *
    have A7 := hide (show Below V1.heap.size V1 (V1.alloc (.cells #[.int .i64 (tt : Int), .int .i64 (pl : Int), .slice ps m cs] 143)) from (Below.refl _ _).alloc (Nat.le_refl _) _)
    have X7 := hide (heap_new V1 (.cells #[.int .i64 (tt : Int), .int .i64 (pl : Int), .slice ps m cs] 143))
    have U7 := hide ((unhide U1).trans ((unhide A7).mono (unhide U1).size))
    have VL := hide (show w.heap.size < V1.heap.size from (Array.getElem?_eq_some_iff.1 (unhide X2)).1)
    clear hr X2
    have G7 := hide ((unhide HG).later (unhide U7))
    by_cases hp0 : pl = 0
    · as_aux_lemma =>
      subst hp0
      rw [show ((0 : Nat) : Int) = 0 from rfl] at *
      obtain ⟨U, hUr, gU, hU⟩ := two_sets2 (unhide G7).row (.int .i64 (tt : Int)) (.slice none 0 0)
      have HU := hide hU
      have c0 := box_cell (unhide X7) 0 _ rfl
      have c1 := box_cell (unhide X7) 1 _ rfl
      have k0 := box_cell (unhide G7).row 0 _ rfl
      have k1 := box_cell (unhide G7).row 1 _ rfl
      have kf0 := mbox_free (unhide G7).row 0
      have kf1 := mbox_free (unhide G7).row 1
      have XPU := hide (show U.heap[V1.heap.size]? = some (.cells #[.int .i64 (tt : Int), .int .i64 0, .slice ps m cs] 143 (0, 0)) from (gU.block _ (by simp) (fun e => by have h1 := Option.some.inj e; have h2 := unhide HGL; have h3 := unhide VL; omega)).trans (unhide X7))
      have XDU := hide ((gU.block _ (by have h3 := unhide VL; simp; omega) (fun e => by have h1 := Option.some.inj e; have h2 := unhide HGL; omega)).trans (unhide KD _ (unhide A7)))
      have HUR := hide hUr
      have FUU := hide ((GFr.of (unhide U7)).trans (GFr.set (sp := sp) gU) (fun g e => .inl e))
      clear hU gU
      go_wp2_with fail
      rw [unhide HU]
      clear k0 k1 kf0 kf1 c0 c1
      have r0 := box_cell hUr 0 _ rfl
      have r1 := box_cell hUr 1 _ rfl
      have q0 := box_cell (unhide XPU) 0 _ rfl
      have q1 := box_cell (unhide XPU) 1 _ rfl
      have e3 : ((tt : Int) == (tt : Int)) = true := by simp
      go_quiet (fail)
      clear q0 q1 e3 r0 r1 hUr
      have UB := hide (_root_.Go.below_drewN (Below.refl U.heap.size U) nq)
      have GU := hide (later_block (unhide UB) (unhide HUR))
      have XP := hide (later_block (unhide UB) (unhide XPU))
      have XD := hide (later_block (unhide UB) (unhide XDU))
      have FU := hide (GFr.trans (unhide FUU) (GFr.of (sp := sp) (unhide UB)) (fun g e => .inl e))
      have OU := hide (show OwnB 0 (U.drewN nq) none 0 [] from OwnB.ofNil _ _)
      generalize U.drewN nq = Ud at *
      have PU := hide (unhide PBB Ud (fun ad e h0 => (unhide FU).block ad.block (unhide PAL ad e h0).2.2 (unhide PAL ad e h0).1 (unhide PAL ad e h0).2.1))
      have SU := hide (show ∀ g, blk none = some g → blk sp = some g ∨ w.heap.size ≤ g from fun g e => by cases e)
      have NEG := hide (show blk none ≠ some G from fun e => by cases e)
      have N0 := hide (show ([] : List Nat).length = 0 from rfl)
      have B0L := hide (show ([] : List Nat).length ≤ 32768 from by simp)
      have BSUM := hide (show ([] : List Nat).length + m ≤ 32768 by simp; omega)
      have RDS := hide (show ∀ all, ([] : List Nat) ++ p.drop k = all → (all.length < tt → gAdd t bs p = ⟨sn0, false, 0, tt, all⟩) ∧ (¬ all.length < tt → gAdd t bs p = ⟨snOf (snL all), decide (snX (snL all) = 0), snX (snL all), 0, []⟩) from fun all ha => ⟨fun h => gAdd_more (unhide RD) (fun q => q.1 rfl) all ha h, fun h => gAdd_all (unhide RD) (fun q => q.1 rfl) all ha h⟩)
      have d1 := box_cell (unhide GU) 1 _ rfl
      have p2 := box_cell (unhide XP) 2 _ rfl
      go_wp2_with fail
      go_region_law (refine step_append8L rfl (.tmp 53) (.tmp 55) rfl 0 none 0 0 [] rfl rfl (by first | exact unhide OU | exact ⟨(unhide OU).owns, (unhide OU).lt⟩) ps m cs rfl (p.drop k) (unhide PLN) (by first | exact unhide PU | exact ⟨(unhide PU).lt, (unhide PU).cell⟩) (unhide PSZ) (by have := unhide B0L; omega) (Nat.zero_le _) ?_; intro sA nA cA U2 hnA hoA hgA hlA; have GA := hide (show U2.heap[G]? = some (.cells #[.int .i64 (tt : Int), .slice none 0 0] 139 (0, 0)) from (hgA.block G (Array.getElem?_eq_some_iff.1 (unhide GU)).1 (fun e => unhide NEG e.symm)).trans (unhide GU)); have v1 := box_cell (unhide GA) 1 _ rfl; have f1 := mbox_free (unhide GA) 1; have OA := hide hoA; have NA := hide (unhide hnA); have GW := hide (show Grew Ud none U2 sA from ⟨⟨hgA.os, hgA.tape, hgA.output, hgA.size, hgA.block⟩, hlA⟩); clear hoA hnA hgA hlA)
      all_goals as_aux_lemma =>
        have gS := grown_set U2 G 1 (.slice sA nA cA)
        have UL := hide (show Ud.heap.size ≤ U2.heap.size from (unhide GW).grown.size)
        have SA := hide (show ∀ g, blk sA = some g → blk sp = some g ∨ w.heap.size ≤ g from fun g e => by
          rcases (unhide GW).lies g e with q | q
          · exact unhide SU g q
          · exact .inr (Nat.le_trans (unhide FU).size q))
        have NAG := hide (show blk sA ≠ some G from fun e => by
          rcases (unhide GW).lies G e with q | q
          · exact unhide NEG q
          · have := (Array.getElem?_eq_some_iff.1 (unhide GU)).1; omega)
        have G10 := hide (two_cells2 (unhide GA) (.slice sA nA cA))
        have O10 := hide ((unhide OA).stays (w' := U2.setCell ⟨G, 1, none⟩ (.slice sA nA cA)) (fun g e => gS.block g ((unhide OA).blkLt g e) (fun q => unhide NAG (e.trans q))))
        have XD10 := hide ((gS.block w.heap.size (Nat.lt_of_lt_of_le (Array.getElem?_eq_some_iff.1 (unhide XD)).1 (unhide UL)) (fun e => by have h1 := Option.some.inj e; have h2 := unhide HGL; omega)).trans (((unhide GW).grown.block w.heap.size (Array.getElem?_eq_some_iff.1 (unhide XD)).1 (fun e => (unhide OU).neT (unhide XD) (by decide) e.symm)).trans (unhide XD)))
        have F10 := hide (((unhide FU).trans (GFr.app (unhide GW)) (unhide SU)).trans (GFr.set (sp := sp) gS) (fun g e => .inl e))
        obtain ⟨all, hall⟩ : ∃ all, [] ++ p.drop k = all := ⟨_, rfl⟩
        rw [hall] at O10 NA
        have LA := hide (show all.length ≤ 32768 from by rw [← hall, List.length_append, unhide PLN]; have := unhide BSUM; omega)
        have RDD := hide (unhide RDS all hall)
        clear gS d1 p2 v1 f1 hall
        generalize U2.setCell ⟨G, 1, none⟩ (.slice sA nA cA) = W10 at *
        have g0 := box_cell (unhide G10) 0 _ rfl
        have g1 := box_cell (unhide G10) 1 _ rfl
        have hnA := unhide NA
        by_cases hlt : nA < tt
        · as_aux_lemma =>
          have y1 : (nA : Int) < (tt : Int) := by omega
          have RE := hide ((unhide RDD).1 (by rw [unhide NA]; exact hlt))
          go_wp2_with fail
          go_quiet (fail)
          have UB2 := hide (_root_.Go.below_drewN (Below.refl W10.heap.size W10) nq)
          have XD11 := hide (later_block (unhide UB2) (unhide XD10))
          have F11 := hide (GFr.trans (unhide F10) (GFr.of (sp := sp) (unhide UB2)) (fun g e => .inl e))
          have GG := hide (show GaAt (W10.drewN nq) G tt all sA cA from ⟨by have := later_block (unhide UB2) (unhide G10); rw [unhide NA]; exact this, (unhide O10).later (unhide UB2), htt, unhide LA⟩)
          generalize W10.drewN nq = W11 at *
          clear g0 g1 y1
          obtain ⟨W, hwr, gW, hW⟩ := five_sets (unhide XD11) (.int .i64 0) (.int .i64 0) (.slice none 0 0) (.slice none 0 0) (.slice none 0 0)
          have HW := hide hW
          have y0 := box_cell hwr 0 _ rfl
          have y1 := box_cell hwr 1 _ rfl
          have y2 := box_cell hwr 2 _ rfl
          have y3 := box_cell hwr 3 _ rfl
          have y4 := box_cell hwr 4 _ rfl
          have z0 := box_cell (unhide XD11) 0 _ rfl
          have z1 := box_cell (unhide XD11) 1 _ rfl
          have z2 := box_cell (unhide XD11) 2 _ rfl
          have z3 := box_cell (unhide XD11) 3 _ rfl
          have z4 := box_cell (unhide XD11) 4 _ rfl
          have f0 := mbox_free (unhide XD11) 0
          have f1 := mbox_free (unhide XD11) 1
          have f2 := mbox_free (unhide XD11) 2
          have f3 := mbox_free (unhide XD11) 3
          have f4 := mbox_free (unhide XD11) 4
          have FF := hide (show AddEnd w G sp (gAdd t bs p) (.returned (.tuple #[.agg #[.int .i64 0, .int .i64 0, .slice none 0 0, .slice none 0 0, .slice none 0 0], .bool false, .int .i64 ((0 : Nat) : Int)])) W from add_none (unhide RE) ((unhide GG).far gW (by have := unhide HGL; omega) (fun e => (unhide GG).own.neT (unhide XD11) (by decide) e)) ((unhide F11).new gW (Nat.le_refl _)) (unhide SA))
          rw [show ((0 : Nat) : Int) = 0 from rfl] at FF
          clear hW hwr gW KD
          go_wp2_with fail
          rw [unhide HW]
          go_wp2
          refine bodyPost_ret (v := .tuple #[.agg #[.int .i64 0, .int .i64 0, .slice none 0 0, .slice none 0 0, .slice none 0 0], .bool false, .int .i64 0]) (by simp [results, Tryz.results45, go_sem, y0, y1, y2, y3, y4]) rfl ?_
          exact unhide FF
        · as_aux_lemma =>
          have y1 : ¬ (nA : Int) < (tt : Int) := by omega
          have RE := hide ((unhide RDD).2 (by rw [unhide NA]; exact hlt))
          go_wp2_with fail
          go_quiet (fail)
          have UB2 := hide (_root_.Go.below_drewN (Below.refl W10.heap.size W10) nq)
          have XD11 := hide (later_block (unhide UB2) (unhide XD10))
          have F11 := hide (GFr.trans (unhide F10) (GFr.of (sp := sp) (unhide UB2)) (fun g e => .inl e))
          have O11 := hide ((unhide O10).later (unhide UB2))
          have G11 := hide (later_block (unhide UB2) (unhide G10))
          generalize W10.drewN nq = W11 at *
          clear g0 g1 y1
          obtain ⟨W14, hg14, g14, hW14⟩ := two_sets2 (unhide G11) (.int .i64 0) (.slice none 0 0)
          have HW14 := hide hW14
          have G14 := hide hg14
          have g0 := box_cell (unhide G11) 0 _ rfl
          have g1 := box_cell (unhide G11) 1 _ rfl
          have f0 := mbox_free (unhide G11) 0
          have f1 := mbox_free (unhide G11) 1
          have O14 := hide ((unhide O11).stays (w' := W14) (fun g e => g14.block g ((unhide O11).blkLt g e) (fun q => unhide NAG (e.trans q))))
          have XD14 := hide ((g14.block w.heap.size (Array.getElem?_eq_some_iff.1 (unhide XD11)).1 (fun e => by have h1 := Option.some.inj e; have h2 := unhide HGL; omega)).trans (unhide XD11))
          have F14 := hide ((unhide F11).trans (GFr.set (sp := sp) g14) (fun g e => .inl e))
          have SG := hide (sget_calls sA nA cA all W14 (unhide NA) (by have := (unhide O14).cap.1; rw [unhide NA] at this; exact this) (by have := unhide LA; rw [unhide NA] at this; simp only [maxLen]; omega) (unhide O14).bytes)
          clear hg14 g14 hW14
          go_wp2_with fail
          rw [unhide HW14]
          clear g0 g1 f0 f1
          go_at_call 19
          refine (unhide SG).mono ?_
          rintro e V15 ⟨h15, rfl, s15, fr15, v15⟩
          obtain ⟨S, hS⟩ : ∃ S, snOf (snL all) = S := ⟨_, rfl⟩
          obtain ⟨X, hX⟩ : ∃ X : Nat, snX (snL all) = X := ⟨_, rfl⟩
          rw [hS, hX] at RE
          rw [hS] at s15
          rw [hS, hX]
          unfold snRow
          have A15 := hide (show Below V15.heap.size V15 (V15.alloc (.cells #[.int .i64 S.i, .int .i64 S.t, .slice h15.va S.v.length h15.vc, .slice h15.la S.l.length h15.lc, .slice h15.dp S.d.length h15.dc] 29)) from (Below.refl _ _).alloc (Nat.le_refl _) _)
          have X15 := hide (heap_new V15 (.cells #[.int .i64 S.i, .int .i64 S.t, .slice h15.va S.v.length h15.vc, .slice h15.la S.l.length h15.lc, .slice h15.dp S.d.length h15.dc] 29))
          have U15 := hide (v15.trans ((unhide A15).mono v15.size))
          have XD15 := hide (later_block (unhide U15) (unhide XD14))
          obtain ⟨W, hwr, gW, hW⟩ := five_sets (unhide XD15) (.int .i64 S.i) (.int .i64 S.t) (.slice h15.va S.v.length h15.vc) (.slice h15.la S.l.length h15.lc) (.slice h15.dp S.d.length h15.dc)
          have HW := hide hW
          have y0 := box_cell hwr 0 _ rfl
          have y1 := box_cell hwr 1 _ rfl
          have y2 := box_cell hwr 2 _ rfl
          have y3 := box_cell hwr 3 _ rfl
          have y4 := box_cell hwr 4 _ rfl
          have z0 := box_cell (unhide XD15) 0 _ rfl
          have z1 := box_cell (unhide XD15) 1 _ rfl
          have z2 := box_cell (unhide XD15) 2 _ rfl
          have z3 := box_cell (unhide XD15) 3 _ rfl
          have z4 := box_cell (unhide XD15) 4 _ rfl
          have f0 := mbox_free (unhide XD15) 0
          have f1 := mbox_free (unhide XD15) 1
          have f2 := mbox_free (unhide XD15) 2
          have f3 := mbox_free (unhide XD15) 3
          have f4 := mbox_free (unhide XD15) 4
          have x0 := box_cell (unhide X15) 0 _ rfl
          have x1 := box_cell (unhide X15) 1 _ rfl
          have x2 := box_cell (unhide X15) 2 _ rfl
          have x3 := box_cell (unhide X15) 3 _ rfl
          have x4 := box_cell (unhide X15) 4 _ rfl
          have w14 := (Array.getElem?_eq_some_iff.1 (unhide XD14)).1
          have FF := hide (show ∀ b, b = decide (X = 0) → AddEnd w G sp (gAdd t bs p) (.returned (.tuple #[.agg #[.int .i64 S.i, .int .i64 S.t, .slice h15.va S.v.length h15.vc, .slice h15.la S.l.length h15.lc, .slice h15.dp S.d.length h15.dc], .bool b, .int .i64 (X : Int)])) W from fun b hb => by
            rw [unhide RE, hb]
            refine ⟨h15, none, 0, rfl, (s15.later (unhide A15)).far gW (fun ad e => by have := fr15 ad e; omega), fun ad e => by have := fr15 ad e; have := (unhide F14).size; omega, ⟨?_, OwnB.ofNil _ _, by dsimp only; omega, by simp⟩, ((unhide F14).trans (GFr.of (sp := sp) (unhide U15)) (fun g e => .inl e)).new gW (Nat.le_refl _), fun g e => by cases e⟩
            exact (gW.block G (Nat.lt_of_lt_of_le (Array.getElem?_eq_some_iff.1 (unhide G14)).1 (unhide U15).size) (fun e => by have h1 := Option.some.inj e; have h2 := unhide HGL; omega)).trans (later_block (unhide U15) (unhide G14)))
          clear hW hwr gW KD s15 fr15 v15 SG hS hX
          by_cases hX0 : X = 0
          · as_aux_lemma =>
            subst hX0
            have FT := hide (unhide FF true rfl)
            rw [show ((0 : Nat) : Int) = 0 from rfl] at FT ⊢
            go_wp2_with fail
            rw [unhide HW]
            go_wp2
            refine bodyPost_ret (v := .tuple #[.agg #[.int .i64 S.i, .int .i64 S.t, .slice h15.va S.v.length h15.vc, .slice h15.la S.l.length h15.lc, .slice h15.dp S.d.length h15.dc], .bool true, .int .i64 0]) (by simp [results, Tryz.results45, go_sem, y0, y1, y2, y3, y4]) rfl ?_
            exact unhide FT
          · as_aux_lemma =>
            have FT := hide (unhide FF false (by simp [hX0]))
            have e1 : ¬ (X : Int) = 0 := by omega
            have e2 : ((X : Int) == 0) = false := by simp; omega
            clear FF
            generalize (X : Int) = xi at *
            go_wp2_with fail
            rw [unhide HW]
            go_wp2
            refine bodyPost_ret (v := .tuple #[.agg #[.int .i64 S.i, .int .i64 S.t, .slice h15.va S.v.length h15.vc, .slice h15.la S.l.length h15.lc, .slice h15.dp S.d.length h15.dc], .bool false, .int .i64 xi]) (by simp [results, Tryz.results45, go_sem, y0, y1, y2, y3, y4]) rfl ?_
            exact unhide FT
    · as_aux_lemma =>
      have hp1 : ¬ (pl : Int) = 0 := by omega
      have hp2 : ((pl : Int) == 0) = false := by simp; omega
      have XDU := hide (unhide KD _ (unhide A7))
      have FUU := hide (GFr.of (G := G) (sp := sp) (unhide U7))
      have c0 := box_cell (unhide X7) 0 _ rfl
      have c1 := box_cell (unhide X7) 1 _ rfl
      have k0 := box_cell (unhide G7).row 0 _ rfl
      have k1 := box_cell (unhide G7).row 1 _ rfl
      by_cases hte : tt = t
      rotate_left
      · as_aux_lemma =>
        have e3 : ((tt : Int) == (t : Int)) = false := by simp; omega
        have e4 : ¬ (tt : Int) = (t : Int) := by omega
        have EQ := hide (gAdd_stale (t := t) (bs := bs) (unhide RD) ⟨hp0, .inl hte⟩)
        go_wp2_with fail
        go_quiet (fail)
        have UB := hide (_root_.Go.below_drewN (Below.refl (V1.alloc (.cells #[.int .i64 (tt : Int), .int .i64 (pl : Int), .slice ps m cs] 143)).heap.size (V1.alloc (.cells #[.int .i64 (tt : Int), .int .i64 (pl : Int), .slice ps m cs] 143))) nq)
        have XD11 := hide (later_block (unhide UB) (unhide XDU))
        have F11 := hide (GFr.trans (unhide FUU) (GFr.of (sp := sp) (unhide UB)) (fun g e => .inl e))
        have GG := hide ((unhide G7).later (unhide UB))
        generalize (V1.alloc (.cells #[.int .i64 (tt : Int), .int .i64 (pl : Int), .slice ps m cs] 143)).drewN nq = W11 at *
        clear c0 c1 k0 k1
        obtain ⟨W, hwr, gW, hW⟩ := five_sets (unhide XD11) (.int .i64 0) (.int .i64 0) (.slice none 0 0) (.slice none 0 0) (.slice none 0 0)
        have HW := hide hW
        have y0 := box_cell hwr 0 _ rfl
        have y1 := box_cell hwr 1 _ rfl
        have y2 := box_cell hwr 2 _ rfl
        have y3 := box_cell hwr 3 _ rfl
        have y4 := box_cell hwr 4 _ rfl
        have z0 := box_cell (unhide XD11) 0 _ rfl
        have z1 := box_cell (unhide XD11) 1 _ rfl
        have z2 := box_cell (unhide XD11) 2 _ rfl
        have z3 := box_cell (unhide XD11) 3 _ rfl
        have z4 := box_cell (unhide XD11) 4 _ rfl
        have f0 := mbox_free (unhide XD11) 0
        have f1 := mbox_free (unhide XD11) 1
        have f2 := mbox_free (unhide XD11) 2
        have f3 := mbox_free (unhide XD11) 3
        have f4 := mbox_free (unhide XD11) 4
        have FF := hide (show AddEnd w G sp (gAdd t bs p) (.returned (.tuple #[.agg #[.int .i64 0, .int .i64 0, .slice none 0 0, .slice none 0 0, .slice none 0 0], .bool false, .int .i64 ((12 : Nat) : Int)])) W from add_none (unhide EQ) ((unhide GG).far gW (by have := unhide HGL; omega) (fun e => (unhide GG).own.neT (unhide XD11) (by decide) e)) ((unhide F11).new gW (Nat.le_refl _)) (fun g e => .inl e))
        rw [show ((12 : Nat) : Int) = 12 from rfl] at FF
        clear hW hwr gW KD
        go_wp2_with fail
        rw [unhide HW]
        go_wp2
        refine bodyPost_ret (v := .tuple #[.agg #[.int .i64 0, .int .i64 0, .slice none 0 0, .slice none 0 0, .slice none 0 0], .bool false, .int .i64 12]) (by simp [results, Tryz.results45, go_sem, y0, y1, y2, y3, y4]) rfl ?_
        exact unhide FF
      subst hte
      have e3 : ((tt : Int) == (tt : Int)) = true := by simp
      by_cases hpb : pl = bs.length
      rotate_left
      · as_aux_lemma =>
        have e4 : ((pl : Int) == (bs.length : Int)) = false := by simp; omega
        have e5 : ¬ (pl : Int) = (bs.length : Int) := by omega
        have EQ := hide (gAdd_stale (t := tt) (bs := bs) (unhide RD) ⟨hp0, .inr hpb⟩)
        go_wp2_with fail
        go_quiet (fail)
        have UB := hide (_root_.Go.below_drewN (Below.refl (V1.alloc (.cells #[.int .i64 (tt : Int), .int .i64 (pl : Int), .slice ps m cs] 143)).heap.size (V1.alloc (.cells #[.int .i64 (tt : Int), .int .i64 (pl : Int), .slice ps m cs] 143))) nq)
        have XD11 := hide (later_block (unhide UB) (unhide XDU))
        have F11 := hide (GFr.trans (unhide FUU) (GFr.of (sp := sp) (unhide UB)) (fun g e => .inl e))
        have GG := hide ((unhide G7).later (unhide UB))
        generalize (V1.alloc (.cells #[.int .i64 (tt : Int), .int .i64 (pl : Int), .slice ps m cs] 143)).drewN nq = W11 at *
        clear c0 c1 k0 k1
        obtain ⟨W, hwr, gW, hW⟩ := five_sets (unhide XD11) (.int .i64 0) (.int .i64 0) (.slice none 0 0) (.slice none 0 0) (.slice none 0 0)
        have HW := hide hW
        have y0 := box_cell hwr 0 _ rfl
        have y1 := box_cell hwr 1 _ rfl
        have y2 := box_cell hwr 2 _ rfl
        have y3 := box_cell hwr 3 _ rfl
        have y4 := box_cell hwr 4 _ rfl
        have z0 := box_cell (unhide XD11) 0 _ rfl
        have z1 := box_cell (unhide XD11) 1 _ rfl
        have z2 := box_cell (unhide XD11) 2 _ rfl
        have z3 := box_cell (unhide XD11) 3 _ rfl
        have z4 := box_cell (unhide XD11) 4 _ rfl
        have f0 := mbox_free (unhide XD11) 0
        have f1 := mbox_free (unhide XD11) 1
        have f2 := mbox_free (unhide XD11) 2
        have f3 := mbox_free (unhide XD11) 3
        have f4 := mbox_free (unhide XD11) 4
        have FF := hide (show AddEnd w G sp (gAdd tt bs p) (.returned (.tuple #[.agg #[.int .i64 0, .int .i64 0, .slice none 0 0, .slice none 0 0, .slice none 0 0], .bool false, .int .i64 ((12 : Nat) : Int)])) W from add_none (unhide EQ) ((unhide GG).far gW (by have := unhide HGL; omega) (fun e => (unhide GG).own.neT (unhide XD11) (by decide) e)) ((unhide F11).new gW (Nat.le_refl _)) (fun g e => .inl e))
        rw [show ((12 : Nat) : Int) = 12 from rfl] at FF
        clear hW hwr gW KD
        go_wp2_with fail
        rw [unhide HW]
        go_wp2
        refine bodyPost_ret (v := .tuple #[.agg #[.int .i64 0, .int .i64 0, .slice none 0 0, .slice none 0 0, .slice none 0 0], .bool false, .int .i64 12]) (by simp [results, Tryz.results45, go_sem, y0, y1, y2, y3, y4]) rfl ?_
        exact unhide FF
      have e4 : ((pl : Int) == (bs.length : Int)) = true := by simp; omega
      have BSUM := hide (show bs.length + m ≤ 32768 by omega)
      have RDS := hide (show ∀ all, bs ++ p.drop k = all → (all.length < tt → gAdd tt bs p = ⟨sn0, false, 0, tt, all⟩) ∧ (¬ all.length < tt → gAdd tt bs p = ⟨snOf (snL all), decide (snX (snL all) = 0), snX (snL all), 0, []⟩) from fun all ha => ⟨fun h => gAdd_more (unhide RD) (fun q => by omega) all (by rw [if_neg hp0]; exact ha) h, fun h => gAdd_all (unhide RD) (fun q => by omega) all (by rw [if_neg hp0]; exact ha) h⟩)
      have HPB := hide hpb
      clear hpb
      go_wp2_with fail
      go_quiet (fail)
      clear c0 c1 k0 k1
      have HGR := hide (unhide G7).row
      have HGO := hide (unhide G7).own
      have UB := hide (_root_.Go.below_drewN (Below.refl (V1.alloc (.cells #[.int .i64 (tt : Int), .int .i64 (pl : Int), .slice ps m cs] 143)).heap.size (V1.alloc (.cells #[.int .i64 (tt : Int), .int .i64 (pl : Int), .slice ps m cs] 143))) nq)
      have GU := hide (later_block (unhide UB) (unhide HGR))
      have XP := hide (later_block (unhide UB) (unhide X7))
      have XD := hide (later_block (unhide UB) (unhide XDU))
      have FU := hide (GFr.trans (unhide FUU) (GFr.of (sp := sp) (unhide UB)) (fun g e => .inl e))
      have OU := hide (show OwnB 0 ((V1.alloc (.cells #[.int .i64 (tt : Int), .int .i64 (pl : Int), .slice ps m cs] 143)).drewN nq) sp cp bs from (unhide HGO).later (unhide UB))
      generalize (V1.alloc (.cells #[.int .i64 (tt : Int), .int .i64 (pl : Int), .slice ps m cs] 143)).drewN nq = Ud at *
      have PU := hide (unhide PBB Ud (fun ad e h0 => (unhide FU).block ad.block (unhide PAL ad e h0).2.2 (unhide PAL ad e h0).1 (unhide PAL ad e h0).2.1))
      have SU := hide (show ∀ g, blk sp = some g → blk sp = some g ∨ w.heap.size ≤ g from fun g e => .inl e)
      have NEG := hide (show blk sp ≠ some G from (unhide HG).ne)
      have N0 := hide (show (bs : List Nat).length = bs.length from rfl)
      have B0L := hide (show (bs : List Nat).length ≤ 32768 from (unhide HG).bl)
      have d1 := box_cell (unhide GU) 1 _ rfl
      have p2 := box_cell (unhide XP) 2 _ rfl
      go_wp2_with fail
      go_region_law (refine step_append8L rfl (.tmp 53) (.tmp 55) rfl 0 sp bs.length cp bs rfl rfl (by first | exact unhide OU | exact ⟨(unhide OU).owns, (unhide OU).lt⟩) ps m cs rfl (p.drop k) (unhide PLN) (by first | exact unhide PU | exact ⟨(unhide PU).lt, (unhide PU).cell⟩) (unhide PSZ) (by have := unhide B0L; omega) (Nat.zero_le _) ?_; intro sA nA cA U2 hnA hoA hgA hlA; have GA := hide (show U2.heap[G]? = some (.cells #[.int .i64 (tt : Int), .slice sp bs.length cp] 139 (0, 0)) from (hgA.block G (Array.getElem?_eq_some_iff.1 (unhide GU)).1 (fun e => unhide NEG e.symm)).trans (unhide GU)); have v1 := box_cell (unhide GA) 1 _ rfl; have f1 := mbox_free (unhide GA) 1; have OA := hide hoA; have NA := hide (unhide hnA); have GW := hide (show Grew Ud sp U2 sA from ⟨⟨hgA.os, hgA.tape, hgA.output, hgA.size, hgA.block⟩, hlA⟩); clear hoA hnA hgA hlA)
      all_goals as_aux_lemma =>
        have gS := grown_set U2 G 1 (.slice sA nA cA)
        have UL := hide (show Ud.heap.size ≤ U2.heap.size from (unhide GW).grown.size)
        have SA := hide (show ∀ g, blk sA = some g → blk sp = some g ∨ w.heap.size ≤ g from fun g e => by
          rcases (unhide GW).lies g e with q | q
          · exact unhide SU g q
          · exact .inr (Nat.le_trans (unhide FU).size q))
        have NAG := hide (show blk sA ≠ some G from fun e => by
          rcases (unhide GW).lies G e with q | q
          · exact unhide NEG q
          · have := (Array.getElem?_eq_some_iff.1 (unhide GU)).1; omega)
        have G10 := hide (two_cells2 (unhide GA) (.slice sA nA cA))
        have O10 := hide ((unhide OA).stays (w' := U2.setCell ⟨G, 1, none⟩ (.slice sA nA cA)) (fun g e => gS.block g ((unhide OA).blkLt g e) (fun q => unhide NAG (e.trans q))))
        have XD10 := hide ((gS.block w.heap.size (Nat.lt_of_lt_of_le (Array.getElem?_eq_some_iff.1 (unhide XD)).1 (unhide UL)) (fun e => by have h1 := Option.some.inj e; have h2 := unhide HGL; omega)).trans (((unhide GW).grown.block w.heap.size (Array.getElem?_eq_some_iff.1 (unhide XD)).1 (fun e => (unhide OU).neT (unhide XD) (by decide) e.symm)).trans (unhide XD)))
        have F10 := hide (((unhide FU).trans (GFr.app (unhide GW)) (unhide SU)).trans (GFr.set (sp := sp) gS) (fun g e => .inl e))
        obtain ⟨all, hall⟩ : ∃ all, bs ++ p.drop k = all := ⟨_, rfl⟩
        rw [hall] at O10 NA
        have LA := hide (show all.length ≤ 32768 from by rw [← hall, List.length_append, unhide PLN]; have := unhide BSUM; omega)
        have RDD := hide (unhide RDS all hall)
        clear gS d1 p2 v1 f1 hall
        generalize U2.setCell ⟨G, 1, none⟩ (.slice sA nA cA) = W10 at *
        have g0 := box_cell (unhide G10) 0 _ rfl
        have g1 := box_cell (unhide G10) 1 _ rfl
        have hnA := unhide NA
        by_cases hlt : nA < tt
        · as_aux_lemma =>
          have y1 : (nA : Int) < (tt : Int) := by omega
          have RE := hide ((unhide RDD).1 (by rw [unhide NA]; exact hlt))
          go_wp2_with fail
          go_quiet (fail)
          have UB2 := hide (_root_.Go.below_drewN (Below.refl W10.heap.size W10) nq)
          have XD11 := hide (later_block (unhide UB2) (unhide XD10))
          have F11 := hide (GFr.trans (unhide F10) (GFr.of (sp := sp) (unhide UB2)) (fun g e => .inl e))
          have GG := hide (show GaAt (W10.drewN nq) G tt all sA cA from ⟨by have := later_block (unhide UB2) (unhide G10); rw [unhide NA]; exact this, (unhide O10).later (unhide UB2), htt, unhide LA⟩)
          generalize W10.drewN nq = W11 at *
          clear g0 g1 y1
          obtain ⟨W, hwr, gW, hW⟩ := five_sets (unhide XD11) (.int .i64 0) (.int .i64 0) (.slice none 0 0) (.slice none 0 0) (.slice none 0 0)
          have HW := hide hW
          have y0 := box_cell hwr 0 _ rfl
          have y1 := box_cell hwr 1 _ rfl
          have y2 := box_cell hwr 2 _ rfl
          have y3 := box_cell hwr 3 _ rfl
          have y4 := box_cell hwr 4 _ rfl
          have z0 := box_cell (unhide XD11) 0 _ rfl
          have z1 := box_cell (unhide XD11) 1 _ rfl
          have z2 := box_cell (unhide XD11) 2 _ rfl
          have z3 := box_cell (unhide XD11) 3 _ rfl
          have z4 := box_cell (unhide XD11) 4 _ rfl
          have f0 := mbox_free (unhide XD11) 0
          have f1 := mbox_free (unhide XD11) 1
          have f2 := mbox_free (unhide XD11) 2
          have f3 := mbox_free (unhide XD11) 3
          have f4 := mbox_free (unhide XD11) 4
          have FF := hide (show AddEnd w G sp (gAdd tt bs p) (.returned (.tuple #[.agg #[.int .i64 0, .int .i64 0, .slice none 0 0, .slice none 0 0, .slice none 0 0], .bool false, .int .i64 ((0 : Nat) : Int)])) W from add_none (unhide RE) ((unhide GG).far gW (by have := unhide HGL; omega) (fun e => (unhide GG).own.neT (unhide XD11) (by decide) e)) ((unhide F11).new gW (Nat.le_refl _)) (unhide SA))
          rw [show ((0 : Nat) : Int) = 0 from rfl] at FF
          clear hW hwr gW KD
          go_wp2_with fail
          rw [unhide HW]
          go_wp2
          refine bodyPost_ret (v := .tuple #[.agg #[.int .i64 0, .int .i64 0, .slice none 0 0, .slice none 0 0, .slice none 0 0], .bool false, .int .i64 0]) (by simp [results, Tryz.results45, go_sem, y0, y1, y2, y3, y4]) rfl ?_
          exact unhide FF
        · as_aux_lemma =>
          have y1 : ¬ (nA : Int) < (tt : Int) := by omega
          have RE := hide ((unhide RDD).2 (by rw [unhide NA]; exact hlt))
          go_wp2_with fail
          go_quiet (fail)
          have UB2 := hide (_root_.Go.below_drewN (Below.refl W10.heap.size W10) nq)
          have XD11 := hide (later_block (unhide UB2) (unhide XD10))
          have F11 := hide (GFr.trans (unhide F10) (GFr.of (sp := sp) (unhide UB2)) (fun g e => .inl e))
          have O11 := hide ((unhide O10).later (unhide UB2))
          have G11 := hide (later_block (unhide UB2) (unhide G10))
          generalize W10.drewN nq = W11 at *
          clear g0 g1 y1
          obtain ⟨W14, hg14, g14, hW14⟩ := two_sets2 (unhide G11) (.int .i64 0) (.slice none 0 0)
          have HW14 := hide hW14
          have G14 := hide hg14
          have g0 := box_cell (unhide G11) 0 _ rfl
          have g1 := box_cell (unhide G11) 1 _ rfl
          have f0 := mbox_free (unhide G11) 0
          have f1 := mbox_free (unhide G11) 1
          have O14 := hide ((unhide O11).stays (w' := W14) (fun g e => g14.block g ((unhide O11).blkLt g e) (fun q => unhide NAG (e.trans q))))
          have XD14 := hide ((g14.block w.heap.size (Array.getElem?_eq_some_iff.1 (unhide XD11)).1 (fun e => by have h1 := Option.some.inj e; have h2 := unhide HGL; omega)).trans (unhide XD11))
          have F14 := hide ((unhide F11).trans (GFr.set (sp := sp) g14) (fun g e => .inl e))
          have SG := hide (sget_calls sA nA cA all W14 (unhide NA) (by have := (unhide O14).cap.1; rw [unhide NA] at this; exact this) (by have := unhide LA; rw [unhide NA] at this; simp only [maxLen]; omega) (unhide O14).bytes)
          clear hg14 g14 hW14
          go_wp2_with fail
          rw [unhide HW14]
          clear g0 g1 f0 f1
          go_at_call 19
          refine (unhide SG).mono ?_
          rintro e V15 ⟨h15, rfl, s15, fr15, v15⟩
          obtain ⟨S, hS⟩ : ∃ S, snOf (snL all) = S := ⟨_, rfl⟩
          obtain ⟨X, hX⟩ : ∃ X : Nat, snX (snL all) = X := ⟨_, rfl⟩
          rw [hS, hX] at RE
          rw [hS] at s15
          rw [hS, hX]
          unfold snRow
          have A15 := hide (show Below V15.heap.size V15 (V15.alloc (.cells #[.int .i64 S.i, .int .i64 S.t, .slice h15.va S.v.length h15.vc, .slice h15.la S.l.length h15.lc, .slice h15.dp S.d.length h15.dc] 29)) from (Below.refl _ _).alloc (Nat.le_refl _) _)
          have X15 := hide (heap_new V15 (.cells #[.int .i64 S.i, .int .i64 S.t, .slice h15.va S.v.length h15.vc, .slice h15.la S.l.length h15.lc, .slice h15.dp S.d.length h15.dc] 29))
          have U15 := hide (v15.trans ((unhide A15).mono v15.size))
          have XD15 := hide (later_block (unhide U15) (unhide XD14))
          obtain ⟨W, hwr, gW, hW⟩ := five_sets (unhide XD15) (.int .i64 S.i) (.int .i64 S.t) (.slice h15.va S.v.length h15.vc) (.slice h15.la S.l.length h15.lc) (.slice h15.dp S.d.length h15.dc)
          have HW := hide hW
          have y0 := box_cell hwr 0 _ rfl
          have y1 := box_cell hwr 1 _ rfl
          have y2 := box_cell hwr 2 _ rfl
          have y3 := box_cell hwr 3 _ rfl
          have y4 := box_cell hwr 4 _ rfl
          have z0 := box_cell (unhide XD15) 0 _ rfl
          have z1 := box_cell (unhide XD15) 1 _ rfl
          have z2 := box_cell (unhide XD15) 2 _ rfl
          have z3 := box_cell (unhide XD15) 3 _ rfl
          have z4 := box_cell (unhide XD15) 4 _ rfl
          have f0 := mbox_free (unhide XD15) 0
          have f1 := mbox_free (unhide XD15) 1
          have f2 := mbox_free (unhide XD15) 2
          have f3 := mbox_free (unhide XD15) 3
          have f4 := mbox_free (unhide XD15) 4
          have x0 := box_cell (unhide X15) 0 _ rfl
          have x1 := box_cell (unhide X15) 1 _ rfl
          have x2 := box_cell (unhide X15) 2 _ rfl
          have x3 := box_cell (unhide X15) 3 _ rfl
          have x4 := box_cell (unhide X15) 4 _ rfl
          have w14 := (Array.getElem?_eq_some_iff.1 (unhide XD14)).1
          have FF := hide (show ∀ b, b = decide (X = 0) → AddEnd w G sp (gAdd tt bs p) (.returned (.tuple #[.agg #[.int .i64 S.i, .int .i64 S.t, .slice h15.va S.v.length h15.vc, .slice h15.la S.l.length h15.lc, .slice h15.dp S.d.length h15.dc], .bool b, .int .i64 (X : Int)])) W from fun b hb => by
            rw [unhide RE, hb]
            refine ⟨h15, none, 0, rfl, (s15.later (unhide A15)).far gW (fun ad e => by have := fr15 ad e; omega), fun ad e => by have := fr15 ad e; have := (unhide F14).size; omega, ⟨?_, OwnB.ofNil _ _, by dsimp only; omega, by simp⟩, ((unhide F14).trans (GFr.of (sp := sp) (unhide U15)) (fun g e => .inl e)).new gW (Nat.le_refl _), fun g e => by cases e⟩
            exact (gW.block G (Nat.lt_of_lt_of_le (Array.getElem?_eq_some_iff.1 (unhide G14)).1 (unhide U15).size) (fun e => by have h1 := Option.some.inj e; have h2 := unhide HGL; omega)).trans (later_block (unhide U15) (unhide G14)))
          clear hW hwr gW KD s15 fr15 v15 SG hS hX
          by_cases hX0 : X = 0
          · as_aux_lemma =>
            subst hX0
            have FT := hide (unhide FF true rfl)
            rw [show ((0 : Nat) : Int) = 0 from rfl] at FT ⊢
            go_wp2_with fail
            rw [unhide HW]
            go_wp2
            refine bodyPost_ret (v := .tuple #[.agg #[.int .i64 S.i, .int .i64 S.t, .slice h15.va S.v.length h15.vc, .slice h15.la S.l.length h15.lc, .slice h15.dp S.d.length h15.dc], .bool true, .int .i64 0]) (by simp [results, Tryz.results45, go_sem, y0, y1, y2, y3, y4]) rfl ?_
            exact unhide FT
          · as_aux_lemma =>
            have FT := hide (unhide FF false (by simp [hX0]))
            have e1 : ¬ (X : Int) = 0 := by omega
            have e2 : ((X : Int) == 0) = false := by simp; omega
            clear FF
            generalize (X : Int) = xi at *
            go_wp2_with fail
            rw [unhide HW]
            go_wp2
            refine bodyPost_ret (v := .tuple #[.agg #[.int .i64 S.i, .int .i64 S.t, .slice h15.va S.v.length h15.vc, .slice h15.la S.l.length h15.lc, .slice h15.dp S.d.length h15.dc], .bool false, .int .i64 xi]) (by simp [results, Tryz.results45, go_sem, y0, y1, y2, y3, y4]) rfl ?_
            exact unhide FT
end Go.Proofs.YtagncghpfdjkmaaGreatDoor
