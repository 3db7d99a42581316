/- Plane: New, Apply, Version. -/
import Derived.Test.YtcmiappiocfbiaaGreatDoorPs9
namespace Go.Proofs.YtcmiappiocfbiaaGreatDoor
open Go.ChangeShapes Go.WideShapes Go.ChangeAt Go.RowKit
set_option linter.unusedVariables false

theorem Stay.low {base base' : Nat} {w : World} {e : Cf} {h : CfH} (s : Stay base w e h) (hb : base' ≤ base) : Stay base' w e h := fun v hv => s v (fun g h1 h2 => hv g (by omega) h2)
/-- A plane, and its configuration in blocks of its own from base on. -/
structure PlOwn (base : Nat) (w : World) (P : Nat) (e : Cf) (h : CfH) : Prop where
  row : w.heap[P]? = some (.cells #[.int .i64 e.ver, .slice h.ra e.rs.length h.rc, .slice h.pa e.ps.length h.pc] 54 (0, 0))
  st : Stay base w e h
theorem PlOwn.at_ {base : Nat} {w : World} {P : Nat} {e : Cf} {h : CfH} (x : PlOwn base w P e h) : PlAt w P e h := ⟨x.row, x.st.now⟩
theorem PlOwn.keep {base : Nat} {w w' : World} {P : Nat} {e : Cf} {h : CfH} (x : PlOwn base w P e h) (hP : w'.heap[P]? = w.heap[P]?) (hb : ∀ g, base ≤ g → g < w.heap.size → w'.heap[g]? = w.heap[g]?) (hs : w.heap.size ≤ w'.heap.size) : PlOwn base w' P e h :=
  ⟨hP.trans x.row, x.st.later hb hs⟩
theorem PlOwn.later {base : Nat} {w w' : World} {P : Nat} {e : Cf} {h : CfH} (x : PlOwn base w P e h) (hb : Below w.heap.size w w') : PlOwn base w' P e h := x.keep (hb.block P (Array.getElem?_eq_some_iff.1 x.row).1) (fun g _ h2 => hb.block g h2) hb.size
/-- What is done to another plane leaves this one as it was. -/
theorem PlOwn.other {base : Nat} {w w' : World} {P Q : Nat} {e : Cf} {h : CfH} (x : PlOwn base w P e h) (hg : w.grownBy w' (some Q)) (hne : P ≠ Q) (hQ : Q < base) : PlOwn base w' P e h :=
  x.keep (hg.block P (Array.getElem?_eq_some_iff.1 x.row).1 (fun e => hne (Option.some.inj e))) (fun g h1 h2 => hg.block g h2 (fun e => by have := Option.some.inj e; omega)) hg.size
set_option maxRecDepth 20000 in
set_option maxHeartbeats 4000000 in
theorem new_calls (w : World) : Calls Tryz.prog 6 #[] w fun e w' => e = .returned (.pointer (some ⟨w.heap.size, 0, none⟩)) ∧ (∀ base, PlOwn base w' w.heap.size ⟨0, [], []⟩ ⟨none, 0, none, 0⟩) ∧ Below w.heap.size w w' := by
  have b1 := hide (show Below w.heap.size w (w.alloc (.cells #[.int .i64 0, .slice none 0 0, .slice none 0 0] 54)) from (Below.refl _ _).alloc (Nat.le_refl _) _)
  have X := hide (show ∀ base, PlOwn base (w.alloc (.cells #[.int .i64 0, .slice none 0 0, .slice none 0 0] 54)) w.heap.size ⟨0, [], []⟩ ⟨none, 0, none, 0⟩ from fun base => ⟨heap_new w _, fun v _ => confN v⟩)
  go_enter Tryz.func6, Tryz.ntmps6
  go_wp2
  go_ret
  exact ⟨rfl, unhide X, unhide b1⟩
set_option maxRecDepth 20000 in
set_option maxHeartbeats 4000000 in
theorem version_calls {w : World} {P : Nat} {e : Cf} {h : CfH} (hp : PlAt w P e h) : Calls Tryz.prog 12 #[.pointer (some ⟨P, 0, none⟩)] w fun r w' => r = .returned (.int .i64 e.ver) ∧ Below w.heap.size w w' := by
  have c0 := box_cell hp.row 0 _ rfl
  have b1 := hide (Below.refl w.heap.size w)
  clear hp
  obtain ⟨ver, rs, ps⟩ := e
  dsimp only at *
  go_enter Tryz.func12, Tryz.ntmps12
  go_wp2
  go_ret
  exact ⟨rfl, unhide b1⟩
/-- How Apply ends. -/
def ApEnd (base : Nat) (w : World) (P : Nat) (e : Cf) (h : CfH) (c : Cf) (r : Ending) (w' : World) : Prop :=
  ((c.ver ≤ e.ver ∧ r = .returned (.int .i64 12) ∧ PlOwn base w' P e h) ∨ (e.ver < c.ver ∧ r = .returned (.int .i64 0) ∧ ∃ h', PlOwn w.heap.size w' P c h')) ∧ w.grownBy w' (some P)
set_option maxRecDepth 20000 in
set_option maxHeartbeats 8000000 in
theorem apply_calls {base : Nat} {w : World} {P : Nat} {e : Cf} {h : CfH} (hp : PlOwn base w P e h) {c : Cf} {k : CfH} (hc : CfAt w c k) (hr : c.rs.length ≤ 1000) (hps : c.ps.length ≤ 1000) (ht : ∀ y ∈ c.ps, y.ts.length ≤ 1000) :
    Calls Tryz.prog 9 #[.pointer (some ⟨P, 0, none⟩), cfVal c k] w fun r w' => ApEnd base w P e h c r w' := by
  have b1 : Below w.heap.size w (w.alloc (.cells #[.int .i64 c.ver, .slice k.ra c.rs.length k.rc, .slice k.pa c.ps.length k.pc] 28)) := (Below.refl _ _).alloc (Nat.le_refl _) _
  have hP := (Array.getElem?_eq_some_iff.1 hp.row).1
  have p1 := hp.later b1
  have c0 := box_cell p1.row 0 (.int .i64 e.ver) rfl
  have X1 := heap_new w (.cells #[.int .i64 c.ver, .slice k.ra c.rs.length k.rc, .slice k.pa c.ps.length k.pc] 28)
  have x0 := box_cell X1 0 (.int .i64 c.ver) rfl
  have x1 := box_cell X1 1 (.slice k.ra c.rs.length k.rc) rfl
  have x2 := box_cell X1 2 (.slice k.pa c.ps.length k.pc) rfl
  have g1 : w.grownBy (w.alloc (.cells #[.int .i64 c.ver, .slice k.ra c.rs.length k.rc, .slice k.pa c.ps.length k.pc] 28)) (some P) := ⟨b1.os, b1.tape, b1.output, b1.size, fun g hg _ => b1.block g hg⟩
  have wc := hc.wv
  have we := hp.st.now.wv
  by_cases hv : c.ver ≤ e.ver
  · have FE := hide (show ∀ n, ApEnd base w P e h c (.returned (.int .i64 12)) ((w.alloc (.cells #[.int .i64 c.ver, .slice k.ra c.rs.length k.rc, .slice k.pa c.ps.length k.pc] 28)).drewN n) from fun n => ⟨.inl ⟨hv, rfl, p1.keep rfl (fun _ _ _ => rfl) (Nat.le_refl _)⟩, ⟨g1.os, g1.tape, g1.output, g1.size, g1.block⟩⟩)
    unfold cfVal
    clear g1 p1 X1 hc hp ht hr hps
    generalize e.ver = ev at *
    generalize c.ver = cv at *
    go_enter Tryz.func9, Tryz.ntmps9
    go_wp2_with fail
    go_quiet (fail)
    go_wp2
    first | exact unhide FE _ | (go_ret; exact unhide FE _)
  · have CC := hide (fun n => clone_calls ((hc.later b1).later (show Below (w.alloc (.cells #[.int .i64 c.ver, .slice k.ra c.rs.length k.rc, .slice k.pa c.ps.length k.pc] 28)).heap.size (w.alloc (.cells #[.int .i64 c.ver, .slice k.ra c.rs.length k.rc, .slice k.pa c.ps.length k.pc] 28)) ((w.alloc (.cells #[.int .i64 c.ver, .slice k.ra c.rs.length k.rc, .slice k.pa c.ps.length k.pc] 28)).drewN n) from ⟨rfl, rfl, rfl, Nat.le_refl _, fun _ _ => rfl⟩)) hr hps ht)
    have FE := hide (show ∀ V h', Stay (w.alloc (.cells #[.int .i64 c.ver, .slice k.ra c.rs.length k.rc, .slice k.pa c.ps.length k.pc] 28)).heap.size V c h' → Below (w.alloc (.cells #[.int .i64 c.ver, .slice k.ra c.rs.length k.rc, .slice k.pa c.ps.length k.pc] 28)).heap.size (w.alloc (.cells #[.int .i64 c.ver, .slice k.ra c.rs.length k.rc, .slice k.pa c.ps.length k.pc] 28)) V → ApEnd base w P e h c (.returned (.int .i64 0)) (((V.setCell ⟨P, 0, none⟩ (.int .i64 c.ver)).setCell ⟨P, 1, none⟩ (.slice h'.ra c.rs.length h'.rc)).setCell ⟨P, 2, none⟩ (.slice h'.pa c.ps.length h'.pc)) from fun V h' sv bv => by
      have row := later_block bv p1.row
      have Z := heap_setCell_same _ P 2 _ _ (.slice h'.pa c.ps.length h'.pc) (heap_setCell_same _ P 1 _ _ (.slice h'.ra c.rs.length h'.rc) (heap_setCell_same V P 0 _ _ (.int .i64 c.ver) row))
      have oth : ∀ g, g ≠ P → (((V.setCell ⟨P, 0, none⟩ (.int .i64 c.ver)).setCell ⟨P, 1, none⟩ (.slice h'.ra c.rs.length h'.rc)).setCell ⟨P, 2, none⟩ (.slice h'.pa c.ps.length h'.pc)).heap[g]? = V.heap[g]? := fun g hg => (heap_setCell_other _ ⟨P, 2, none⟩ g _ hg).trans ((heap_setCell_other _ ⟨P, 1, none⟩ g _ hg).trans (heap_setCell_other V ⟨P, 0, none⟩ g _ hg))
      have sz : (((V.setCell ⟨P, 0, none⟩ (.int .i64 c.ver)).setCell ⟨P, 1, none⟩ (.slice h'.ra c.rs.length h'.rc)).setCell ⟨P, 2, none⟩ (.slice h'.pa c.ps.length h'.pc)).heap.size = V.heap.size := by simp [World.setCell]
      refine ⟨.inr ⟨by omega, rfl, h', Z, (sv.low (by have := b1.size; omega)).later (fun g h1 _ => oth g (by omega)) (by omega)⟩, ?_⟩
      exact ⟨bv.os.trans b1.os, bv.tape.trans b1.tape, bv.output.trans b1.output, by have := b1.size; have := bv.size; omega, fun g hg hne => (oth g (fun e => hne (by rw [e]))).trans ((bv.block g (Nat.lt_of_lt_of_le hg b1.size)).trans (b1.block g hg))⟩)
    have RW := hide p1.row
    unfold cfVal at CC ⊢
    clear g1 p1 X1 hc hp ht hr hps
    generalize e.ver = ev at *
    generalize c.ver = cv at *
    go_enter Tryz.func9, Tryz.ntmps9
    go_wp2_with fail
    go_quiet (fail)
    go_wp2_with fail
    go_at_call 16
    refine (unhide CC _).mono ?_
    rintro r V ⟨h', rfl, sv, bv'⟩
    have bv := (show Below _ (w.alloc (.cells #[.int .i64 cv, .slice k.ra c.rs.length k.rc, .slice k.pa c.ps.length k.pc] 28)) V from ⟨bv'.os, bv'.tape, bv'.output, bv'.size, bv'.block⟩)
    clear bv'
    have rw' := later_block bv (unhide RW)
    have y0 := box_cell rw' 0 (.int .i64 ev) rfl
    have y1 := box_cell rw' 1 _ rfl
    have y2 := box_cell rw' 2 _ rfl
    have f0 := froz_of rw' 0
    have f1 := froz_of rw' 1
    have f2 := froz_of rw' 2
    have E := hide (unhide FE V h' sv bv)
    clear sv bv rw'
    go_wp2
    first | exact unhide E | (go_ret; exact unhide E)
end Go.Proofs.YtcmiappiocfbiaaGreatDoor
