/- Plane: Config. -/
import Derived.Test.YtcmiappiocfbiaaGreatDoorPsa
namespace Go.Proofs.YtcmiappiocfbiaaGreatDoor
open Go.ChangeShapes Go.WideShapes Go.ChangeAt Go.RowKit
set_option linter.unusedVariables false

set_option maxRecDepth 20000 in
set_option maxHeartbeats 8000000 in
theorem config_calls {w : World} {P : Nat} {e : Cf} {h : CfH} (hp : PlAt w P e h) (hr : e.rs.length ≤ 1000) (hps : e.ps.length ≤ 1000) (ht : ∀ y ∈ e.ps, y.ts.length ≤ 1000) :
    Calls Tryz.prog 14 #[.pointer (some ⟨P, 0, none⟩)] w fun r w' => ∃ h', r = .returned (cfVal e h') ∧ CfAt w' e h' ∧ Below w.heap.size w w' := by
  have b1 : Below w.heap.size w (w.alloc (.cells #[.int .i64 0, .slice none 0 0, .slice none 0 0] 28)) := (Below.refl _ _).alloc (Nat.le_refl _) _
  have X1 := heap_new w (.cells #[.int .i64 0, .slice none 0 0, .slice none 0 0] 28)
  have p1 := hp.later b1
  have c0 := box_cell p1.row 0 _ rfl
  have c1 := box_cell p1.row 1 _ rfl
  have c2 := box_cell p1.row 2 _ rfl
  have CC := hide (clone_calls p1.cf hr hps ht)
  have s1 : w.heap.size < (w.alloc (.cells #[.int .i64 0, .slice none 0 0, .slice none 0 0] 28)).heap.size := (Array.getElem?_eq_some_iff.1 X1).1
  unfold cfVal at *
  clear hp p1 hr hps ht
  go_enter Tryz.func14, Tryz.ntmps14
  go_wp2_with fail
  go_at_call 16
  refine (unhide CC).mono ?_
  rintro r V ⟨h', rfl, sv, bv⟩
  have row := later_block bv X1
  have y0 := box_cell row 0 _ rfl
  have y1 := box_cell row 1 _ rfl
  have y2 := box_cell row 2 _ rfl
  have f0 := froz_of row 0
  have f1 := froz_of row 1
  have f2 := froz_of row 2
  have VR := hide row
  have SV := hide sv
  have BV := hide bv
  clear row sv bv
  go_wp2_with fail
  clear y0 y1 y2 f0 f1 f2
  have Z := heap_setCell_same _ w.heap.size 2 _ _ (.slice h'.pa e.ps.length h'.pc) (heap_setCell_same _ w.heap.size 1 _ _ (.slice h'.ra e.rs.length h'.rc) (heap_setCell_same V w.heap.size 0 _ _ (.int .i64 e.ver) (unhide VR)))
  have k0 := box_cell Z 0 (.int .i64 e.ver) rfl
  have k1 := box_cell Z 1 (.slice h'.ra e.rs.length h'.rc) rfl
  have k2 := box_cell Z 2 (.slice h'.pa e.ps.length h'.pc) rfl
  have VB := (((b1.trans ((unhide BV).mono b1.size)).setCell (p := ⟨w.heap.size, 0, none⟩) (by simp) (.int .i64 e.ver)).setCell (p := ⟨w.heap.size, 1, none⟩) (by simp) (.slice h'.ra e.rs.length h'.rc)).setCell (p := ⟨w.heap.size, 2, none⟩) (by simp) (.slice h'.pa e.ps.length h'.pc)
  have VO : CfAt (((V.setCell ⟨w.heap.size, 0, none⟩ (.int .i64 e.ver)).setCell ⟨w.heap.size, 1, none⟩ (.slice h'.ra e.rs.length h'.rc)).setCell ⟨w.heap.size, 2, none⟩ (.slice h'.pa e.ps.length h'.pc)) e h' := unhide SV _ (fun g hg _ => by
    have hne : g ≠ w.heap.size := by omega
    exact (heap_setCell_other _ ⟨w.heap.size, 2, none⟩ g _ hne).trans ((heap_setCell_other _ ⟨w.heap.size, 1, none⟩ g _ hne).trans (heap_setCell_other V ⟨w.heap.size, 0, none⟩ g _ hne)))
  generalize ((V.setCell ⟨w.heap.size, 0, none⟩ (.int .i64 e.ver)).setCell ⟨w.heap.size, 1, none⟩ (.slice h'.ra e.rs.length h'.rc)).setCell ⟨w.heap.size, 2, none⟩ (.slice h'.pa e.ps.length h'.pc) = VV at *
  refine bodyPost_ret (v := .agg #[.int .i64 e.ver, .slice h'.ra e.rs.length h'.rc, .slice h'.pa e.ps.length h'.pc]) (by simp [results, Tryz.results14, go_sem, k0, k1, k2]) rfl ⟨h', rfl, VO, VB⟩
end Go.Proofs.YtcmiappiocfbiaaGreatDoor
