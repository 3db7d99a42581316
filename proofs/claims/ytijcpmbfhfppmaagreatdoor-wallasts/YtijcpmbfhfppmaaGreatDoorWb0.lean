/- Small laws of memory for the texts of logs. -/
import Derived.Test.YtijcpmbfhfppmaaGreatDoorDk1
import Derived.Test.YtijcpmbfhfppmaaGreatDoorRhard
namespace Go.Proofs.YtijcpmbfhfppmaaGreatDoor
open Go.ChangeShapes Go.WideShapes Go.ChangeAt Go.RowKit

theorem box_cell {w : World} {j : Nat} {cs : Array Value} {T : TypeId} (h : w.heap[j]? = some (.cells cs T (0, 0))) (f : Nat) (v : Value) (hv : cs[f]? = some v) : w.cell? ⟨j, f, none⟩ = some v := by
  rw [cell_of_row _ _ _ _ _ _ h, hv]
theorem later_block {w w' : World} {j : Nat} {o : Obj} (hb : Below w.heap.size w w') (h : w.heap[j]? = some o) : w'.heap[j]? = some o := (hb.block j (Array.getElem?_eq_some_iff.1 h).1).trans h
theorem froz_of {W : World} {E : Nat} {cs : Array Value} {t : Nat} (h : W.heap[E]? = some (.cells cs t (0, 0))) (i : Nat) : W.frozen? ⟨E, i, none⟩ = false := by simp [World.frozen?, h]
theorem cell_aside (W : World) {A B i k : Nat} (v : Value) (h : B ≠ A) : (W.setCell ⟨A, i, none⟩ v).cell? ⟨B, k, none⟩ = W.cell? ⟨B, k, none⟩ :=
  World.cell?_of_block (heap_setCell_other W ⟨A, i, none⟩ B v (fun e => h (by simpa using e)))
end Go.Proofs.YtijcpmbfhfppmaaGreatDoor
