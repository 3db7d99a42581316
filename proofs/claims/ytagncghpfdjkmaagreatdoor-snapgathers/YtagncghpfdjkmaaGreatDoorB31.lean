/- Snapshots: the document's Copy. -/
import Derived.Test.YtagncghpfdjkmaaGreatDoorB27
import Derived.Test.YtagncghpfdjkmaaGreatDoorB30
import Derived.Test.YtagncghpfdjkmaaGreatDoorB11
namespace Go.Proofs.YtagncghpfdjkmaaGreatDoor
open Go.ChangeShapes Go.WideShapes Go.ChangeAt Go.RowKit
set_option linter.unusedVariables false

theorem blk_adr {sp : Option Addr} {g : Nat} (h : blk sp = some g) : ∃ ad, sp = some ad ∧ ad.block = g := by
  cases sp with
  | none => cases h
  | some ad => exact ⟨ad, rfl, Option.some.inj h⟩
theorem OwnB.blkLt {base : Nat} {V : World} {sp : Option Addr} {cc : Nat} {l : List Nat} (x : OwnB base V sp cc l) : ∀ g, blk sp = some g → g < V.heap.size := by
  intro g e
  obtain ⟨ad, rfl, rfl⟩ := blk_adr e
  rcases x.owns.2 with ⟨hv, _⟩ | ⟨g, cap, cur, hv, hb, hh, _⟩
  · simp only [Value.slice.injEq] at hv
    cases hv.1
  · simp only [Value.slice.injEq] at hv
    rw [Option.some.inj hv.1]
    exact (Array.getElem?_eq_some_iff.1 hh).1
end Go.Proofs.YtagncghpfdjkmaaGreatDoor
