/- The contract of tollgateref02.SameEntry. -/
import Derived.Test.YtijcpmbfhfppmaaGreatDoorRenty
import Derived.Test.YtijcpmbfhfppmaaGreatDoorWent
namespace Go.Proofs.YtijcpmbfhfppmaaGreatDoor
open Go.ChangeShapes Go.WideShapes Go.ChangeAt Go.RowKit
theorem str_eq_same (l : List Nat) : ((strOf l).toList == (strOf l).toList) = true := by simp
set_option maxHeartbeats 1000000 in
theorem sameEntry_yes (k t i : Int) (a a' : Option Addr) (n n' c c' : Nat) (l : List Nat) (w : World) (hn : l.length = n) (hn' : l.length = n') (hb : BytesAt w a l) (hb' : BytesAt w a' l) :
    Calls Tryz.prog 59 #[entVal k t i a n c, entVal k t i a' n' c'] w fun e w' => e = .returned (.bool true) ∧ Below w.heap.size w w' := by
  have x0 := heap_old (entB k t i a' n' c') (heap_new w (entB k t i a n c))
  have x1 := heap_new (w.alloc (entB k t i a n c)) (entB k t i a' n' c')
  rw [size_alloc] at x1
  obtain ⟨c0, c1, c2, c3⟩ := entB_cells x0
  obtain ⟨d0, d1, d2, d3⟩ := entB_cells x1
  have bA : Below w.heap.size w ((w.alloc (entB k t i a n c)).alloc (entB k t i a' n' c')) := ((Below.refl _ _).alloc (Nat.le_refl _) _).alloc (by rw [size_alloc]; omega) _
  have s1 := run_string8 (c := c) n hn (hb.later bA)
  have s2 := run_string8 (c := c') n' hn' (hb'.later bA)
  have t1 := str_eq_same l
  have BA := hide bA
  clear x0 x1 bA hb hb' hn hn'
  go_enter Tryz.func59, Tryz.ntmps59
  go_wp2
  go_ret
  exact ⟨rfl, unhide BA⟩
end Go.Proofs.YtijcpmbfhfppmaaGreatDoor
