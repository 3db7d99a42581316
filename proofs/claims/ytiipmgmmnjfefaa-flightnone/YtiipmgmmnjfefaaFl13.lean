/- Flight: what a nil net answers. -/
import Derived.Test.YtiipmgmmnjfefaaFl0
namespace Go.Proofs.Ytiipmgmmnjfefaa
open Go.ChangeShapes Go.WideShapes Go.ChangeAt Go.RowKit

theorem send_nil (f t : Int) (a : Option Addr) (m k : Nat) (w : World) : Calls Try.prog 18 #[.pointer none, .int .i64 f, .int .i64 t, .slice a m k] w fun e w' => e = .returned (.tuple #[.int .i64 0, .int .i64 1]) ∧ w' = w := by
  go_enter Try.func18, Try.ntmps18
  go_wp2
  go_ret2
  exact ⟨rfl, rfl⟩
theorem double_nil (i : Int) (w : World) : Calls Try.prog 22 #[.pointer none, .int .i64 i] w fun e w' => e = .returned (.tuple #[.int .i64 0, .int .i64 1]) ∧ w' = w := by
  go_enter Try.func22, Try.ntmps22
  go_wp2
  go_ret2
  exact ⟨rfl, rfl⟩
theorem tick_nil (i : Int) (w : World) : Calls Try.prog 29 #[.pointer none, .int .i64 i] w fun e w' => e = .returned (.tuple #[.int .i64 0, .int .i64 1]) ∧ w' = w := by
  go_enter Try.func29, Try.ntmps29
  go_wp2
  go_ret2
  exact ⟨rfl, rfl⟩
theorem part_nil (f t : Int) (w : World) : Calls Try.prog 25 #[.pointer none, .int .i64 f, .int .i64 t] w fun e w' => e = .returned (.int .i64 1) ∧ Below w.heap.size w w' := by
  have bA := hide (show Below w.heap.size w (w.alloc (.cells #[.int .i64 f, .int .i64 t] 70)) from (Below.refl _ _).alloc (Nat.le_refl _) _)
  go_enter Try.func25, Try.ntmps25
  go_wp2
  go_ret
  exact ⟨rfl, unhide bA⟩
theorem heal_nil (f t : Int) (w : World) : Calls Try.prog 28 #[.pointer none, .int .i64 f, .int .i64 t] w fun e w' => e = .returned (.int .i64 1) ∧ Below w.heap.size w w' := by
  have bA := hide (show Below w.heap.size w (w.alloc (.cells #[.int .i64 f, .int .i64 t] 70)) from (Below.refl _ _).alloc (Nat.le_refl _) _)
  go_enter Try.func28, Try.ntmps28
  go_wp2
  go_ret
  exact ⟨rfl, unhide bA⟩
theorem parted_nil (f t : Int) (w : World) : Calls Try.prog 27 #[.pointer none, .int .i64 f, .int .i64 t] w fun e w' => e = .returned (.bool false) ∧ w' = w := by
  go_enter Try.func27, Try.ntmps27
  go_wp2
  go_ret
  exact ⟨rfl, rfl⟩
theorem len_nil (w : World) : Calls Try.prog 23 #[.pointer none] w fun e w' => e = .returned (.int .i64 0) ∧ w' = w := by
  go_enter Try.func23, Try.ntmps23
  go_wp2
  go_ret
  exact ⟨rfl, rfl⟩
theorem under_nil (w : World) : Calls Try.prog 21 #[.pointer none] w fun e w' => e = .returned (.slice none 0 0) ∧ w' = w := by
  go_enter Try.func21, Try.ntmps21
  go_wp2
  go_ret
  exact ⟨rfl, rfl⟩
theorem now_nil (i : Int) (w : World) : Calls Try.prog 30 #[.pointer none, .int .i64 i] w fun e w' => e = .returned (.int .i64 0) ∧ w' = w := by
  go_enter Try.func30, Try.ntmps30
  go_wp2
  go_ret
  exact ⟨rfl, rfl⟩
theorem fork_nil (w : World) : Calls Try.prog 31 #[.pointer none] w fun e w' => e = .returned (.pointer none) ∧ w' = w := by
  go_enter Try.func31, Try.ntmps31
  go_wp2
  go_ret
  exact ⟨rfl, rfl⟩
abbrev zP : Obj := .cells #[.int .i64 0, .int .i64 0, .int .i64 0, .slice none 0 0] 40
set_option maxHeartbeats 1000000 in
theorem take_nil (i : Int) (w : World) : Calls Try.prog 19 #[.pointer none, .int .i64 i] w fun e w' => e = .returned (.tuple #[.agg #[.int .i64 0, .int .i64 0, .int .i64 0, .slice none 0 0], .int .i64 1]) ∧ Below w.heap.size w w' := by
  go_enter Try.func19, Try.ntmps19
  have h0 := heap_new w zP
  have z0 := box_cell h0 0 _ rfl
  have z1 := box_cell h0 1 _ rfl
  have z2 := box_cell h0 2 _ rfl
  have z3 := box_cell h0 3 _ rfl
  have bA := hide (show Below w.heap.size w (w.alloc zP) from (Below.refl _ _).alloc (Nat.le_refl _) _)
  clear h0
  go_wp2
  refine bodyPost_ret (v := .tuple #[.agg #[.int .i64 0, .int .i64 0, .int .i64 0, .slice none 0 0], .int .i64 1]) (by simp [results, Try.results19, go_sem, z0, z1, z2, z3]) rfl ?_
  exact ⟨rfl, unhide bA⟩
end Go.Proofs.Ytiipmgmmnjfefaa
