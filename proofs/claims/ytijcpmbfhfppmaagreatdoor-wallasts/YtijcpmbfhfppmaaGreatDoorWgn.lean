/- A log that is none. -/
import Derived.Test.YtijcpmbfhfppmaaGreatDoorWgc
namespace Go.Proofs.YtijcpmbfhfppmaaGreatDoor
open Go.ChangeShapes Go.WideShapes Go.ChangeAt Go.RowKit
set_option linter.unusedVariables false
set_option maxRecDepth 20000

theorem openN_calls (w : World) : Calls Tryz.prog 25 #[.pointer none] w fun e w' => e = .returned (.tuple #[.pointer none, .int .i64 1]) ∧ Below w.heap.size w w' := by
  have B0 := hide (Below.refl w.heap.size w)
  go_enter Tryz.func25, Tryz.ntmps25
  go_wp2
  go_ret2
  exact ⟨rfl, unhide B0⟩
theorem appendN_calls (w : World) (v : Value) : Calls Tryz.prog 27 #[.pointer none, v] w fun e w' => e = .returned (.int .i64 1) ∧ Below w.heap.size w w' := by
  have B0 := hide (Below.refl w.heap.size w)
  go_enter Tryz.func27, Tryz.ntmps27
  go_wp2
  go_ret
  exact ⟨rfl, unhide B0⟩
theorem syncN_calls (w : World) : Calls Tryz.prog 29 #[.pointer none] w fun e w' => e = .returned (.int .i64 1) ∧ Below w.heap.size w w' := by
  have B0 := hide (Below.refl w.heap.size w)
  go_enter Tryz.func29, Tryz.ntmps29
  go_wp2
  go_ret
  exact ⟨rfl, unhide B0⟩
theorem compactN_calls (w : World) (i : Int) : Calls Tryz.prog 30 #[.pointer none, .int .i64 i] w fun e w' => e = .returned (.int .i64 1) ∧ Below w.heap.size w w' := by
  have B0 := hide (Below.refl w.heap.size w)
  go_enter Tryz.func30, Tryz.ntmps30
  go_wp2
  go_ret
  exact ⟨rfl, unhide B0⟩
theorem lastN_calls (w : World) : Calls Tryz.prog 39 #[.pointer none] w fun e w' => e = .returned (.int .i64 0) ∧ Below w.heap.size w w' := by
  have B0 := hide (Below.refl w.heap.size w)
  go_enter Tryz.func39, Tryz.ntmps39
  go_wp2
  go_ret
  exact ⟨rfl, unhide B0⟩
theorem termN_calls (w : World) (i : Int) : Calls Tryz.prog 19 #[.pointer none, .int .i64 i] w fun e w' => e = .returned (.tuple #[.int .i64 0, .bool false]) ∧ Below w.heap.size w w' := by
  have B0 := hide (Below.refl w.heap.size w)
  go_enter Tryz.func19, Tryz.ntmps19
  go_wp2
  go_ret2
  exact ⟨rfl, unhide B0⟩
theorem entriesN_calls (w : World) (i j : Int) : Calls Tryz.prog 22 #[.pointer none, .int .i64 i, .int .i64 j] w fun e w' => e = .returned (.slice none 0 0) ∧ Below w.heap.size w w' := by
  have B0 := hide (Below.refl w.heap.size w)
  go_enter Tryz.func22, Tryz.ntmps22
  go_wp2
  go_ret
  exact ⟨rfl, unhide B0⟩
theorem fileN_calls (w : World) : Calls Tryz.prog 34 #[.pointer none] w fun e w' => e = .returned (.string ⟨#[]⟩) ∧ Below w.heap.size w w' := by
  have B0 := hide (Below.refl w.heap.size w)
  go_enter Tryz.func34, Tryz.ntmps34
  go_wp2
  go_ret
  exact ⟨rfl, unhide B0⟩
theorem setHardN_calls (w : World) (t v : Int) : Calls Tryz.prog 28 #[.pointer none, .agg #[.int .i64 t, .int .i64 v]] w fun e w' => e = .returned (.int .i64 1) ∧ Below w.heap.size w w' := by
  have B0 := hide (show Below w.heap.size w (w.alloc (.cells #[.int .i64 t, .int .i64 v] 29)) from (Below.refl _ _).alloc (Nat.le_refl _) _)
  go_enter Tryz.func28, Tryz.ntmps28
  go_wp2
  go_ret
  exact ⟨rfl, unhide B0⟩
theorem resetN_calls (w : World) (t v : Int) : Calls Tryz.prog 31 #[.pointer none, .agg #[.int .i64 t, .int .i64 v]] w fun e w' => e = .returned (.int .i64 1) ∧ Below w.heap.size w w' := by
  have B0 := hide (show Below w.heap.size w (w.alloc (.cells #[.int .i64 t, .int .i64 v] 31)) from (Below.refl _ _).alloc (Nat.le_refl _) _)
  go_enter Tryz.func31, Tryz.ntmps31
  go_wp2
  go_ret
  exact ⟨rfl, unhide B0⟩
theorem hardN_calls (w : World) : Calls Tryz.prog 40 #[.pointer none] w fun e w' => e = .returned (.agg #[.int .i64 0, .int .i64 0]) ∧ Below w.heap.size w w' := by
  have X1 := heap_new w (.cells #[.int .i64 0, .int .i64 0] 29)
  have B0 := hide (show Below w.heap.size w (w.alloc (.cells #[.int .i64 0, .int .i64 0] 29)) from (Below.refl _ _).alloc (Nat.le_refl _) _)
  have x0 : (w.alloc (.cells #[.int .i64 0, .int .i64 0] 29)).cell? ⟨w.heap.size, 0, none⟩ = some (.int .i64 0) := box_cell X1 0 _ rfl
  have x1 : (w.alloc (.cells #[.int .i64 0, .int .i64 0] 29)).cell? ⟨w.heap.size, 1, none⟩ = some (.int .i64 0) := box_cell X1 1 _ rfl
  clear X1
  go_enter Tryz.func40, Tryz.ntmps40
  go_wp2
  refine bodyPost_ret (v := .agg #[.int .i64 0, .int .i64 0]) (by simp [results, Tryz.results40, go_sem, x0, x1]) rfl ⟨rfl, unhide B0⟩
theorem baseN_calls (w : World) : Calls Tryz.prog 41 #[.pointer none] w fun e w' => e = .returned (.agg #[.int .i64 0, .int .i64 0]) ∧ Below w.heap.size w w' := by
  have X1 := heap_new w (.cells #[.int .i64 0, .int .i64 0] 31)
  have B0 := hide (show Below w.heap.size w (w.alloc (.cells #[.int .i64 0, .int .i64 0] 31)) from (Below.refl _ _).alloc (Nat.le_refl _) _)
  have x0 : (w.alloc (.cells #[.int .i64 0, .int .i64 0] 31)).cell? ⟨w.heap.size, 0, none⟩ = some (.int .i64 0) := box_cell X1 0 _ rfl
  have x1 : (w.alloc (.cells #[.int .i64 0, .int .i64 0] 31)).cell? ⟨w.heap.size, 1, none⟩ = some (.int .i64 0) := box_cell X1 1 _ rfl
  clear X1
  go_enter Tryz.func41, Tryz.ntmps41
  go_wp2
  refine bodyPost_ret (v := .agg #[.int .i64 0, .int .i64 0]) (by simp [results, Tryz.results41, go_sem, x0, x1]) rfl ⟨rfl, unhide B0⟩
section
variable {Av : Nat → Prop} {base : Nat} {w w' : World} {L d M room N N' : Nat} {ss ss' : Ds} {c : Wc} {n : Nat} {ep : Option Addr} {ec : Nat} {hs : List (Option Addr × Nat)}
theorem whard_calls (z : WAt Av base w L d M room N ss c n ep ec hs) : Calls Tryz.prog 40 #[.pointer (some ⟨L, 0, none⟩)] w fun e w' => e = .returned (.agg #[.int .i64 (c.ht : Int), .int .i64 (c.hv : Int)]) ∧ Below w.heap.size w w' := by
  have U0 := (Below.refl w.heap.size w).alloc (Nat.le_refl _) (.cells #[.int .i64 0, .int .i64 0] 29)
  have z1 := z.later U0
  have l3 : (w.alloc (.cells #[.int .i64 0, .int .i64 0] 29)).cell? ⟨L, 3, none⟩ = some (.int .i64 (c.ht : Int)) := box_cell z1.lg.row 3 _ rfl
  have l4 : (w.alloc (.cells #[.int .i64 0, .int .i64 0] 29)).cell? ⟨L, 4, none⟩ = some (.int .i64 (c.hv : Int)) := box_cell z1.lg.row 4 _ rfl
  have X0 := heap_new w (.cells #[.int .i64 0, .int .i64 0] 29)
  have f0 := froz_of X0 0
  have f1 := froz_of X0 1
  have y0 : (w.alloc (.cells #[.int .i64 0, .int .i64 0] 29)).cell? ⟨w.heap.size, 0, none⟩ = some (.int .i64 0) := box_cell X0 0 _ rfl
  have y1 : (w.alloc (.cells #[.int .i64 0, .int .i64 0] 29)).cell? ⟨w.heap.size, 1, none⟩ = some (.int .i64 0) := box_cell X0 1 _ rfl
  have BF := hide ((Below.refl w.heap.size w).alloc (Nat.le_refl _) (.cells #[.int .i64 (c.ht : Int), .int .i64 (c.hv : Int)] 29))
  clear z z1 U0 X0
  go_enter Tryz.func40, Tryz.ntmps40
  go_wp2
  refine bodyPost_ret (v := .agg #[.int .i64 (c.ht : Int), .int .i64 (c.hv : Int)]) (by simp [results, Tryz.results40, go_sem]) rfl ⟨rfl, unhide BF⟩
theorem wbase_calls (z : WAt Av base w L d M room N ss c n ep ec hs) : Calls Tryz.prog 41 #[.pointer (some ⟨L, 0, none⟩)] w fun e w' => e = .returned (.agg #[.int .i64 (c.bi : Int), .int .i64 (c.bt : Int)]) ∧ Below w.heap.size w w' := by
  have U0 := (Below.refl w.heap.size w).alloc (Nat.le_refl _) (.cells #[.int .i64 0, .int .i64 0] 31)
  have z1 := z.later U0
  have l3 : (w.alloc (.cells #[.int .i64 0, .int .i64 0] 31)).cell? ⟨L, 1, none⟩ = some (.int .i64 (c.bi : Int)) := box_cell z1.lg.row 1 _ rfl
  have l4 : (w.alloc (.cells #[.int .i64 0, .int .i64 0] 31)).cell? ⟨L, 2, none⟩ = some (.int .i64 (c.bt : Int)) := box_cell z1.lg.row 2 _ rfl
  have X0 := heap_new w (.cells #[.int .i64 0, .int .i64 0] 31)
  have f0 := froz_of X0 0
  have f1 := froz_of X0 1
  have y0 : (w.alloc (.cells #[.int .i64 0, .int .i64 0] 31)).cell? ⟨w.heap.size, 0, none⟩ = some (.int .i64 0) := box_cell X0 0 _ rfl
  have y1 : (w.alloc (.cells #[.int .i64 0, .int .i64 0] 31)).cell? ⟨w.heap.size, 1, none⟩ = some (.int .i64 0) := box_cell X0 1 _ rfl
  have BF := hide ((Below.refl w.heap.size w).alloc (Nat.le_refl _) (.cells #[.int .i64 (c.bi : Int), .int .i64 (c.bt : Int)] 31))
  clear z z1 U0 X0
  go_enter Tryz.func41, Tryz.ntmps41
  go_wp2
  refine bodyPost_ret (v := .agg #[.int .i64 (c.bi : Int), .int .i64 (c.bt : Int)]) (by simp [results, Tryz.results41, go_sem]) rfl ⟨rfl, unhide BF⟩
end
end Go.Proofs.YtijcpmbfhfppmaaGreatDoor
