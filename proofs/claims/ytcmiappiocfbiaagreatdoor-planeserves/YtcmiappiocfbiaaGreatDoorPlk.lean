/- Plane: no plane. -/
import Derived.Test.YtcmiappiocfbiaaGreatDoorPlh
namespace Go.Proofs.YtcmiappiocfbiaaGreatDoor
open Go.ChangeShapes Go.WideShapes Go.ChangeAt Go.RowKit

set_option maxRecDepth 20000 in
set_option maxHeartbeats 4000000 in
theorem applyN_calls (w : World) (ver : Int) (ra : Option Addr) (n rc : Nat) (pa : Option Addr) (m pc : Nat) : Calls Tryz.prog 9 #[.pointer none, .agg #[.int .i64 ver, .slice ra n rc, .slice pa m pc]] w fun e w' => e = .returned (.int .i64 1) ∧ Below w.heap.size w w' := by
  have B1 := hide (show Below w.heap.size w (w.alloc (.cells #[.int .i64 ver, .slice ra n rc, .slice pa m pc] 28)) from (Below.refl _ _).alloc (Nat.le_refl _) _)
  go_enter Tryz.func9, Tryz.ntmps9
  go_wp2
  go_ret
  exact ⟨rfl, unhide B1⟩
theorem versionN_calls (w : World) : Calls Tryz.prog 12 #[.pointer none] w fun e w' => e = .returned (.int .i64 0) ∧ w' = w := by
  go_enter Tryz.func12, Tryz.ntmps12
  go_wp2
  go_ret
  exact ⟨rfl, rfl⟩
set_option maxRecDepth 20000 in
set_option maxHeartbeats 4000000 in
theorem configN_calls (w : World) : Calls Tryz.prog 14 #[.pointer none] w fun e w' => e = .returned (.agg #[.int .i64 0, .slice none 0 0, .slice none 0 0]) ∧ Below w.heap.size w w' := by
  have B1 := hide (show Below w.heap.size w (w.alloc (.cells #[.int .i64 0, .slice none 0 0, .slice none 0 0] 28)) from (Below.refl _ _).alloc (Nat.le_refl _) _)
  have g0 := fcell0 (heap_new w (.cells #[.int .i64 0, .slice none 0 0, .slice none 0 0] 28)) 0 _ rfl
  have g1 := fcell0 (heap_new w (.cells #[.int .i64 0, .slice none 0 0, .slice none 0 0] 28)) 1 _ rfl
  have g2 := fcell0 (heap_new w (.cells #[.int .i64 0, .slice none 0 0, .slice none 0 0] 28)) 2 _ rfl
  go_enter Tryz.func14, Tryz.ntmps14
  go_wp2
  refine bodyPost_ret (v := .agg #[.int .i64 0, .slice none 0 0, .slice none 0 0]) (by simp [results, Tryz.results14, go_sem, g0, g1, g2]) rfl ⟨rfl, unhide B1⟩
set_option maxRecDepth 20000 in
set_option maxHeartbeats 4000000 in
theorem serveN_calls (w : World) (sp : Option Addr) (n c x : Nat) : Calls Tryz.prog 10 #[.pointer none, .slice sp n c, .float .f64 x] w fun e w' => e = .returned (.agg #[.int .i64 0, .int .i64 0, .string ⟨#[]⟩, .string ⟨#[]⟩]) ∧ Below w.heap.size w w' := by
  have B1 := hide (show Below w.heap.size w (w.alloc (.cells #[.int .i64 0, .int .i64 0, .string ⟨#[]⟩, .string ⟨#[]⟩] 43)) from (Below.refl _ _).alloc (Nat.le_refl _) _)
  have Y := heap_new w (.cells #[.int .i64 0, .int .i64 0, .string ⟨#[]⟩, .string ⟨#[]⟩] 43)
  have g0 := fcell0 Y 0 _ rfl
  have g1 := fcell0 Y 1 _ rfl
  have g2 := fcell0 Y 2 _ rfl
  have g3 := fcell0 Y 3 _ rfl
  go_enter Tryz.func10, Tryz.ntmps10
  go_wp2
  refine bodyPost_ret (v := .agg #[.int .i64 0, .int .i64 0, .string ⟨#[]⟩, .string ⟨#[]⟩]) (by simp [results, Tryz.results10, go_sem, g0, g1, g2, g3]) rfl ⟨rfl, unhide B1⟩
theorem confN (w : World) : CfAt w ⟨0, [], []⟩ ⟨none, 0, none, 0⟩ := ⟨by simp, ⟨by simp, by simp⟩, ⟨by simp⟩, ⟨by simp, by simp⟩, ⟨by simp, by simp⟩, fun _ => rfl⟩
theorem cfN : cfVal ⟨0, [], []⟩ ⟨none, 0, none, 0⟩ = .agg #[.int .i64 0, .slice none 0 0, .slice none 0 0] := rfl
theorem sameN_calls (W : World) : Calls Tryz.prog 13 #[.agg #[.int .i64 0, .slice none 0 0, .slice none 0 0], .agg #[.int .i64 0, .slice none 0 0, .slice none 0 0]] W fun r w' => r = .returned (.bool true) ∧ Below W.heap.size W w' := by
  have h := sameC_calls (confN W) (confN W)
  rw [cfN] at h
  exact h
end Go.Proofs.YtcmiappiocfbiaaGreatDoor
