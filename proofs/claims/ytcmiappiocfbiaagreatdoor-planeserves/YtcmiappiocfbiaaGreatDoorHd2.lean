/- Heads: what a letter may stand in; whether all letters of a text are such. -/
import Derived.Test.YtcmiappiocfbiaaGreatDoorHd1
namespace Go.Proofs.YtcmiappiocfbiaaGreatDoor
open Go.ChangeShapes Go.WideShapes Go.ChangeAt Go.RowKit
set_option linter.unusedVariables false

def ks1 : ByteArray := ⟨#[35, 37, 94, 96, 124]⟩
def ks2 : ByteArray := ⟨#[33, 36, 38, 39, 42, 43, 46, 95, 126]⟩
def ks3 : ByteArray := ⟨#[47, 40, 41, 44, 59, 61, 58, 64]⟩
theorem ks1_is (c : Int) : inS ks1.data.toList c = decide (c = 35 ∨ c = 37 ∨ c = 94 ∨ c = 96 ∨ c = 124) := by
  rw [Bool.eq_iff_iff]; simp [inS, ks1]; omega
theorem ks2_is (c : Int) : inS ks2.data.toList c = decide (c = 33 ∨ c = 36 ∨ c = 38 ∨ c = 39 ∨ c = 42 ∨ c = 43 ∨ c = 46 ∨ c = 95 ∨ c = 126) := by
  rw [Bool.eq_iff_iff]; simp [inS, ks2]; omega
theorem ks3_is (c : Int) : inS ks3.data.toList c = decide (c = 47 ∨ c = 40 ∨ c = 41 ∨ c = 44 ∨ c = 59 ∨ c = 61 ∨ c = 58 ∨ c = 64) := by
  rw [Bool.eq_iff_iff]; simp [inS, ks3]; omega
theorem between_yes (c lo hi : Int) (w : World) (h : lo ≤ c ∧ c ≤ hi) : Calls Tryz.prog 131 #[.int .i32 c, .int .i32 lo, .int .i32 hi] w fun e w' => e = .returned (.bool true) ∧ w' = w := by
  have := between_calls c lo hi w
  rwa [decide_eq_true h] at this
theorem between_no (c lo hi : Int) (w : World) (h : ¬ (lo ≤ c ∧ c ≤ hi)) : Calls Tryz.prog 131 #[.int .i32 c, .int .i32 lo, .int .i32 hi] w fun e w' => e = .returned (.bool false) ∧ w' = w := by
  have := between_calls c lo hi w
  rwa [decide_eq_false h] at this
set_option maxRecDepth 20000 in
set_option maxHeartbeats 4000000 in
theorem kinds_0a (c : Nat) (hc : c < 128) (w : World) (h0 : c = 35 ∨ c = 37 ∨ c = 94 ∨ c = 96 ∨ c = 124) : Calls Tryz.prog 120 #[.int .i32 (c : Int)] w fun e w' => e = .returned (.int .i64 72) ∧ w' = w := by
  have R1 := hide (hasRune_lo ks1 c w (by omega) (by omega))
  have R2 := hide (hasRune_lo ks2 c w (by omega) (by omega))
  have R3 := hide (hasRune_lo ks3 c w (by omega) (by omega))
  rw [ks1_is, decide_eq_true (by omega)] at R1
  rw [ks2_is, decide_eq_false (by omega)] at R2
  rw [ks3_is, decide_eq_false (by omega)] at R3
  have n45 : ((c : Int) == 45) = false := by simp; omega
  have n63 : ((c : Int) == 63) = false := by simp; omega
  have n9 : ((c : Int) == 9) = false := by simp; omega
  have n127 : ¬ (127 : Int) < (c : Int) := by omega
  go_enter Tryz.func120, Tryz.ntmps120
  go_wp2_with (first
    | (go_at_call 131; refine (between_yes _ _ _ _ (by omega)).mono ?_; rintro e w' ⟨rfl, rfl⟩)
    | (go_at_call 131; refine (between_no _ _ _ _ (by omega)).mono ?_; rintro e w' ⟨rfl, rfl⟩)
    | (go_at_call_of 112 (Value.string { data := #[35, 37, 94, 96, 124] }); refine (unhide R1).mono ?_; rintro e w' ⟨rfl, rfl⟩)
    | (go_at_call_of 112 (Value.string { data := #[33, 36, 38, 39, 42, 43, 46, 95, 126] }); refine (unhide R2).mono ?_; rintro e w' ⟨rfl, rfl⟩)
    | (go_at_call_of 112 (Value.string { data := #[47, 40, 41, 44, 59, 61, 58, 64] }); refine (unhide R3).mono ?_; rintro e w' ⟨rfl, rfl⟩))
  go_ret
  exact ⟨rfl, rfl⟩
set_option maxRecDepth 20000 in
set_option maxHeartbeats 4000000 in
theorem kinds_1a (c : Nat) (hc : c < 128) (w : World) (h0 : ¬ (c = 35 ∨ c = 37 ∨ c = 94 ∨ c = 96 ∨ c = 124))  (h1 : 48 ≤ c ∧ c ≤ 57) : Calls Tryz.prog 120 #[.int .i32 (c : Int)] w fun e w' => e = .returned (.int .i64 127) ∧ w' = w := by
  have R1 := hide (hasRune_lo ks1 c w (by omega) (by omega))
  have R2 := hide (hasRune_lo ks2 c w (by omega) (by omega))
  have R3 := hide (hasRune_lo ks3 c w (by omega) (by omega))
  rw [ks1_is, decide_eq_false (by omega)] at R1
  rw [ks2_is, decide_eq_false (by omega)] at R2
  rw [ks3_is, decide_eq_false (by omega)] at R3
  have n45 : ((c : Int) == 45) = false := by simp; omega
  have n63 : ((c : Int) == 63) = false := by simp; omega
  have n9 : ((c : Int) == 9) = false := by simp; omega
  have n127 : ¬ (127 : Int) < (c : Int) := by omega
  go_enter Tryz.func120, Tryz.ntmps120
  go_wp2_with (first
    | (go_at_call 131; refine (between_yes _ _ _ _ (by omega)).mono ?_; rintro e w' ⟨rfl, rfl⟩)
    | (go_at_call 131; refine (between_no _ _ _ _ (by omega)).mono ?_; rintro e w' ⟨rfl, rfl⟩)
    | (go_at_call_of 112 (Value.string { data := #[35, 37, 94, 96, 124] }); refine (unhide R1).mono ?_; rintro e w' ⟨rfl, rfl⟩)
    | (go_at_call_of 112 (Value.string { data := #[33, 36, 38, 39, 42, 43, 46, 95, 126] }); refine (unhide R2).mono ?_; rintro e w' ⟨rfl, rfl⟩)
    | (go_at_call_of 112 (Value.string { data := #[47, 40, 41, 44, 59, 61, 58, 64] }); refine (unhide R3).mono ?_; rintro e w' ⟨rfl, rfl⟩))
  go_ret
  exact ⟨rfl, rfl⟩
set_option maxRecDepth 20000 in
set_option maxHeartbeats 4000000 in
theorem kinds_2a (c : Nat) (hc : c < 128) (w : World) (h0 : ¬ (c = 35 ∨ c = 37 ∨ c = 94 ∨ c = 96 ∨ c = 124))  (h1 : ¬ (48 ≤ c ∧ c ≤ 57))  (h2 : 97 ≤ c ∧ c ≤ 102) : Calls Tryz.prog 120 #[.int .i32 (c : Int)] w fun e w' => e = .returned (.int .i64 126) ∧ w' = w := by
  have R1 := hide (hasRune_lo ks1 c w (by omega) (by omega))
  have R2 := hide (hasRune_lo ks2 c w (by omega) (by omega))
  have R3 := hide (hasRune_lo ks3 c w (by omega) (by omega))
  rw [ks1_is, decide_eq_false (by omega)] at R1
  rw [ks2_is, decide_eq_false (by omega)] at R2
  rw [ks3_is, decide_eq_false (by omega)] at R3
  have n45 : ((c : Int) == 45) = false := by simp; omega
  have n63 : ((c : Int) == 63) = false := by simp; omega
  have n9 : ((c : Int) == 9) = false := by simp; omega
  have n127 : ¬ (127 : Int) < (c : Int) := by omega
  go_enter Tryz.func120, Tryz.ntmps120
  go_wp2_with (first
    | (go_at_call 131; refine (between_yes _ _ _ _ (by omega)).mono ?_; rintro e w' ⟨rfl, rfl⟩)
    | (go_at_call 131; refine (between_no _ _ _ _ (by omega)).mono ?_; rintro e w' ⟨rfl, rfl⟩)
    | (go_at_call_of 112 (Value.string { data := #[35, 37, 94, 96, 124] }); refine (unhide R1).mono ?_; rintro e w' ⟨rfl, rfl⟩)
    | (go_at_call_of 112 (Value.string { data := #[33, 36, 38, 39, 42, 43, 46, 95, 126] }); refine (unhide R2).mono ?_; rintro e w' ⟨rfl, rfl⟩)
    | (go_at_call_of 112 (Value.string { data := #[47, 40, 41, 44, 59, 61, 58, 64] }); refine (unhide R3).mono ?_; rintro e w' ⟨rfl, rfl⟩))
  go_ret
  exact ⟨rfl, rfl⟩
set_option maxRecDepth 20000 in
set_option maxHeartbeats 4000000 in
theorem kinds_2b (c : Nat) (hc : c < 128) (w : World) (h0 : ¬ (c = 35 ∨ c = 37 ∨ c = 94 ∨ c = 96 ∨ c = 124))  (h1 : ¬ (48 ≤ c ∧ c ≤ 57))  (h2 : ¬ (97 ≤ c ∧ c ≤ 102))  (h3 : 65 ≤ c ∧ c ≤ 70) : Calls Tryz.prog 120 #[.int .i32 (c : Int)] w fun e w' => e = .returned (.int .i64 126) ∧ w' = w := by
  have R1 := hide (hasRune_lo ks1 c w (by omega) (by omega))
  have R2 := hide (hasRune_lo ks2 c w (by omega) (by omega))
  have R3 := hide (hasRune_lo ks3 c w (by omega) (by omega))
  rw [ks1_is, decide_eq_false (by omega)] at R1
  rw [ks2_is, decide_eq_false (by omega)] at R2
  rw [ks3_is, decide_eq_false (by omega)] at R3
  have n45 : ((c : Int) == 45) = false := by simp; omega
  have n63 : ((c : Int) == 63) = false := by simp; omega
  have n9 : ((c : Int) == 9) = false := by simp; omega
  have n127 : ¬ (127 : Int) < (c : Int) := by omega
  go_enter Tryz.func120, Tryz.ntmps120
  go_wp2_with (first
    | (go_at_call 131; refine (between_yes _ _ _ _ (by omega)).mono ?_; rintro e w' ⟨rfl, rfl⟩)
    | (go_at_call 131; refine (between_no _ _ _ _ (by omega)).mono ?_; rintro e w' ⟨rfl, rfl⟩)
    | (go_at_call_of 112 (Value.string { data := #[35, 37, 94, 96, 124] }); refine (unhide R1).mono ?_; rintro e w' ⟨rfl, rfl⟩)
    | (go_at_call_of 112 (Value.string { data := #[33, 36, 38, 39, 42, 43, 46, 95, 126] }); refine (unhide R2).mono ?_; rintro e w' ⟨rfl, rfl⟩)
    | (go_at_call_of 112 (Value.string { data := #[47, 40, 41, 44, 59, 61, 58, 64] }); refine (unhide R3).mono ?_; rintro e w' ⟨rfl, rfl⟩))
  go_ret
  exact ⟨rfl, rfl⟩
set_option maxRecDepth 20000 in
set_option maxHeartbeats 4000000 in
theorem kinds_3a (c : Nat) (hc : c < 128) (w : World) (h0 : ¬ (c = 35 ∨ c = 37 ∨ c = 94 ∨ c = 96 ∨ c = 124))  (h1 : ¬ (48 ≤ c ∧ c ≤ 57))  (h2 : ¬ ((97 ≤ c ∧ c ≤ 102) ∨ (65 ≤ c ∧ c ≤ 70)))  (h3 : 97 ≤ c ∧ c ≤ 122) : Calls Tryz.prog 120 #[.int .i32 (c : Int)] w fun e w' => e = .returned (.int .i64 124) ∧ w' = w := by
  have R1 := hide (hasRune_lo ks1 c w (by omega) (by omega))
  have R2 := hide (hasRune_lo ks2 c w (by omega) (by omega))
  have R3 := hide (hasRune_lo ks3 c w (by omega) (by omega))
  rw [ks1_is, decide_eq_false (by omega)] at R1
  rw [ks2_is, decide_eq_false (by omega)] at R2
  rw [ks3_is, decide_eq_false (by omega)] at R3
  have n45 : ((c : Int) == 45) = false := by simp; omega
  have n63 : ((c : Int) == 63) = false := by simp; omega
  have n9 : ((c : Int) == 9) = false := by simp; omega
  have n127 : ¬ (127 : Int) < (c : Int) := by omega
  go_enter Tryz.func120, Tryz.ntmps120
  go_wp2_with (first
    | (go_at_call 131; refine (between_yes _ _ _ _ (by omega)).mono ?_; rintro e w' ⟨rfl, rfl⟩)
    | (go_at_call 131; refine (between_no _ _ _ _ (by omega)).mono ?_; rintro e w' ⟨rfl, rfl⟩)
    | (go_at_call_of 112 (Value.string { data := #[35, 37, 94, 96, 124] }); refine (unhide R1).mono ?_; rintro e w' ⟨rfl, rfl⟩)
    | (go_at_call_of 112 (Value.string { data := #[33, 36, 38, 39, 42, 43, 46, 95, 126] }); refine (unhide R2).mono ?_; rintro e w' ⟨rfl, rfl⟩)
    | (go_at_call_of 112 (Value.string { data := #[47, 40, 41, 44, 59, 61, 58, 64] }); refine (unhide R3).mono ?_; rintro e w' ⟨rfl, rfl⟩))
  go_ret
  exact ⟨rfl, rfl⟩
set_option maxRecDepth 20000 in
set_option maxHeartbeats 4000000 in
theorem kinds_3b (c : Nat) (hc : c < 128) (w : World) (h0 : ¬ (c = 35 ∨ c = 37 ∨ c = 94 ∨ c = 96 ∨ c = 124))  (h1 : ¬ (48 ≤ c ∧ c ≤ 57))  (h2 : ¬ ((97 ≤ c ∧ c ≤ 102) ∨ (65 ≤ c ∧ c ≤ 70)))  (h3 : ¬ (97 ≤ c ∧ c ≤ 122))  (h4 : 65 ≤ c ∧ c ≤ 90) : Calls Tryz.prog 120 #[.int .i32 (c : Int)] w fun e w' => e = .returned (.int .i64 124) ∧ w' = w := by
  have R1 := hide (hasRune_lo ks1 c w (by omega) (by omega))
  have R2 := hide (hasRune_lo ks2 c w (by omega) (by omega))
  have R3 := hide (hasRune_lo ks3 c w (by omega) (by omega))
  rw [ks1_is, decide_eq_false (by omega)] at R1
  rw [ks2_is, decide_eq_false (by omega)] at R2
  rw [ks3_is, decide_eq_false (by omega)] at R3
  have n45 : ((c : Int) == 45) = false := by simp; omega
  have n63 : ((c : Int) == 63) = false := by simp; omega
  have n9 : ((c : Int) == 9) = false := by simp; omega
  have n127 : ¬ (127 : Int) < (c : Int) := by omega
  go_enter Tryz.func120, Tryz.ntmps120
  go_wp2_with (first
    | (go_at_call 131; refine (between_yes _ _ _ _ (by omega)).mono ?_; rintro e w' ⟨rfl, rfl⟩)
    | (go_at_call 131; refine (between_no _ _ _ _ (by omega)).mono ?_; rintro e w' ⟨rfl, rfl⟩)
    | (go_at_call_of 112 (Value.string { data := #[35, 37, 94, 96, 124] }); refine (unhide R1).mono ?_; rintro e w' ⟨rfl, rfl⟩)
    | (go_at_call_of 112 (Value.string { data := #[33, 36, 38, 39, 42, 43, 46, 95, 126] }); refine (unhide R2).mono ?_; rintro e w' ⟨rfl, rfl⟩)
    | (go_at_call_of 112 (Value.string { data := #[47, 40, 41, 44, 59, 61, 58, 64] }); refine (unhide R3).mono ?_; rintro e w' ⟨rfl, rfl⟩))
  go_ret
  exact ⟨rfl, rfl⟩
set_option maxRecDepth 20000 in
set_option maxHeartbeats 4000000 in
theorem kinds_3c (c : Nat) (hc : c < 128) (w : World) (h0 : ¬ (c = 35 ∨ c = 37 ∨ c = 94 ∨ c = 96 ∨ c = 124))  (h1 : ¬ (48 ≤ c ∧ c ≤ 57))  (h2 : ¬ ((97 ≤ c ∧ c ≤ 102) ∨ (65 ≤ c ∧ c ≤ 70)))  (h3 : ¬ (97 ≤ c ∧ c ≤ 122))  (h4 : ¬ (65 ≤ c ∧ c ≤ 90))  (h5 : 44 < c) (h5b : c < 46) : Calls Tryz.prog 120 #[.int .i32 (c : Int)] w fun e w' => e = .returned (.int .i64 124) ∧ w' = w := by
  have R1 := hide (hasRune_lo ks1 c w (by omega) (by omega))
  have R2 := hide (hasRune_lo ks2 c w (by omega) (by omega))
  have R3 := hide (hasRune_lo ks3 c w (by omega) (by omega))
  rw [ks1_is, decide_eq_false (by omega)] at R1
  rw [ks2_is, decide_eq_false (by omega)] at R2
  rw [ks3_is, decide_eq_false (by omega)] at R3
  have n45 : ((c : Int) == 45) = true := by simp; omega
  have n63 : ((c : Int) == 63) = false := by simp; omega
  have n9 : ((c : Int) == 9) = false := by simp; omega
  have n127 : ¬ (127 : Int) < (c : Int) := by omega
  go_enter Tryz.func120, Tryz.ntmps120
  go_wp2_with (first
    | (go_at_call 131; refine (between_yes _ _ _ _ (by omega)).mono ?_; rintro e w' ⟨rfl, rfl⟩)
    | (go_at_call 131; refine (between_no _ _ _ _ (by omega)).mono ?_; rintro e w' ⟨rfl, rfl⟩)
    | (go_at_call_of 112 (Value.string { data := #[35, 37, 94, 96, 124] }); refine (unhide R1).mono ?_; rintro e w' ⟨rfl, rfl⟩)
    | (go_at_call_of 112 (Value.string { data := #[33, 36, 38, 39, 42, 43, 46, 95, 126] }); refine (unhide R2).mono ?_; rintro e w' ⟨rfl, rfl⟩)
    | (go_at_call_of 112 (Value.string { data := #[47, 40, 41, 44, 59, 61, 58, 64] }); refine (unhide R3).mono ?_; rintro e w' ⟨rfl, rfl⟩))
  go_ret
  exact ⟨rfl, rfl⟩
set_option maxRecDepth 20000 in
set_option maxHeartbeats 4000000 in
theorem kinds_4a (c : Nat) (hc : c < 128) (w : World) (h0 : ¬ (c = 35 ∨ c = 37 ∨ c = 94 ∨ c = 96 ∨ c = 124))  (h1 : ¬ (48 ≤ c ∧ c ≤ 57))  (h2 : ¬ ((97 ≤ c ∧ c ≤ 102) ∨ (65 ≤ c ∧ c ≤ 70)))  (h3 : ¬ ((97 ≤ c ∧ c ≤ 122) ∨ (65 ≤ c ∧ c ≤ 90) ∨ c = 45))  (h4 : c = 33 ∨ c = 36 ∨ c = 38 ∨ c = 39 ∨ c = 42 ∨ c = 43 ∨ c = 46 ∨ c = 95 ∨ c = 126) : Calls Tryz.prog 120 #[.int .i32 (c : Int)] w fun e w' => e = .returned (.int .i64 120) ∧ w' = w := by
  have R1 := hide (hasRune_lo ks1 c w (by omega) (by omega))
  have R2 := hide (hasRune_lo ks2 c w (by omega) (by omega))
  have R3 := hide (hasRune_lo ks3 c w (by omega) (by omega))
  rw [ks1_is, decide_eq_false (by omega)] at R1
  rw [ks2_is, decide_eq_true (by omega)] at R2
  rw [ks3_is, decide_eq_false (by omega)] at R3
  have n45 : ((c : Int) == 45) = false := by simp; omega
  have n63 : ((c : Int) == 63) = false := by simp; omega
  have n9 : ((c : Int) == 9) = false := by simp; omega
  have n127 : ¬ (127 : Int) < (c : Int) := by omega
  go_enter Tryz.func120, Tryz.ntmps120
  go_wp2_with (first
    | (go_at_call 131; refine (between_yes _ _ _ _ (by omega)).mono ?_; rintro e w' ⟨rfl, rfl⟩)
    | (go_at_call 131; refine (between_no _ _ _ _ (by omega)).mono ?_; rintro e w' ⟨rfl, rfl⟩)
    | (go_at_call_of 112 (Value.string { data := #[35, 37, 94, 96, 124] }); refine (unhide R1).mono ?_; rintro e w' ⟨rfl, rfl⟩)
    | (go_at_call_of 112 (Value.string { data := #[33, 36, 38, 39, 42, 43, 46, 95, 126] }); refine (unhide R2).mono ?_; rintro e w' ⟨rfl, rfl⟩)
    | (go_at_call_of 112 (Value.string { data := #[47, 40, 41, 44, 59, 61, 58, 64] }); refine (unhide R3).mono ?_; rintro e w' ⟨rfl, rfl⟩))
  go_ret
  exact ⟨rfl, rfl⟩
set_option maxRecDepth 20000 in
set_option maxHeartbeats 4000000 in
theorem kinds_5a (c : Nat) (hc : c < 128) (w : World) (h0 : ¬ (c = 35 ∨ c = 37 ∨ c = 94 ∨ c = 96 ∨ c = 124))  (h1 : ¬ (48 ≤ c ∧ c ≤ 57))  (h2 : ¬ ((97 ≤ c ∧ c ≤ 102) ∨ (65 ≤ c ∧ c ≤ 70)))  (h3 : ¬ ((97 ≤ c ∧ c ≤ 122) ∨ (65 ≤ c ∧ c ≤ 90) ∨ c = 45))  (h4 : ¬ (c = 33 ∨ c = 36 ∨ c = 38 ∨ c = 39 ∨ c = 42 ∨ c = 43 ∨ c = 46 ∨ c = 95 ∨ c = 126))  (h5 : c = 47 ∨ c = 40 ∨ c = 41 ∨ c = 44 ∨ c = 59 ∨ c = 61 ∨ c = 58 ∨ c = 64) : Calls Tryz.prog 120 #[.int .i32 (c : Int)] w fun e w' => e = .returned (.int .i64 112) ∧ w' = w := by
  have R1 := hide (hasRune_lo ks1 c w (by omega) (by omega))
  have R2 := hide (hasRune_lo ks2 c w (by omega) (by omega))
  have R3 := hide (hasRune_lo ks3 c w (by omega) (by omega))
  rw [ks1_is, decide_eq_false (by omega)] at R1
  rw [ks2_is, decide_eq_false (by omega)] at R2
  rw [ks3_is, decide_eq_true (by omega)] at R3
  have n45 : ((c : Int) == 45) = false := by simp; omega
  have n63 : ((c : Int) == 63) = false := by simp; omega
  have n9 : ((c : Int) == 9) = false := by simp; omega
  have n127 : ¬ (127 : Int) < (c : Int) := by omega
  go_enter Tryz.func120, Tryz.ntmps120
  go_wp2_with (first
    | (go_at_call 131; refine (between_yes _ _ _ _ (by omega)).mono ?_; rintro e w' ⟨rfl, rfl⟩)
    | (go_at_call 131; refine (between_no _ _ _ _ (by omega)).mono ?_; rintro e w' ⟨rfl, rfl⟩)
    | (go_at_call_of 112 (Value.string { data := #[35, 37, 94, 96, 124] }); refine (unhide R1).mono ?_; rintro e w' ⟨rfl, rfl⟩)
    | (go_at_call_of 112 (Value.string { data := #[33, 36, 38, 39, 42, 43, 46, 95, 126] }); refine (unhide R2).mono ?_; rintro e w' ⟨rfl, rfl⟩)
    | (go_at_call_of 112 (Value.string { data := #[47, 40, 41, 44, 59, 61, 58, 64] }); refine (unhide R3).mono ?_; rintro e w' ⟨rfl, rfl⟩))
  go_ret
  exact ⟨rfl, rfl⟩
set_option maxRecDepth 20000 in
set_option maxHeartbeats 4000000 in
theorem kinds_6a (c : Nat) (hc : c < 128) (w : World) (h0 : ¬ (c = 35 ∨ c = 37 ∨ c = 94 ∨ c = 96 ∨ c = 124))  (h1 : ¬ (48 ≤ c ∧ c ≤ 57))  (h2 : ¬ ((97 ≤ c ∧ c ≤ 102) ∨ (65 ≤ c ∧ c ≤ 70)))  (h3 : ¬ ((97 ≤ c ∧ c ≤ 122) ∨ (65 ≤ c ∧ c ≤ 90) ∨ c = 45))  (h4 : ¬ (c = 33 ∨ c = 36 ∨ c = 38 ∨ c = 39 ∨ c = 42 ∨ c = 43 ∨ c = 46 ∨ c = 95 ∨ c = 126))  (h5 : ¬ (c = 47 ∨ c = 40 ∨ c = 41 ∨ c = 44 ∨ c = 59 ∨ c = 61 ∨ c = 58 ∨ c = 64))  (h6 : 62 < c) (h6b : c < 64) : Calls Tryz.prog 120 #[.int .i32 (c : Int)] w fun e w' => e = .returned (.int .i64 96) ∧ w' = w := by
  have R1 := hide (hasRune_lo ks1 c w (by omega) (by omega))
  have R2 := hide (hasRune_lo ks2 c w (by omega) (by omega))
  have R3 := hide (hasRune_lo ks3 c w (by omega) (by omega))
  rw [ks1_is, decide_eq_false (by omega)] at R1
  rw [ks2_is, decide_eq_false (by omega)] at R2
  rw [ks3_is, decide_eq_false (by omega)] at R3
  have n45 : ((c : Int) == 45) = false := by simp; omega
  have n63 : ((c : Int) == 63) = true := by simp; omega
  have n9 : ((c : Int) == 9) = false := by simp; omega
  have n127 : ¬ (127 : Int) < (c : Int) := by omega
  go_enter Tryz.func120, Tryz.ntmps120
  go_wp2_with (first
    | (go_at_call 131; refine (between_yes _ _ _ _ (by omega)).mono ?_; rintro e w' ⟨rfl, rfl⟩)
    | (go_at_call 131; refine (between_no _ _ _ _ (by omega)).mono ?_; rintro e w' ⟨rfl, rfl⟩)
    | (go_at_call_of 112 (Value.string { data := #[35, 37, 94, 96, 124] }); refine (unhide R1).mono ?_; rintro e w' ⟨rfl, rfl⟩)
    | (go_at_call_of 112 (Value.string { data := #[33, 36, 38, 39, 42, 43, 46, 95, 126] }); refine (unhide R2).mono ?_; rintro e w' ⟨rfl, rfl⟩)
    | (go_at_call_of 112 (Value.string { data := #[47, 40, 41, 44, 59, 61, 58, 64] }); refine (unhide R3).mono ?_; rintro e w' ⟨rfl, rfl⟩))
  go_ret
  exact ⟨rfl, rfl⟩
set_option maxRecDepth 20000 in
set_option maxHeartbeats 4000000 in
theorem kinds_7a (c : Nat) (hc : c < 128) (w : World) (h0 : ¬ (c = 35 ∨ c = 37 ∨ c = 94 ∨ c = 96 ∨ c = 124))  (h1 : ¬ (48 ≤ c ∧ c ≤ 57))  (h2 : ¬ ((97 ≤ c ∧ c ≤ 102) ∨ (65 ≤ c ∧ c ≤ 70)))  (h3 : ¬ ((97 ≤ c ∧ c ≤ 122) ∨ (65 ≤ c ∧ c ≤ 90) ∨ c = 45))  (h4 : ¬ (c = 33 ∨ c = 36 ∨ c = 38 ∨ c = 39 ∨ c = 42 ∨ c = 43 ∨ c = 46 ∨ c = 95 ∨ c = 126))  (h5 : ¬ (c = 47 ∨ c = 40 ∨ c = 41 ∨ c = 44 ∨ c = 59 ∨ c = 61 ∨ c = 58 ∨ c = 64))  (h6 : ¬ (c = 63))  (h7 : 8 < c) (h7b : c < 10) : Calls Tryz.prog 120 #[.int .i32 (c : Int)] w fun e w' => e = .returned (.int .i64 64) ∧ w' = w := by
  have R1 := hide (hasRune_lo ks1 c w (by omega) (by omega))
  have R2 := hide (hasRune_lo ks2 c w (by omega) (by omega))
  have R3 := hide (hasRune_lo ks3 c w (by omega) (by omega))
  rw [ks1_is, decide_eq_false (by omega)] at R1
  rw [ks2_is, decide_eq_false (by omega)] at R2
  rw [ks3_is, decide_eq_false (by omega)] at R3
  have n45 : ((c : Int) == 45) = false := by simp; omega
  have n63 : ((c : Int) == 63) = false := by simp; omega
  have n9 : ((c : Int) == 9) = true := by simp; omega
  have n127 : ¬ (127 : Int) < (c : Int) := by omega
  go_enter Tryz.func120, Tryz.ntmps120
  go_wp2_with (first
    | (go_at_call 131; refine (between_yes _ _ _ _ (by omega)).mono ?_; rintro e w' ⟨rfl, rfl⟩)
    | (go_at_call 131; refine (between_no _ _ _ _ (by omega)).mono ?_; rintro e w' ⟨rfl, rfl⟩)
    | (go_at_call_of 112 (Value.string { data := #[35, 37, 94, 96, 124] }); refine (unhide R1).mono ?_; rintro e w' ⟨rfl, rfl⟩)
    | (go_at_call_of 112 (Value.string { data := #[33, 36, 38, 39, 42, 43, 46, 95, 126] }); refine (unhide R2).mono ?_; rintro e w' ⟨rfl, rfl⟩)
    | (go_at_call_of 112 (Value.string { data := #[47, 40, 41, 44, 59, 61, 58, 64] }); refine (unhide R3).mono ?_; rintro e w' ⟨rfl, rfl⟩))
  go_ret
  exact ⟨rfl, rfl⟩
set_option maxRecDepth 20000 in
set_option maxHeartbeats 4000000 in
theorem kinds_7b (c : Nat) (hc : c < 128) (w : World) (h0 : ¬ (c = 35 ∨ c = 37 ∨ c = 94 ∨ c = 96 ∨ c = 124))  (h1 : ¬ (48 ≤ c ∧ c ≤ 57))  (h2 : ¬ ((97 ≤ c ∧ c ≤ 102) ∨ (65 ≤ c ∧ c ≤ 70)))  (h3 : ¬ ((97 ≤ c ∧ c ≤ 122) ∨ (65 ≤ c ∧ c ≤ 90) ∨ c = 45))  (h4 : ¬ (c = 33 ∨ c = 36 ∨ c = 38 ∨ c = 39 ∨ c = 42 ∨ c = 43 ∨ c = 46 ∨ c = 95 ∨ c = 126))  (h5 : ¬ (c = 47 ∨ c = 40 ∨ c = 41 ∨ c = 44 ∨ c = 59 ∨ c = 61 ∨ c = 58 ∨ c = 64))  (h6 : ¬ (c = 63))  (h7 : ¬ (c = 9))  (h8 : 32 ≤ c ∧ c ≤ 126) : Calls Tryz.prog 120 #[.int .i32 (c : Int)] w fun e w' => e = .returned (.int .i64 64) ∧ w' = w := by
  have R1 := hide (hasRune_lo ks1 c w (by omega) (by omega))
  have R2 := hide (hasRune_lo ks2 c w (by omega) (by omega))
  have R3 := hide (hasRune_lo ks3 c w (by omega) (by omega))
  rw [ks1_is, decide_eq_false (by omega)] at R1
  rw [ks2_is, decide_eq_false (by omega)] at R2
  rw [ks3_is, decide_eq_false (by omega)] at R3
  have n45 : ((c : Int) == 45) = false := by simp; omega
  have n63 : ((c : Int) == 63) = false := by simp; omega
  have n9 : ((c : Int) == 9) = false := by simp; omega
  have n127 : ¬ (127 : Int) < (c : Int) := by omega
  go_enter Tryz.func120, Tryz.ntmps120
  go_wp2_with (first
    | (go_at_call 131; refine (between_yes _ _ _ _ (by omega)).mono ?_; rintro e w' ⟨rfl, rfl⟩)
    | (go_at_call 131; refine (between_no _ _ _ _ (by omega)).mono ?_; rintro e w' ⟨rfl, rfl⟩)
    | (go_at_call_of 112 (Value.string { data := #[35, 37, 94, 96, 124] }); refine (unhide R1).mono ?_; rintro e w' ⟨rfl, rfl⟩)
    | (go_at_call_of 112 (Value.string { data := #[33, 36, 38, 39, 42, 43, 46, 95, 126] }); refine (unhide R2).mono ?_; rintro e w' ⟨rfl, rfl⟩)
    | (go_at_call_of 112 (Value.string { data := #[47, 40, 41, 44, 59, 61, 58, 64] }); refine (unhide R3).mono ?_; rintro e w' ⟨rfl, rfl⟩))
  go_ret
  exact ⟨rfl, rfl⟩
set_option maxRecDepth 20000 in
set_option maxHeartbeats 4000000 in
theorem kinds_8 (c : Nat) (hc : c < 128) (w : World) (h0 : ¬ (c = 35 ∨ c = 37 ∨ c = 94 ∨ c = 96 ∨ c = 124))  (h1 : ¬ (48 ≤ c ∧ c ≤ 57))  (h2 : ¬ ((97 ≤ c ∧ c ≤ 102) ∨ (65 ≤ c ∧ c ≤ 70)))  (h3 : ¬ ((97 ≤ c ∧ c ≤ 122) ∨ (65 ≤ c ∧ c ≤ 90) ∨ c = 45))  (h4 : ¬ (c = 33 ∨ c = 36 ∨ c = 38 ∨ c = 39 ∨ c = 42 ∨ c = 43 ∨ c = 46 ∨ c = 95 ∨ c = 126))  (h5 : ¬ (c = 47 ∨ c = 40 ∨ c = 41 ∨ c = 44 ∨ c = 59 ∨ c = 61 ∨ c = 58 ∨ c = 64))  (h6 : ¬ (c = 63))  (h7 : ¬ (c = 9 ∨ (32 ≤ c ∧ c ≤ 126) ∨ 127 < c)) : Calls Tryz.prog 120 #[.int .i32 (c : Int)] w fun e w' => e = .returned (.int .i64 0) ∧ w' = w := by
  have R1 := hide (hasRune_lo ks1 c w (by omega) (by omega))
  have R2 := hide (hasRune_lo ks2 c w (by omega) (by omega))
  have R3 := hide (hasRune_lo ks3 c w (by omega) (by omega))
  rw [ks1_is, decide_eq_false (by omega)] at R1
  rw [ks2_is, decide_eq_false (by omega)] at R2
  rw [ks3_is, decide_eq_false (by omega)] at R3
  have n45 : ((c : Int) == 45) = false := by simp; omega
  have n63 : ((c : Int) == 63) = false := by simp; omega
  have n9 : ((c : Int) == 9) = false := by simp; omega
  have n127 : ¬ (127 : Int) < (c : Int) := by omega
  go_enter Tryz.func120, Tryz.ntmps120
  go_wp2_with (first
    | (go_at_call 131; refine (between_yes _ _ _ _ (by omega)).mono ?_; rintro e w' ⟨rfl, rfl⟩)
    | (go_at_call 131; refine (between_no _ _ _ _ (by omega)).mono ?_; rintro e w' ⟨rfl, rfl⟩)
    | (go_at_call_of 112 (Value.string { data := #[35, 37, 94, 96, 124] }); refine (unhide R1).mono ?_; rintro e w' ⟨rfl, rfl⟩)
    | (go_at_call_of 112 (Value.string { data := #[33, 36, 38, 39, 42, 43, 46, 95, 126] }); refine (unhide R2).mono ?_; rintro e w' ⟨rfl, rfl⟩)
    | (go_at_call_of 112 (Value.string { data := #[47, 40, 41, 44, 59, 61, 58, 64] }); refine (unhide R3).mono ?_; rintro e w' ⟨rfl, rfl⟩))
  go_ret
  exact ⟨rfl, rfl⟩
set_option maxRecDepth 20000 in
set_option maxHeartbeats 4000000 in
theorem kindsOf_lo (c : Nat) (hc : c < 128) (w : World) : Calls Tryz.prog 120 #[.int .i32 (c : Int)] w fun e w' => e = .returned (.int .i64 (kindsN c : Int)) ∧ w' = w := by
  unfold kindsN
  by_cases g0 : c = 35 ∨ c = 37 ∨ c = 94 ∨ c = 96 ∨ c = 124
  · rw [if_pos g0]
    exact kinds_0a c hc w  g0
  rw [if_neg g0]
  by_cases g1 : 48 ≤ c ∧ c ≤ 57
  · rw [if_pos g1]
    exact kinds_1a c hc w g0 g1
  rw [if_neg g1]
  by_cases g2 : (97 ≤ c ∧ c ≤ 102) ∨ (65 ≤ c ∧ c ≤ 70)
  · rw [if_pos g2]
    by_cases q0 : 97 ≤ c ∧ c ≤ 102
    · exact kinds_2a c hc w g0 g1  q0
    · exact kinds_2b c hc w g0 g1 q0 (by omega)
  rw [if_neg g2]
  by_cases g3 : (97 ≤ c ∧ c ≤ 122) ∨ (65 ≤ c ∧ c ≤ 90) ∨ c = 45
  · rw [if_pos g3]
    by_cases q0 : 97 ≤ c ∧ c ≤ 122
    · exact kinds_3a c hc w g0 g1 g2  q0
    by_cases q1 : 65 ≤ c ∧ c ≤ 90
    · exact kinds_3b c hc w g0 g1 g2 q0 q1
    · exact kinds_3c c hc w g0 g1 g2 q0 q1 (by omega) (by omega)
  rw [if_neg g3]
  by_cases g4 : c = 33 ∨ c = 36 ∨ c = 38 ∨ c = 39 ∨ c = 42 ∨ c = 43 ∨ c = 46 ∨ c = 95 ∨ c = 126
  · rw [if_pos g4]
    exact kinds_4a c hc w g0 g1 g2 g3 g4
  rw [if_neg g4]
  by_cases g5 : c = 47 ∨ c = 40 ∨ c = 41 ∨ c = 44 ∨ c = 59 ∨ c = 61 ∨ c = 58 ∨ c = 64
  · rw [if_pos g5]
    exact kinds_5a c hc w g0 g1 g2 g3 g4 g5
  rw [if_neg g5]
  by_cases g6 : c = 63
  · rw [if_pos g6]
    exact kinds_6a c hc w g0 g1 g2 g3 g4 g5 (by omega) (by omega)
  rw [if_neg g6]
  by_cases g7 : c = 9 ∨ (32 ≤ c ∧ c ≤ 126) ∨ 127 < c
  · rw [if_pos g7]
    by_cases q0 : c = 9
    · exact kinds_7a c hc w g0 g1 g2 g3 g4 g5 g6 (by omega) (by omega)
    · exact kinds_7b c hc w g0 g1 g2 g3 g4 g5 g6 q0 (by omega)
  rw [if_neg g7]
  exact kinds_8 c hc w g0 g1 g2 g3 g4 g5 g6 g7
end Go.Proofs.YtcmiappiocfbiaaGreatDoor
