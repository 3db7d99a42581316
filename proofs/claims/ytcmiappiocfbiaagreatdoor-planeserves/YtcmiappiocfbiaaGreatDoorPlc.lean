/- Floats: whole numbers times powers of 2 (plain mathematics). -/
import Derived.Test.YtcmiappiocfbiaaGreatDoorPl9
namespace Go.Proofs.YtcmiappiocfbiaaGreatDoor
open Ieee

/-- The rung of m * 2^(e - 1074). -/
def fl (m e : Nat) : Nat := near 1074 (m * pw e)
theorem fl_val (m e t : Nat) (ht : t ≤ 2098) (hm : m < 2 ^ 53) (hV : m * pw e < pw t) : fl m e < fI ∧ val (fl m e) = m * pw e := by
  obtain ⟨x, h1, h2, h3⟩ := exact_val m e t (pw e) rfl ht hm hV
  unfold fl
  rw [h3]
  exact ⟨h1, h2⟩
theorem pw_lt {a b : Nat} (h : a < b) : pw a < pw b := Nat.pow_lt_pow_right (by omega) h
theorem pw_le {a b : Nat} (h : a ≤ b) : pw a ≤ pw b := Nat.pow_le_pow_right (by omega) h
theorem fl_ok (m e k : Nat) (hm : m < pw k) (hk : k ≤ 53) (he : e ≤ 1500) : fl m e < fI ∧ val (fl m e) = m * pw e := by
  refine fl_val m e (k + e) (by omega) (Nat.lt_of_lt_of_le hm (Nat.pow_le_pow_right (by omega) hk)) ?_
  rw [pw_add]
  exact Nat.mul_lt_mul_of_pos_right hm (pw_pos e)
theorem near_at (n k : Nat) : double.nearest false n 0 = near k (n * pw k) := nearest_near k n 0 k (by omega)
theorem conv_fl (n : Nat) : floatOfInt .f64 (n : Int) = fl n 1074 := by
  show double.nearest ((n : Int) < 0) (n : Int).natAbs 0 = _
  rw [show decide ((n : Int) < 0) = false from decide_eq_false (by omega), Int.natAbs_natCast]
  exact near_at n 1074
theorem add_fl (m n e k : Nat) (hm : m < pw k) (hn : n < pw k) (hk : k ≤ 53) (he : e ≤ 1500) : addN (fl m e) (fl n e) = fl (m + n) e := by
  obtain ⟨a1, a2⟩ := fl_ok m e k hm hk he
  obtain ⟨b1, b2⟩ := fl_ok n e k hn hk he
  unfold addN
  rw [if_neg (by omega), a2, b2, ← Nat.add_mul]
  rfl
theorem fl_scale (m e k : Nat) : fl (m * pw k) e = fl m (e + k) := by
  unfold fl
  rw [Nat.mul_assoc, ← pw_add, Nat.add_comm k e]
theorem mul_fl (m n e f g k : Nat) (hm : m < pw k) (hn : n < pw k) (hk : k ≤ 53) (he : e ≤ 1500) (hf : f ≤ 1500) (hg : e + f = g + 1074) : mulN (fl m e) (fl n f) = fl (m * n) g := by
  obtain ⟨a1, a2⟩ := fl_ok m e k hm hk he
  obtain ⟨b1, b2⟩ := fl_ok n f k hn hk hf
  unfold mulN fl at *
  rw [a2, b2]
  have e1 : m * pw e * (n * pw f) = m * n * pw g * pw 1074 := by
    rw [Nat.mul_assoc (m * n), ← pw_add, ← hg, pw_add, Nat.mul_assoc, Nat.mul_left_comm (pw e), ← Nat.mul_assoc, ← Nat.mul_assoc]
  rw [e1]
  exact near_pw 1074 (m * n * pw g) 1074
theorem fl_lt {m n e f k : Nat} (hm : m < pw k) (hn : n < pw k) (hk : k ≤ 53) (he : e ≤ 1500) (hf : f ≤ 1500) : fl m e < fl n f ↔ m * pw e < n * pw f := by
  obtain ⟨a1, a2⟩ := fl_ok m e k hm hk he
  obtain ⟨b1, b2⟩ := fl_ok n f k hn hk hf
  rw [← val_lt a1 b1, a2, b2]
theorem read_val2 (x : Nat) (hx : x < fI) : ∃ m i : Nat, double.read x = .number false m (-1074 + (i : Int)) ∧ val x = m * 2 ^ i ∧ m < 2 * fB := by
  have h63 : x < 9223372036854775808 := by simp only [fI] at hx; omega
  rw [read_is x h63]
  unfold val
  by_cases h : x < fB
  · rw [if_pos h, if_pos h]
    exact ⟨x, 0, rfl, by simp, by omega⟩
  · rw [if_neg h, if_neg h, if_pos hx]
    have : x % fB < fB := Nat.mod_lt _ (by decide)
    exact ⟨_, _, rfl, rfl, by omega⟩
/-- What a power of 2 from 1 on is read as. -/
theorem read_pow (k : Nat) (hk : k ≤ 60) : double.read (fl 1 (1074 + k)) = .number false fB ((k : Int) - 52) := by
  have e : fl 1 (1074 + k) = (1023 + k) * fB := by
    have h2 : val ((1023 + k) * fB) = 1 * pw (1074 + k) := by
      rw [val_pw _ (by have : 1 * fB ≤ (1023 + k) * fB := Nat.mul_le_mul_right _ (by omega)
                       omega), Nat.mul_mod_left, Nat.mul_div_cancel _ (by decide), Nat.add_zero, show fB = pw 52 from by decide, ← pw_add, Nat.one_mul]
      congr 1
      omega
    unfold fl
    rw [← h2]
    refine near_val _ ?_
    have : (1023 + k) * fB ≤ 1083 * fB := Nat.mul_le_mul_right _ (by omega)
    simp only [fB, fI] at *
    omega
  rw [e]
  have hlt : (1023 + k) * fB ≤ 1083 * fB := Nat.mul_le_mul_right _ (by omega)
  have hge : 1 * fB ≤ (1023 + k) * fB := Nat.mul_le_mul_right _ (by omega)
  rw [read_is _ (by simp only [fB] at *; omega), if_neg (by omega), if_pos (by simp only [fB, fI] at *; omega), Nat.mul_mod_left, Nat.mul_div_cancel _ (by decide), Nat.add_zero]
  congr 1
  omega
/-- Division by a power of 2. -/
theorem div_fl (m e g k q : Nat) (hm : m < pw q) (hq : q ≤ 53) (hk : k ≤ 60) (he : e ≤ 1500) (hg : e = g + k) : double.div (fl m e) (fl 1 (1074 + k)) = some (fl m g) := by
  obtain ⟨a1, a2⟩ := fl_ok m e q hm hq he
  obtain ⟨M, i, r1, v1, hM⟩ := read_val2 (fl m e) a1
  unfold Format.div
  rw [r1, read_pow k hk]
  have h0 : ¬ fB = 0 := by decide
  simp only [Datum.quotient]
  rw [if_neg h0]
  simp only [Option.map_some]
  have hl : fB.log2 = 52 := by decide
  have hf : double.fractionBits = 52 := rfl
  rw [hl, hf]
  have hMl : M.log2 ≤ 52 := by
    by_cases hz : M = 0
    · rw [hz]; decide
    · have := (Nat.log2_lt hz).2 (show M < 2 ^ 53 from hM)
      omega
  obtain ⟨more, hmore⟩ : ∃ more, 52 + 2 + 52 - M.log2 = more + 52 := ⟨54 - M.log2, by omega⟩
  rw [hmore]
  have e2 : fB = 2 ^ 52 := by decide
  have hd : M <<< (more + 52) = M * 2 ^ more * fB := by rw [Nat.shiftLeft_eq, Nat.pow_add, Nat.mul_assoc, e2]
  rw [hd, Nat.mul_div_cancel _ (by decide), Nat.mul_mod_left]
  show some (double.nearest false (2 * (M * 2 ^ more) + 0) _) = _
  have hp := nearest_near (1074 + k + (more + 52)) (2 * (M * 2 ^ more) + 0) (-1074 + (i : Int) - ((k : Int) - 52) - ((more + 52 : Nat) : Int) - 1) (i + 51) (by omega)
  refine congrArg some (hp.trans ?_)
  have hv : (2 * (M * 2 ^ more) + 0) * 2 ^ (i + 51) = m * pw g * 2 ^ (k + (more + 52)) := by
    have h1 : m * pw g * 2 ^ (k + (more + 52)) = (m * pw e) * 2 ^ (more + 52) := by
      rw [hg, pw_add, Nat.pow_add 2 k, ← Nat.mul_assoc, ← Nat.mul_assoc]
      rfl
    rw [h1, ← a2, v1, Nat.add_zero, Nat.pow_add, Nat.pow_add 2 more 52, show (2 : Nat) ^ 52 = 2 * 2 ^ 51 from by decide]
    generalize (2 : Nat) ^ more = A
    generalize (2 : Nat) ^ i = B
    generalize (2 : Nat) ^ 51 = C
    rw [Nat.mul_assoc M B, Nat.mul_left_comm B A, Nat.mul_left_comm B 2 C]
    rw [Nat.mul_assoc 2, Nat.mul_assoc M A, Nat.mul_left_comm 2 M, Nat.mul_left_comm 2 A]
  rw [hv]
  unfold fl
  have := near_scale 1074 (m * pw g) (k + (more + 52))
  rw [← Nat.add_assoc] at this
  exact this
end Go.Proofs.YtcmiappiocfbiaaGreatDoor
