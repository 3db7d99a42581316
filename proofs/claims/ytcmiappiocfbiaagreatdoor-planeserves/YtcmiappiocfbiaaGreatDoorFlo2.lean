/- Floats: sums, products and comparisons of those that are not below 0. -/
import Derived.Test.YtcmiappiocfbiaaGreatDoorFlo
namespace Go.Proofs.YtcmiappiocfbiaaGreatDoor
open Ieee

theorem sign_is : double.signWeight = 9223372036854775808 := by decide
theorem read_is (x : Nat) (hx : x < 9223372036854775808) : double.read x = if x < fB then .number false x (-1074) else if x < fI then .number false (fB + x % fB) (-1074 + ((x / fB - 1 : Nat) : Int)) else if x = fI then .infinity false else .nan false (x - fI) := by
  unfold Format.read
  simp only [sign_is, binade_is, infRung_is, leastPlace_is]
  have h1 : x / 9223372036854775808 = 0 := Nat.div_eq_of_lt hx
  have h2 : x % 9223372036854775808 = x := Nat.mod_eq_of_lt hx
  rw [h1, h2]
  rfl
theorem read_val (x : Nat) (hx : x < fI) : ∃ m i : Nat, double.read x = .number false m (-1074 + (i : Int)) ∧ val x = m * 2 ^ i := by
  have h63 : x < 9223372036854775808 := by simp only [fI] at hx; omega
  rw [read_is x h63]
  unfold val
  by_cases h : x < fB
  · rw [if_pos h, if_pos h]
    exact ⟨x, 0, rfl, by simp⟩
  · rw [if_neg h, if_neg h, if_pos hx]
    exact ⟨_, _, rfl, rfl⟩
theorem read_inf : double.read fI = .infinity false := by
  rw [read_is fI (by decide), if_neg (by decide), if_neg (by decide), if_pos rfl]
theorem nearest_near (low m : Nat) (p : Int) (k : Nat) (hp : p = -(low : Int) + k) : double.nearest false m p = near low (m * 2 ^ k) := by
  obtain ⟨q, hq⟩ : ∃ q : Nat, p = -(q : Int) ∨ p = (q : Int) := ⟨p.natAbs, by omega⟩
  rcases hq with hq | hq
  · have e : low = q + k := by omega
    rw [e, near_scale, hq]
    rfl
  · -- a place above 0: scaled from the place 0
    have h0 : double.nearest false m p = near 0 (m * 2 ^ q) := by
      by_cases hm : m = 0
      · subst hm
        rw [Nat.zero_mul, near_zero]
        unfold Format.nearest
        rw [if_pos rfl, word_is]
      · have hz : m * 2 ^ q ≠ 0 := Nat.mul_ne_zero hm (by have := Nat.two_pow_pos q; omega)
        rw [near_is _ _ hz, log2_scale _ _ hm]
        unfold Format.nearest
        rw [if_neg hm]
        simp only [cut_rne, leastPlace_is, Nat.shiftLeft_eq, binade_is, infRung_is, word_is, frac_is, Int.sub_neg]
        subst hq
        have e1 : (-((0 : Nat) : Int) + ((m.log2 + q : Nat) : Int) - 52) = (q : Int) + m.log2 - 52 := by omega
        rw [e1]
        generalize max ((q : Int) + m.log2 - 52) (-1074) = last
        congr 2
        by_cases h1 : last ≤ 0
        · have a1 : (last - (q : Int)).toNat = 0 := by omega
          have a2 : (last + ((0 : Nat) : Int)).toNat = 0 := by omega
          rw [a1, a2, rne_zero, rne_zero, Nat.mul_assoc, ← Nat.pow_add]
          congr 2
          omega
        · by_cases h2 : (q : Int) ≤ last
          · have a1 : ((q : Int) - last).toNat = 0 := by omega
            have a2 : ((-((0 : Nat) : Int)) - last).toNat = 0 := by omega
            have a3 : (last + ((0 : Nat) : Int)).toNat = (last - (q : Int)).toNat + q := by omega
            rw [a1, a2, a3, Nat.pow_zero, Nat.mul_one, Nat.mul_one, rne_scale]
          · have a1 : ((-((0 : Nat) : Int)) - last).toNat = 0 := by omega
            have a2 : (last - (q : Int)).toNat = 0 := by omega
            rw [a1, a2, rne_zero, Nat.pow_zero, Nat.mul_one, rne_exact _ _ _ (by omega)]
            congr 2
            omega
    have h1 := near_scale 0 (m * 2 ^ q) low
    rw [h0, ← h1, Nat.zero_add, Nat.mul_assoc, ← Nat.pow_add]
    congr 3
    omega
def addN (x y : Nat) : Nat := if x = fI ∨ y = fI then fI else near 1074 (val x + val y)
def mulN (x y : Nat) : Nat := near 2148 (val x * val y)
theorem addN_le (x y : Nat) : addN x y ≤ fI := by
  unfold addN
  split
  · exact Nat.le_refl _
  · exact near_le _ _
theorem mulN_le (x y : Nat) : mulN x y ≤ fI := near_le _ _
theorem signed_pos (m k : Nat) : signed false m k = ((m * 2 ^ k : Nat) : Int) := by
  simp [signed, Nat.shiftLeft_eq]
theorem add_is {x y : Nat} (hx : x ≤ fI) (hy : y ≤ fI) : double.add x y = some (addN x y) := by
  unfold Format.add addN
  by_cases h1 : x = fI
  · rw [if_pos (.inl h1), h1, read_inf]
    by_cases h2 : y = fI
    · rw [h2, read_inf]
      rfl
    · obtain ⟨n, j, e2, _⟩ := read_val y (by omega)
      rw [e2]
      rfl
  · obtain ⟨m, i, e1, v1⟩ := read_val x (by omega)
    by_cases h2 : y = fI
    · rw [if_pos (.inr h2), h2, read_inf, e1]
      rfl
    · obtain ⟨n, j, e2, v2⟩ := read_val y (by omega)
      rw [if_neg (by omega), e1, e2]
      simp only [Datum.sum, Option.map_some, signed_pos]
      have hb : (if ((m * 2 ^ (-1074 + (i : Int) - min (-1074 + (i : Int)) (-1074 + (j : Int))).toNat : Nat) : Int) + ((n * 2 ^ (-1074 + (j : Int) - min (-1074 + (i : Int)) (-1074 + (j : Int))).toNat : Nat) : Int) = 0 then (false && false) else decide (((m * 2 ^ (-1074 + (i : Int) - min (-1074 + (i : Int)) (-1074 + (j : Int))).toNat : Nat) : Int) + ((n * 2 ^ (-1074 + (j : Int) - min (-1074 + (i : Int)) (-1074 + (j : Int))).toNat : Nat) : Int) < 0)) = false := by
        split
        · rfl
        · exact decide_eq_false (by omega)
      rw [hb]
      unfold Format.write
      simp only
      rw [nearest_near 1074 _ _ (min i j) (by omega)]
      congr 2
      rw [v1, v2]
      have e3 : (-1074 + (i : Int) - min (-1074 + (i : Int)) (-1074 + (j : Int))).toNat = i - min i j := by omega
      have e4 : (-1074 + (j : Int) - min (-1074 + (i : Int)) (-1074 + (j : Int))).toNat = j - min i j := by omega
      rw [e3, e4]
      have e5 : (((m * 2 ^ (i - min i j) : Nat) : Int) + ((n * 2 ^ (j - min i j) : Nat) : Int)).natAbs = m * 2 ^ (i - min i j) + n * 2 ^ (j - min i j) := by omega
      rw [e5, Nat.add_mul, Nat.mul_assoc, Nat.mul_assoc, ← Nat.pow_add, ← Nat.pow_add, Nat.sub_add_cancel (Nat.min_le_left i j), Nat.sub_add_cancel (Nat.min_le_right i j)]
theorem mul_is {x y : Nat} (hx : x < fI) (hy : y < fI) : double.mul x y = some (mulN x y) := by
  unfold Format.mul mulN
  obtain ⟨m, i, e1, v1⟩ := read_val x hx
  obtain ⟨n, j, e2, v2⟩ := read_val y hy
  rw [e1, e2]
  simp only [Datum.product, Option.map_some]
  show some (double.nearest false (m * n) (-1074 + (i : Int) + (-1074 + (j : Int)))) = _
  rw [nearest_near 2148 _ _ (i + j) (by omega), v1, v2]
  congr 2
  rw [Nat.pow_add, Nat.mul_assoc, Nat.mul_left_comm n, ← Nat.mul_assoc]
theorem mul_inf {x : Nat} (hx : 0 < x) (hx2 : x ≤ fI) : double.mul x fI = some fI := by
  unfold Format.mul
  rw [read_inf]
  by_cases h1 : x = fI
  · rw [h1, read_inf]
    rfl
  · obtain ⟨m, i, e1, v1⟩ := read_val x (by omega)
    have hm : m ≠ 0 := by
      rintro rfl
      have := (val_lt (x := 0) (y := x) (by decide) (by omega)).2 hx
      rw [v1] at this
      simp at this
    rw [e1]
    simp only [Datum.product]
    rw [if_neg hm]
    rfl
theorem compare_nat (a b : Nat) : compare ((a : Nat) : Int) ((b : Nat) : Int) = compare a b := by
  rcases Nat.lt_trichotomy a b with h | h | h
  · rw [Nat.compare_eq_lt.2 h]; exact Int.compare_eq_lt.2 (by omega)
  · subst h; rw [Nat.compare_eq_eq.2 rfl]; exact Int.compare_eq_eq.2 rfl
  · rw [Nat.compare_eq_gt.2 h]; exact Int.compare_eq_gt.2 (by omega)
theorem order_is {x y : Nat} (hx : x ≤ fI) (hy : y ≤ fI) : double.order x y = some (compare x y) := by
  unfold Format.order
  by_cases h1 : x = fI
  · rw [h1, read_inf]
    by_cases h2 : y = fI
    · rw [h2, read_inf]
      rfl
    · obtain ⟨n, j, e2, _⟩ := read_val y (by omega)
      rw [e2, Nat.compare_eq_gt.2 (show y < fI by omega)]
      rfl
  · obtain ⟨m, i, e1, v1⟩ := read_val x (by omega)
    by_cases h2 : y = fI
    · rw [h2, read_inf, e1, Nat.compare_eq_lt.2 (show x < fI by omega)]
      rfl
    · obtain ⟨n, j, e2, v2⟩ := read_val y (by omega)
      rw [e1, e2]
      simp only [Datum.order, signed_pos, compare_nat]
      have e3 : (-1074 + (i : Int) - min (-1074 + (i : Int)) (-1074 + (j : Int))).toNat = i - min i j := by omega
      have e4 : (-1074 + (j : Int) - min (-1074 + (i : Int)) (-1074 + (j : Int))).toNat = j - min i j := by omega
      rw [e3, e4]
      have w1 : val x = m * 2 ^ (i - min i j) * 2 ^ min i j := by rw [v1, Nat.mul_assoc, ← Nat.pow_add, Nat.sub_add_cancel (Nat.min_le_left i j)]
      have w2 : val y = n * 2 ^ (j - min i j) * 2 ^ min i j := by rw [v2, Nat.mul_assoc, ← Nat.pow_add, Nat.sub_add_cancel (Nat.min_le_right i j)]
      have hp : 0 < 2 ^ min i j := Nat.two_pow_pos _
      have hlt := val_lt (x := x) (y := y) (by omega) (by omega)
      have hgt := val_lt (x := y) (y := x) (by omega) (by omega)
      rw [w1, w2] at hlt hgt
      have hlt' : m * 2 ^ (i - min i j) < n * 2 ^ (j - min i j) ↔ x < y := ⟨fun h => hlt.1 (Nat.mul_lt_mul_of_pos_right h hp), fun h => Nat.lt_of_mul_lt_mul_right (hlt.2 h)⟩
      have hgt' : n * 2 ^ (j - min i j) < m * 2 ^ (i - min i j) ↔ y < x := ⟨fun h => hgt.1 (Nat.mul_lt_mul_of_pos_right h hp), fun h => Nat.lt_of_mul_lt_mul_right (hgt.2 h)⟩
      congr 1
      rcases Nat.lt_trichotomy x y with h | h | h
      · rw [Nat.compare_eq_lt.2 h, Nat.compare_eq_lt.2 (hlt'.2 h)]
      · rw [Nat.compare_eq_eq.2 h, Nat.compare_eq_eq.2 (by omega)]
      · rw [Nat.compare_eq_gt.2 h, Nat.compare_eq_gt.2 (hgt'.2 h)]
/-- Above 0 are just the rungs from 1 to infinity's. -/
theorem order_zero (x : Nat) (hx : x < 18446744073709551616) : (double.order x 0 == some Ordering.gt) = decide (0 < x ∧ x ≤ fI) := by
  by_cases h : x ≤ fI
  · rw [order_is h (by decide)]
    by_cases h0 : x = 0
    · subst h0; rfl
    · rw [Nat.compare_eq_gt.2 (show 0 < x by omega), decide_eq_true ⟨by omega, h⟩]
      rfl
  · have hd : decide (0 < x ∧ x ≤ fI) = false := decide_eq_false (fun q => h q.2)
    rw [hd]
    have r0 : double.read 0 = .number false 0 (-1074) := by decide
    unfold Format.order
    rw [r0]
    by_cases h63 : x < 9223372036854775808
    · rw [read_is x h63, if_neg (by simp only [fB, fI] at h ⊢; omega), if_neg (by omega), if_neg (by omega)]
      rfl
    · unfold Format.read
      simp only [sign_is, binade_is, infRung_is, leastPlace_is]
      have h1 : x / 9223372036854775808 = 1 := by omega
      rw [h1]
      show (Datum.order (if x % 9223372036854775808 < fB then Datum.number true (x % 9223372036854775808) (-1074) else if x % 9223372036854775808 < fI then Datum.number true (fB + x % 9223372036854775808 % fB) (-1074 + ((x % 9223372036854775808 / fB - 1 : Nat) : Int)) else if x % 9223372036854775808 = fI then Datum.infinity true else Datum.nan true (x % 9223372036854775808 - fI)) (Datum.number false 0 (-1074)) == some Ordering.gt) = false
      have hneg : ∀ (m : Nat) (p : Int), (Datum.order (Datum.number true m p) (Datum.number false 0 (-1074)) == some Ordering.gt) = false := by
        intro m p
        simp only [Datum.order, signed_pos, Nat.zero_mul]
        have : signed true m (p - min p (-1074)).toNat ≤ 0 := by
          simp only [signed, if_true]
          have := Int.natCast_nonneg (m <<< (p - min p (-1074)).toNat)
          exact Int.neg_nonpos_of_nonneg this
        generalize signed true m (p - min p (-1074)).toNat = z at this
        have hz : compare z (((0 : Nat) : Int)) ≠ Ordering.gt := fun e => by have := Int.compare_eq_gt.1 e; omega
        cases hc : compare z (((0 : Nat) : Int)) with
        | lt => rfl
        | eq => rfl
        | gt => exact absurd hc hz
      split
      · exact hneg _ _
      · split
        · exact hneg _ _
        · split <;> rfl
/-- 2^n, which nothing reckons out. -/
def pw (n : Nat) : Nat := 2 ^ n
theorem pw_pos (n : Nat) : 0 < pw n := Nat.two_pow_pos n
theorem pw_add (a b : Nat) : pw (a + b) = pw a * pw b := Nat.pow_add 2 a b
theorem near_pw (low V k : Nat) : near (low + k) (V * pw k) = near low V := near_scale low V k
theorem val_pw (x : Nat) (hx : ¬ x < fB) : val x = (fB + x % fB) * pw (x / fB - 1) := by unfold val; rw [if_neg hx]; rfl
/-- A number of 53 digits is a rung's own. -/
theorem exact_val (m e t E : Nat) (hE : E = pw e) (ht : t ≤ 2098) (hm : m < 2 ^ 53) (hV : m * E < pw t) : ∃ x, x < fI ∧ val x = m * E ∧ near 1074 (m * E) = x := by
  subst hE
  unfold pw at *
  have key : ∃ x, x < fI ∧ val x = m * 2 ^ e := by
    by_cases h : m * 2 ^ e < fB
    · exact ⟨m * 2 ^ e, by simp only [fB, fI] at h ⊢; omega, by unfold val; rw [if_pos h]⟩
    · have h0 : m ≠ 0 := by rintro rfl; simp at h
      have hL := log2_scale m e h0
      have hV0 : m * 2 ^ e ≠ 0 := Nat.mul_ne_zero h0 (by have := Nat.two_pow_pos e; omega)
      have l1 : m.log2 < 53 := (Nat.log2_lt h0).2 hm
      have l2 : (m * 2 ^ e).log2 < t := (Nat.log2_lt hV0).2 hV
      have e52 : fB = 2 ^ 52 := by decide
      have l3 : 52 ≤ (m * 2 ^ e).log2 := (Nat.le_log2 hV0).2 (e52 ▸ Nat.le_of_not_lt h)
      obtain ⟨f, hf⟩ : ∃ f, f + 52 = m.log2 + e := ⟨m.log2 + e - 52, by omega⟩
      obtain ⟨g, hg⟩ : ∃ g, e = f + g := ⟨e - f, by omega⟩
      have b1 := Nat.log2_self_le h0
      have b2 : m < 2 ^ (m.log2 + 1) := Nat.lt_log2_self
      have hlg : m.log2 + g = 52 := by omega
      have q1 : fB ≤ m * 2 ^ g := by
        have e3 : fB = 2 ^ (m.log2 + g) := by rw [hlg]
        rw [e3, Nat.pow_add]; exact Nat.mul_le_mul_right _ b1
      have q2 : m * 2 ^ g < 2 * fB := by
        have e3 : 2 * fB = 2 ^ (m.log2 + 1 + g) := by rw [show m.log2 + 1 + g = 53 by omega]; decide
        rw [e3, Nat.pow_add]; exact Nat.mul_lt_mul_of_pos_right b2 (Nat.two_pow_pos _)
      have hV2 : m * 2 ^ e = m * 2 ^ g * 2 ^ f := by rw [hg, Nat.pow_add, Nat.mul_assoc, Nat.mul_comm (2 ^ g)]
      generalize m * 2 ^ g = q at *
      have hf2 : f + 1 ≤ 2046 := by omega
      refine ⟨(f + 1) * fB + (q - fB), ?_, ?_⟩
      · have : (f + 1) * fB ≤ 2046 * fB := Nat.mul_le_mul_right _ hf2
        simp only [fB, fI] at *
        omega
      · unfold val
        have hge : ¬ (f + 1) * fB + (q - fB) < fB := by
          have : 1 * fB ≤ (f + 1) * fB := Nat.mul_le_mul_right _ (by omega)
          omega
        rw [if_neg hge]
        have hr : q - fB < fB := by omega
        have e1 : ((f + 1) * fB + (q - fB)) % fB = q - fB := by
          rw [Nat.add_comm, Nat.add_mul_mod_self_right]; exact Nat.mod_eq_of_lt hr
        have e2 : ((f + 1) * fB + (q - fB)) / fB = f + 1 := by
          rw [Nat.add_comm, Nat.add_mul_div_right _ _ (by decide), Nat.div_eq_of_lt hr, Nat.zero_add]
        rw [e1, e2, Nat.add_sub_cancel, hV2, Nat.add_sub_cancel' q1]
  obtain ⟨x, h1, h2⟩ := key
  exact ⟨x, h1, h2, by rw [← h2]; exact near_val x h1⟩
end Go.Proofs.YtcmiappiocfbiaaGreatDoor
