/- Floats that are not below 0, as rungs: how they stand to each other, sums, products (plain mathematics). -/
import Derived.Laws.FloatArith
section
namespace Go.Proofs.YtpkpnedcecjlbaaGreatDoor
open Ieee

/-- n / 2^d, to the nearest, the even one between two. -/
def rne (n d : Nat) : Nat := n / 2 ^ d + (decide (2 ^ d < 2 * (n % 2 ^ d)) || (2 ^ d == 2 * (n % 2 ^ d) && n / 2 ^ d % 2 == 1)).toNat
theorem cut_rne (neg : Bool) (n d : Nat) : Toward.even.cut neg n d = rne n d := by
  unfold Toward.cut rne
  simp only [Nat.one_shiftLeft]
  by_cases h : d ≤ n.log2 + 2
  · rw [Nat.min_eq_left h]
  · have hd : n.log2 + 2 < d := by omega
    rw [Nat.min_eq_right (by omega)]
    have hn : n < 2 ^ (n.log2 + 1) := Nat.lt_log2_self
    have e2 : 2 ^ (n.log2 + 2) = 2 * 2 ^ (n.log2 + 1) := by rw [Nat.pow_succ, Nat.mul_comm]
    have hp : 2 ^ (n.log2 + 2) ≤ 2 ^ d := Nat.pow_le_pow_right (by omega) (by omega)
    have m1 : n % 2 ^ (n.log2 + 2) = n := Nat.mod_eq_of_lt (by omega)
    have m2 : n % 2 ^ d = n := Nat.mod_eq_of_lt (by omega)
    have d1 : n / 2 ^ (n.log2 + 2) = 0 := Nat.div_eq_of_lt (by omega)
    have d2 : n / 2 ^ d = 0 := Nat.div_eq_of_lt (by omega)
    rw [m1, m2, d1, d2]
    have a1 : decide (2 ^ (n.log2 + 2) < 2 * n) = false := decide_eq_false (by omega)
    have a2 : decide (2 ^ d < 2 * n) = false := decide_eq_false (by omega)
    simp [a1, a2]
theorem rne_zero (n : Nat) : rne n 0 = n := by
  simp [rne, Nat.mod_one]
theorem rne_scale (n d k : Nat) : rne (n * 2 ^ k) (d + k) = rne n d := by
  unfold rne
  have hk : 0 < 2 ^ k := Nat.two_pow_pos k
  rw [Nat.pow_add, Nat.mul_div_mul_right _ _ hk, Nat.mul_mod_mul_right]
  have e1 : decide (2 ^ d * 2 ^ k < 2 * (n % 2 ^ d * 2 ^ k)) = decide (2 ^ d < 2 * (n % 2 ^ d)) := by
    rw [← Nat.mul_assoc]
    exact decide_eq_decide.2 (Nat.mul_lt_mul_right hk)
  have e2 : (2 ^ d * 2 ^ k == 2 * (n % 2 ^ d * 2 ^ k)) = (2 ^ d == 2 * (n % 2 ^ d)) := by
    rw [← Nat.mul_assoc, Bool.eq_iff_iff, beq_iff_eq, beq_iff_eq]
    exact ⟨fun h => Nat.eq_of_mul_eq_mul_right hk h, fun h => congrArg (· * 2 ^ k) h⟩
  rw [e1, e2]
theorem rne_exact (n k d : Nat) (h : d ≤ k) : rne (n * 2 ^ k) d = n * 2 ^ (k - d) := by
  have : n * 2 ^ k = n * 2 ^ (k - d) * 2 ^ d := by rw [Nat.mul_assoc, ← Nat.pow_add, Nat.sub_add_cancel h]
  rw [this]
  have := rne_scale (n * 2 ^ (k - d)) 0 d
  rw [Nat.zero_add] at this
  rw [this, rne_zero]
theorem rne_mono {a b : Nat} (h : a ≤ b) (d : Nat) : rne a d ≤ rne b d := by
  unfold rne
  have hp : 0 < 2 ^ d := Nat.two_pow_pos d
  have hq : a / 2 ^ d ≤ b / 2 ^ d := Nat.div_le_div_right h
  have da := Nat.div_add_mod a (2 ^ d)
  have db := Nat.div_add_mod b (2 ^ d)
  rcases Nat.lt_or_ge (a / 2 ^ d) (b / 2 ^ d) with hl | hl
  · have := Bool.toNat_le (decide (2 ^ d < 2 * (a % 2 ^ d)) || (2 ^ d == 2 * (a % 2 ^ d) && a / 2 ^ d % 2 == 1))
    omega
  · have he : a / 2 ^ d = b / 2 ^ d := by omega
    rw [he] at da ⊢
    have hm : a % 2 ^ d ≤ b % 2 ^ d := by omega
    have hbool : ∀ p q : Bool, (p = true → q = true) → p.toNat ≤ q.toNat := by intro p q; cases p <;> cases q <;> simp
    refine Nat.add_le_add_left (hbool _ _ ?_) _
    simp only [Bool.or_eq_true, decide_eq_true_eq, Bool.and_eq_true, beq_iff_eq]
    rintro (h1 | ⟨h1, h2⟩)
    · left; omega
    · rcases Nat.lt_or_ge (2 ^ d) (2 * (b % 2 ^ d)) with h3 | h3
      · exact .inl h3
      · exact .inr ⟨by omega, h2⟩
theorem rne_le (n d c : Nat) (h : n ≤ c * 2 ^ d) : rne n d ≤ c := by
  have := rne_mono h d
  rw [rne_exact _ _ _ (Nat.le_refl _)] at this
  simpa using this
theorem le_rne (n d c : Nat) (h : c * 2 ^ d ≤ n) : c ≤ rne n d := by
  have := rne_mono h d
  rw [rne_exact _ _ _ (Nat.le_refl _)] at this
  simpa using this
abbrev fI : Nat := 9218868437227405312
abbrev fB : Nat := 4503599627370496
/-- The rung of n * 2^(b - 1074 - ..): b is how far the place lies above 'low'. -/
def near (low : Nat) (V : Nat) : Nat := double.nearest false V (-(low : Int))
theorem leastPlace_is : double.leastPlace = -1074 := by decide
theorem binade_is : double.binade = fB := by decide
theorem infRung_is : double.infRung = fI := by decide
theorem word_is (r : Nat) : double.word false r = r := if_neg (by decide)
theorem frac_is : ((double.fractionBits : Nat) : Int) = 52 := by decide
theorem near_is (low V : Nat) (hV : V ≠ 0) : near low V = min (((max (-(low : Int) + V.log2 - 52) (-1074)) + 1074).toNat * fB + rne (V * 2 ^ ((-(low : Int)) - max (-(low : Int) + V.log2 - 52) (-1074)).toNat) ((max (-(low : Int) + V.log2 - 52) (-1074)) - (-(low : Int))).toNat) fI := by
  unfold near Format.nearest
  rw [if_neg hV]
  simp only [cut_rne, leastPlace_is, Nat.shiftLeft_eq, binade_is, infRung_is, word_is, frac_is, Int.sub_neg]
theorem near_zero (low : Nat) : near low 0 = 0 := by
  unfold near Format.nearest
  rw [if_pos rfl, word_is]
theorem log2_scale (V k : Nat) (hV : V ≠ 0) : (V * 2 ^ k).log2 = V.log2 + k := by
  have h1 := Nat.log2_self_le hV
  have h2 : V < 2 ^ (V.log2 + 1) := Nat.lt_log2_self
  have hk : 0 < 2 ^ k := Nat.two_pow_pos k
  have hne : V * 2 ^ k ≠ 0 := Nat.mul_ne_zero hV (by omega)
  refine (Nat.log2_eq_iff hne).2 ⟨?_, ?_⟩
  · rw [Nat.pow_add]; exact Nat.mul_le_mul_right _ h1
  · rw [show V.log2 + k + 1 = (V.log2 + 1) + k by omega, Nat.pow_add]; exact Nat.mul_lt_mul_of_pos_right h2 hk
theorem near_scale (low V k : Nat) : near (low + k) (V * 2 ^ k) = near low V := by
  by_cases hV : V = 0
  · subst hV; rw [Nat.zero_mul, near_zero, near_zero]
  · have hk : 0 < 2 ^ k := Nat.two_pow_pos k
    rw [near_is _ _ hV, near_is _ _ (Nat.mul_ne_zero hV (by omega)), log2_scale V k hV]
    have e1 : (-((low + k : Nat) : Int) + ((V.log2 + k : Nat) : Int) - 52) = -(low : Int) + V.log2 - 52 := by omega
    rw [e1]
    generalize max (-(low : Int) + V.log2 - 52) (-1074) = last
    congr 2
    by_cases h1 : last ≤ -(low : Int) - k
    · have a1 : (last - (-((low + k : Nat) : Int))).toNat = 0 := by omega
      have a2 : (last - (-(low : Int))).toNat = 0 := by omega
      rw [a1, a2, rne_zero, rne_zero, Nat.mul_assoc, ← Nat.pow_add]
      congr 2
      omega
    · by_cases h2 : -(low : Int) ≤ last
      · have a1 : ((-((low + k : Nat) : Int)) - last).toNat = 0 := by omega
        have a2 : ((-(low : Int)) - last).toNat = 0 := by omega
        have a3 : (last - (-((low + k : Nat) : Int))).toNat = (last - (-(low : Int))).toNat + k := by omega
        rw [a1, a2, a3, Nat.pow_zero, Nat.mul_one, Nat.mul_one, rne_scale]
      · have a1 : ((-((low + k : Nat) : Int)) - last).toNat = 0 := by omega
        have a2 : (last - (-(low : Int))).toNat = 0 := by omega
        rw [a1, a2, rne_zero, Nat.pow_zero, Nat.mul_one, rne_exact _ _ _ (by omega)]
        congr 2
        omega
theorem near_le (low V : Nat) : near low V ≤ fI := by
  by_cases hV : V = 0
  · subst hV; rw [near_zero]; omega
  · rw [near_is _ _ hV]; exact Nat.min_le_right _ _
theorem log2_mono {a b : Nat} (ha : a ≠ 0) (h : a ≤ b) : a.log2 ≤ b.log2 := by
  have h1 := Nat.log2_self_le ha
  exact (Nat.le_log2 (by omega)).2 (Nat.le_trans h1 h)
theorem near_mono (low : Nat) {a b : Nat} (h : a ≤ b) : near low a ≤ near low b := by
  by_cases ha : a = 0
  · subst ha; rw [near_zero]; omega
  · have hb : b ≠ 0 := by omega
    rw [near_is _ _ ha, near_is _ _ hb]
    have hl := log2_mono ha h
    have hm : max (-(low : Int) + a.log2 - 52) (-1074) ≤ max (-(low : Int) + b.log2 - 52) (-1074) := by omega
    have hmin : ∀ p q : Nat, p ≤ q → min p fI ≤ min q fI := fun p q h => by omega
    refine hmin _ _ ?_
    by_cases he : max (-(low : Int) + a.log2 - 52) (-1074) = max (-(low : Int) + b.log2 - 52) (-1074)
    · rw [he]
      exact Nat.add_le_add_left (rne_mono (Nat.mul_le_mul_right _ h) _) _
    · have h1 : a < 2 ^ (a.log2 + 1) := Nat.lt_log2_self
      have h2 := Nat.log2_self_le hb
      have u : rne (a * 2 ^ ((-(low : Int)) - max (-(low : Int) + a.log2 - 52) (-1074)).toNat) ((max (-(low : Int) + a.log2 - 52) (-1074)) - (-(low : Int))).toNat ≤ 2 * fB := by
        refine rne_le _ _ _ ?_
        have e3 : 2 * fB = 2 ^ 53 := by decide
        rw [e3, ← Nat.pow_add]
        refine Nat.le_trans (Nat.mul_le_mul_right _ (Nat.le_of_lt h1)) ?_
        rw [← Nat.pow_add]
        exact Nat.pow_le_pow_right (by omega) (by omega)
      have v : fB ≤ rne (b * 2 ^ ((-(low : Int)) - max (-(low : Int) + b.log2 - 52) (-1074)).toNat) ((max (-(low : Int) + b.log2 - 52) (-1074)) - (-(low : Int))).toNat := by
        refine le_rne _ _ _ ?_
        have e3 : fB = 2 ^ 52 := by decide
        rw [e3, ← Nat.pow_add]
        refine Nat.le_trans ?_ (Nat.mul_le_mul_right _ h2)
        rw [← Nat.pow_add]
        exact Nat.pow_le_pow_right (by omega) (by omega)
      have e4 : ((max (-(low : Int) + a.log2 - 52) (-1074)) + 1074).toNat + 1 ≤ ((max (-(low : Int) + b.log2 - 52) (-1074)) + 1074).toNat := by omega
      have e5 : (((max (-(low : Int) + a.log2 - 52) (-1074)) + 1074).toNat + 1) * fB ≤ ((max (-(low : Int) + b.log2 - 52) (-1074)) + 1074).toNat * fB := Nat.mul_le_mul_right _ e4
      rw [Nat.add_mul] at e5
      omega
/-- What a rung stands for, in units of 2^-1074. -/
def val (x : Nat) : Nat := if x < fB then x else (fB + x % fB) * 2 ^ (x / fB - 1)
theorem near_val (x : Nat) (hx : x < fI) : near 1074 (val x) = x := by
  unfold val
  by_cases h : x < fB
  · rw [if_pos h]
    by_cases h0 : x = 0
    · subst h0; exact near_zero _
    · rw [near_is _ _ h0]
      have h52 : fB = 2 ^ 52 := by decide
      have hl : x.log2 < 52 := (Nat.log2_lt h0).2 (h52 ▸ h)
      have e : max (-((1074 : Nat) : Int) + x.log2 - 52) (-1074) = -1074 := by omega
      rw [e]
      simp only [Int.reduceNeg, Int.reduceAdd, Int.toNat_zero, Nat.zero_mul, Nat.zero_add]
      have e2 : ((-((1074 : Nat) : Int)) - (-1074)).toNat = 0 := by decide
      have e3 : ((-1074) - (-((1074 : Nat) : Int))).toNat = 0 := by decide
      rw [e2, e3, rne_zero, Nat.pow_zero, Nat.mul_one]
      omega
  · rw [if_neg h]
    have hd : 1 ≤ x / fB := (Nat.le_div_iff_mul_le (by decide)).2 (by omega)
    have hdm := Nat.div_add_mod x fB
    have hmod : x % fB < fB := Nat.mod_lt _ (by decide)
    generalize hq : x / fB = q at *
    generalize hr : x % fB = r at *
    have e0 : (fB + r).log2 = 52 := by
      refine (Nat.log2_eq_iff (by omega)).2 ⟨?_, ?_⟩
      · have : fB = 2 ^ 52 := by decide
        omega
      · have : 2 * fB = 2 ^ (52 + 1) := by decide
        omega
    rw [near_is _ _ (Nat.mul_ne_zero (by omega) (by have := Nat.two_pow_pos (q - 1); omega)), log2_scale _ _ (by omega), e0]
    have e : max (-((1074 : Nat) : Int) + ((52 + (q - 1) : Nat) : Int) - 52) (-1074) = -1074 + ((q - 1 : Nat) : Int) := by omega
    rw [e]
    have e2 : ((-((1074 : Nat) : Int)) - (-1074 + ((q - 1 : Nat) : Int))).toNat = 0 := by omega
    have e3 : ((-1074 + ((q - 1 : Nat) : Int)) - (-((1074 : Nat) : Int))).toNat = q - 1 := by omega
    have e4 : (-1074 + ((q - 1 : Nat) : Int) + 1074).toNat = q - 1 := by omega
    rw [e2, e3, e4, Nat.pow_zero, Nat.mul_one, rne_exact _ _ _ (Nat.le_refl _), Nat.sub_self, Nat.pow_zero, Nat.mul_one]
    have e5 : (q - 1) * fB + (fB + r) = x := by
      obtain ⟨t, ht⟩ : ∃ t, q = t + 1 := ⟨q - 1, by omega⟩
      have e6 : (q - 1) * fB + fB = fB * q := by rw [ht, Nat.add_sub_cancel, Nat.mul_add, Nat.mul_one, Nat.mul_comm]
      omega
    rw [e5]
    omega
theorem val_lt {x y : Nat} (hx : x < fI) (hy : y < fI) : val x < val y ↔ x < y := by
  constructor
  · intro h
    have h1 := near_mono 1074 (Nat.le_of_lt h)
    rw [near_val x hx, near_val y hy] at h1
    rcases Nat.lt_or_ge x y with h2 | h2
    · exact h2
    · have : x = y := by omega
      subst this; omega
  · intro h
    rcases Nat.lt_or_ge (val x) (val y) with h2 | h2
    · exact h2
    · have h1 := near_mono 1074 h2
      rw [near_val x hx, near_val y hy] at h1
      omega
theorem val_le {x y : Nat} (hx : x < fI) (hy : y < fI) : val x ≤ val y ↔ x ≤ y := by
  have := val_lt hy hx
  omega
end Go.Proofs.YtpkpnedcecjlbaaGreatDoor
end
/- Floats: sums, products and comparisons of those that are not below 0. -/
section
namespace Go.Proofs.YtpkpnedcecjlbaaGreatDoor
open Ieee

theorem sign_is : double.signWeight = 9223372036854775808 := by decide
theorem read_is (x : Nat) (hx : x < 9223372036854775808) : double.read x = if x < fB then .number false x (-1074) else if x < fI then .number false (fB + x % fB) (-1074 + ((x / fB - 1 : Nat) : Int)) else if x = fI then .infinity false else .nan false (x - fI) := by
  unfold Format.read
  simp only [sign_is, binade_is, infRung_is, leastPlace_is]
  have h1 : x / 9223372036854775808 = 0 := Nat.div_eq_of_lt hx
  have h2 : x % 9223372036854775808 = x := Nat.mod_eq_of_lt hx
  rw [h1, h2]
  rfl
theorem read_val (x : Nat) (hx : x < fI) : ∃ m i : Nat, double.read x = .number false m (-1074 + (i : Int)) ∧ val x = m * 2 ^ i := by
  have h63 : x < 9223372036854775808 := by simp only [fI] at hx; omega
  rw [read_is x h63]
  unfold val
  by_cases h : x < fB
  · rw [if_pos h, if_pos h]
    exact ⟨x, 0, rfl, by simp⟩
  · rw [if_neg h, if_neg h, if_pos hx]
    exact ⟨_, _, rfl, rfl⟩
theorem read_inf : double.read fI = .infinity false := by
  rw [read_is fI (by decide), if_neg (by decide), if_neg (by decide), if_pos rfl]
theorem nearest_near (low m : Nat) (p : Int) (k : Nat) (hp : p = -(low : Int) + k) : double.nearest false m p = near low (m * 2 ^ k) := by
  obtain ⟨q, hq⟩ : ∃ q : Nat, p = -(q : Int) ∨ p = (q : Int) := ⟨p.natAbs, by omega⟩
  rcases hq with hq | hq
  · have e : low = q + k := by omega
    rw [e, near_scale, hq]
    rfl
  · -- a place above 0: scaled from the place 0
    have h0 : double.nearest false m p = near 0 (m * 2 ^ q) := by
      by_cases hm : m = 0
      · subst hm
        rw [Nat.zero_mul, near_zero]
        unfold Format.nearest
        rw [if_pos rfl, word_is]
      · have hz : m * 2 ^ q ≠ 0 := Nat.mul_ne_zero hm (by have := Nat.two_pow_pos q; omega)
        rw [near_is _ _ hz, log2_scale _ _ hm]
        unfold Format.nearest
        rw [if_neg hm]
        simp only [cut_rne, leastPlace_is, Nat.shiftLeft_eq, binade_is, infRung_is, word_is, frac_is, Int.sub_neg]
        subst hq
        have e1 : (-((0 : Nat) : Int) + ((m.log2 + q : Nat) : Int) - 52) = (q : Int) + m.log2 - 52 := by omega
        rw [e1]
        generalize max ((q : Int) + m.log2 - 52) (-1074) = last
        congr 2
        by_cases h1 : last ≤ 0
        · have a1 : (last - (q : Int)).toNat = 0 := by omega
          have a2 : (last + ((0 : Nat) : Int)).toNat = 0 := by omega
          rw [a1, a2, rne_zero, rne_zero, Nat.mul_assoc, ← Nat.pow_add]
          congr 2
          omega
        · by_cases h2 : (q : Int) ≤ last
          · have a1 : ((q : Int) - last).toNat = 0 := by omega
            have a2 : ((-((0 : Nat) : Int)) - last).toNat = 0 := by omega
            have a3 : (last + ((0 : Nat) : Int)).toNat = (last - (q : Int)).toNat + q := by omega
            rw [a1, a2, a3, Nat.pow_zero, Nat.mul_one, Nat.mul_one, rne_scale]
          · have a1 : ((-((0 : Nat) : Int)) - last).toNat = 0 := by omega
            have a2 : (last - (q : Int)).toNat = 0 := by omega
            rw [a1, a2, rne_zero, Nat.pow_zero, Nat.mul_one, rne_exact _ _ _ (by omega)]
            congr 2
            omega
    have h1 := near_scale 0 (m * 2 ^ q) low
    rw [h0, ← h1, Nat.zero_add, Nat.mul_assoc, ← Nat.pow_add]
    congr 3
    omega
def addN (x y : Nat) : Nat := if x = fI ∨ y = fI then fI else near 1074 (val x + val y)
def mulN (x y : Nat) : Nat := near 2148 (val x * val y)
theorem addN_le (x y : Nat) : addN x y ≤ fI := by
  unfold addN
  split
  · exact Nat.le_refl _
  · exact near_le _ _
theorem mulN_le (x y : Nat) : mulN x y ≤ fI := near_le _ _
theorem signed_pos (m k : Nat) : signed false m k = ((m * 2 ^ k : Nat) : Int) := by
  simp [signed, Nat.shiftLeft_eq]
theorem add_is {x y : Nat} (hx : x ≤ fI) (hy : y ≤ fI) : double.add x y = some (addN x y) := by
  unfold Format.add addN
  by_cases h1 : x = fI
  · rw [if_pos (.inl h1), h1, read_inf]
    by_cases h2 : y = fI
    · rw [h2, read_inf]
      rfl
    · obtain ⟨n, j, e2, _⟩ := read_val y (by omega)
      rw [e2]
      rfl
  · obtain ⟨m, i, e1, v1⟩ := read_val x (by omega)
    by_cases h2 : y = fI
    · rw [if_pos (.inr h2), h2, read_inf, e1]
      rfl
    · obtain ⟨n, j, e2, v2⟩ := read_val y (by omega)
      rw [if_neg (by omega), e1, e2]
      simp only [Datum.sum, Option.map_some, signed_pos]
      have hb : (if ((m * 2 ^ (-1074 + (i : Int) - min (-1074 + (i : Int)) (-1074 + (j : Int))).toNat : Nat) : Int) + ((n * 2 ^ (-1074 + (j : Int) - min (-1074 + (i : Int)) (-1074 + (j : Int))).toNat : Nat) : Int) = 0 then (false && false) else decide (((m * 2 ^ (-1074 + (i : Int) - min (-1074 + (i : Int)) (-1074 + (j : Int))).toNat : Nat) : Int) + ((n * 2 ^ (-1074 + (j : Int) - min (-1074 + (i : Int)) (-1074 + (j : Int))).toNat : Nat) : Int) < 0)) = false := by
        split
        · rfl
        · exact decide_eq_false (by omega)
      rw [hb]
      unfold Format.write
      simp only
      rw [nearest_near 1074 _ _ (min i j) (by omega)]
      congr 2
      rw [v1, v2]
      have e3 : (-1074 + (i : Int) - min (-1074 + (i : Int)) (-1074 + (j : Int))).toNat = i - min i j := by omega
      have e4 : (-1074 + (j : Int) - min (-1074 + (i : Int)) (-1074 + (j : Int))).toNat = j - min i j := by omega
      rw [e3, e4]
      have e5 : (((m * 2 ^ (i - min i j) : Nat) : Int) + ((n * 2 ^ (j - min i j) : Nat) : Int)).natAbs = m * 2 ^ (i - min i j) + n * 2 ^ (j - min i j) := by omega
      rw [e5, Nat.add_mul, Nat.mul_assoc, Nat.mul_assoc, ← Nat.pow_add, ← Nat.pow_add, Nat.sub_add_cancel (Nat.min_le_left i j), Nat.sub_add_cancel (Nat.min_le_right i j)]
theorem mul_is {x y : Nat} (hx : x < fI) (hy : y < fI) : double.mul x y = some (mulN x y) := by
  unfold Format.mul mulN
  obtain ⟨m, i, e1, v1⟩ := read_val x hx
  obtain ⟨n, j, e2, v2⟩ := read_val y hy
  rw [e1, e2]
  simp only [Datum.product, Option.map_some]
  show some (double.nearest false (m * n) (-1074 + (i : Int) + (-1074 + (j : Int)))) = _
  rw [nearest_near 2148 _ _ (i + j) (by omega), v1, v2]
  congr 2
  rw [Nat.pow_add, Nat.mul_assoc, Nat.mul_left_comm n, ← Nat.mul_assoc]
theorem mul_inf {x : Nat} (hx : 0 < x) (hx2 : x ≤ fI) : double.mul x fI = some fI := by
  unfold Format.mul
  rw [read_inf]
  by_cases h1 : x = fI
  · rw [h1, read_inf]
    rfl
  · obtain ⟨m, i, e1, v1⟩ := read_val x (by omega)
    have hm : m ≠ 0 := by
      rintro rfl
      have := (val_lt (x := 0) (y := x) (by decide) (by omega)).2 hx
      rw [v1] at this
      simp at this
    rw [e1]
    simp only [Datum.product]
    rw [if_neg hm]
    rfl
theorem compare_nat (a b : Nat) : compare ((a : Nat) : Int) ((b : Nat) : Int) = compare a b := by
  rcases Nat.lt_trichotomy a b with h | h | h
  · rw [Nat.compare_eq_lt.2 h]; exact Int.compare_eq_lt.2 (by omega)
  · subst h; rw [Nat.compare_eq_eq.2 rfl]; exact Int.compare_eq_eq.2 rfl
  · rw [Nat.compare_eq_gt.2 h]; exact Int.compare_eq_gt.2 (by omega)
theorem order_is {x y : Nat} (hx : x ≤ fI) (hy : y ≤ fI) : double.order x y = some (compare x y) := by
  unfold Format.order
  by_cases h1 : x = fI
  · rw [h1, read_inf]
    by_cases h2 : y = fI
    · rw [h2, read_inf]
      rfl
    · obtain ⟨n, j, e2, _⟩ := read_val y (by omega)
      rw [e2, Nat.compare_eq_gt.2 (show y < fI by omega)]
      rfl
  · obtain ⟨m, i, e1, v1⟩ := read_val x (by omega)
    by_cases h2 : y = fI
    · rw [h2, read_inf, e1, Nat.compare_eq_lt.2 (show x < fI by omega)]
      rfl
    · obtain ⟨n, j, e2, v2⟩ := read_val y (by omega)
      rw [e1, e2]
      simp only [Datum.order, signed_pos, compare_nat]
      have e3 : (-1074 + (i : Int) - min (-1074 + (i : Int)) (-1074 + (j : Int))).toNat = i - min i j := by omega
      have e4 : (-1074 + (j : Int) - min (-1074 + (i : Int)) (-1074 + (j : Int))).toNat = j - min i j := by omega
      rw [e3, e4]
      have w1 : val x = m * 2 ^ (i - min i j) * 2 ^ min i j := by rw [v1, Nat.mul_assoc, ← Nat.pow_add, Nat.sub_add_cancel (Nat.min_le_left i j)]
      have w2 : val y = n * 2 ^ (j - min i j) * 2 ^ min i j := by rw [v2, Nat.mul_assoc, ← Nat.pow_add, Nat.sub_add_cancel (Nat.min_le_right i j)]
      have hp : 0 < 2 ^ min i j := Nat.two_pow_pos _
      have hlt := val_lt (x := x) (y := y) (by omega) (by omega)
      have hgt := val_lt (x := y) (y := x) (by omega) (by omega)
      rw [w1, w2] at hlt hgt
      have hlt' : m * 2 ^ (i - min i j) < n * 2 ^ (j - min i j) ↔ x < y := ⟨fun h => hlt.1 (Nat.mul_lt_mul_of_pos_right h hp), fun h => Nat.lt_of_mul_lt_mul_right (hlt.2 h)⟩
      have hgt' : n * 2 ^ (j - min i j) < m * 2 ^ (i - min i j) ↔ y < x := ⟨fun h => hgt.1 (Nat.mul_lt_mul_of_pos_right h hp), fun h => Nat.lt_of_mul_lt_mul_right (hgt.2 h)⟩
      congr 1
      rcases Nat.lt_trichotomy x y with h | h | h
      · rw [Nat.compare_eq_lt.2 h, Nat.compare_eq_lt.2 (hlt'.2 h)]
      · rw [Nat.compare_eq_eq.2 h, Nat.compare_eq_eq.2 (by omega)]
      · rw [Nat.compare_eq_gt.2 h, Nat.compare_eq_gt.2 (hgt'.2 h)]
/-- Above 0 are just the rungs from 1 to infinity's. -/
theorem order_zero (x : Nat) (hx : x < 18446744073709551616) : (double.order x 0 == some Ordering.gt) = decide (0 < x ∧ x ≤ fI) := by
  by_cases h : x ≤ fI
  · rw [order_is h (by decide)]
    by_cases h0 : x = 0
    · subst h0; rfl
    · rw [Nat.compare_eq_gt.2 (show 0 < x by omega), decide_eq_true ⟨by omega, h⟩]
      rfl
  · have hd : decide (0 < x ∧ x ≤ fI) = false := decide_eq_false (fun q => h q.2)
    rw [hd]
    have r0 : double.read 0 = .number false 0 (-1074) := by decide
    unfold Format.order
    rw [r0]
    by_cases h63 : x < 9223372036854775808
    · rw [read_is x h63, if_neg (by simp only [fB, fI] at h ⊢; omega), if_neg (by omega), if_neg (by omega)]
      rfl
    · unfold Format.read
      simp only [sign_is, binade_is, infRung_is, leastPlace_is]
      have h1 : x / 9223372036854775808 = 1 := by omega
      rw [h1]
      show (Datum.order (if x % 9223372036854775808 < fB then Datum.number true (x % 9223372036854775808) (-1074) else if x % 9223372036854775808 < fI then Datum.number true (fB + x % 9223372036854775808 % fB) (-1074 + ((x % 9223372036854775808 / fB - 1 : Nat) : Int)) else if x % 9223372036854775808 = fI then Datum.infinity true else Datum.nan true (x % 9223372036854775808 - fI)) (Datum.number false 0 (-1074)) == some Ordering.gt) = false
      have hneg : ∀ (m : Nat) (p : Int), (Datum.order (Datum.number true m p) (Datum.number false 0 (-1074)) == some Ordering.gt) = false := by
        intro m p
        simp only [Datum.order, signed_pos, Nat.zero_mul]
        have : signed true m (p - min p (-1074)).toNat ≤ 0 := by
          simp only [signed, if_true]
          have := Int.natCast_nonneg (m <<< (p - min p (-1074)).toNat)
          exact Int.neg_nonpos_of_nonneg this
        generalize signed true m (p - min p (-1074)).toNat = z at this
        have hz : compare z (((0 : Nat) : Int)) ≠ Ordering.gt := fun e => by have := Int.compare_eq_gt.1 e; omega
        cases hc : compare z (((0 : Nat) : Int)) with
        | lt => rfl
        | eq => rfl
        | gt => exact absurd hc hz
      split
      · exact hneg _ _
      · split
        · exact hneg _ _
        · split <;> rfl
/-- 2^n, which nothing reckons out. -/
def pw (n : Nat) : Nat := 2 ^ n
theorem pw_pos (n : Nat) : 0 < pw n := Nat.two_pow_pos n
theorem pw_add (a b : Nat) : pw (a + b) = pw a * pw b := Nat.pow_add 2 a b
theorem near_pw (low V k : Nat) : near (low + k) (V * pw k) = near low V := near_scale low V k
theorem val_pw (x : Nat) (hx : ¬ x < fB) : val x = (fB + x % fB) * pw (x / fB - 1) := by unfold val; rw [if_neg hx]; rfl
/-- A number of 53 digits is a rung's own. -/
theorem exact_val (m e t E : Nat) (hE : E = pw e) (ht : t ≤ 2098) (hm : m < 2 ^ 53) (hV : m * E < pw t) : ∃ x, x < fI ∧ val x = m * E ∧ near 1074 (m * E) = x := by
  subst hE
  unfold pw at *
  have key : ∃ x, x < fI ∧ val x = m * 2 ^ e := by
    by_cases h : m * 2 ^ e < fB
    · exact ⟨m * 2 ^ e, by simp only [fB, fI] at h ⊢; omega, by unfold val; rw [if_pos h]⟩
    · have h0 : m ≠ 0 := by rintro rfl; simp at h
      have hL := log2_scale m e h0
      have hV0 : m * 2 ^ e ≠ 0 := Nat.mul_ne_zero h0 (by have := Nat.two_pow_pos e; omega)
      have l1 : m.log2 < 53 := (Nat.log2_lt h0).2 hm
      have l2 : (m * 2 ^ e).log2 < t := (Nat.log2_lt hV0).2 hV
      have e52 : fB = 2 ^ 52 := by decide
      have l3 : 52 ≤ (m * 2 ^ e).log2 := (Nat.le_log2 hV0).2 (e52 ▸ Nat.le_of_not_lt h)
      obtain ⟨f, hf⟩ : ∃ f, f + 52 = m.log2 + e := ⟨m.log2 + e - 52, by omega⟩
      obtain ⟨g, hg⟩ : ∃ g, e = f + g := ⟨e - f, by omega⟩
      have b1 := Nat.log2_self_le h0
      have b2 : m < 2 ^ (m.log2 + 1) := Nat.lt_log2_self
      have hlg : m.log2 + g = 52 := by omega
      have q1 : fB ≤ m * 2 ^ g := by
        have e3 : fB = 2 ^ (m.log2 + g) := by rw [hlg]
        rw [e3, Nat.pow_add]; exact Nat.mul_le_mul_right _ b1
      have q2 : m * 2 ^ g < 2 * fB := by
        have e3 : 2 * fB = 2 ^ (m.log2 + 1 + g) := by rw [show m.log2 + 1 + g = 53 by omega]; decide
        rw [e3, Nat.pow_add]; exact Nat.mul_lt_mul_of_pos_right b2 (Nat.two_pow_pos _)
      have hV2 : m * 2 ^ e = m * 2 ^ g * 2 ^ f := by rw [hg, Nat.pow_add, Nat.mul_assoc, Nat.mul_comm (2 ^ g)]
      generalize m * 2 ^ g = q at *
      have hf2 : f + 1 ≤ 2046 := by omega
      refine ⟨(f + 1) * fB + (q - fB), ?_, ?_⟩
      · have : (f + 1) * fB ≤ 2046 * fB := Nat.mul_le_mul_right _ hf2
        simp only [fB, fI] at *
        omega
      · unfold val
        have hge : ¬ (f + 1) * fB + (q - fB) < fB := by
          have : 1 * fB ≤ (f + 1) * fB := Nat.mul_le_mul_right _ (by omega)
          omega
        rw [if_neg hge]
        have hr : q - fB < fB := by omega
        have e1 : ((f + 1) * fB + (q - fB)) % fB = q - fB := by
          rw [Nat.add_comm, Nat.add_mul_mod_self_right]; exact Nat.mod_eq_of_lt hr
        have e2 : ((f + 1) * fB + (q - fB)) / fB = f + 1 := by
          rw [Nat.add_comm, Nat.add_mul_div_right _ _ (by decide), Nat.div_eq_of_lt hr, Nat.zero_add]
        rw [e1, e2, Nat.add_sub_cancel, hV2, Nat.add_sub_cancel' q1]
  obtain ⟨x, h1, h2⟩ := key
  exact ⟨x, h1, h2, by rw [← h2]; exact near_val x h1⟩
end Go.Proofs.YtpkpnedcecjlbaaGreatDoor
end
/- Floats: draws of any bits; sums of weights that were made smaller. -/
section
namespace Go.Proofs.YtpkpnedcecjlbaaGreatDoor
open Ieee

theorem read_neg (d : Nat) (h1 : 9223372036854775808 ≤ d) (h2 : d < 18446744073709551616) : (∃ m p, double.read d = .number true m p ∧ (m = 0 ↔ d = 9223372036854775808)) ∨ double.read d = .infinity true ∨ ∃ f, double.read d = .nan true f := by
  unfold Format.read
  simp only [sign_is, binade_is, infRung_is, leastPlace_is]
  have h3 : d / 9223372036854775808 = 1 := by omega
  rw [h3]
  show (∃ m p, (if d % 9223372036854775808 < fB then Datum.number true (d % 9223372036854775808) (-1074) else if d % 9223372036854775808 < fI then Datum.number true (fB + d % 9223372036854775808 % fB) (-1074 + ((d % 9223372036854775808 / fB - 1 : Nat) : Int)) else if d % 9223372036854775808 = fI then Datum.infinity true else Datum.nan true (d % 9223372036854775808 - fI)) = Datum.number true m p ∧ (m = 0 ↔ d = 9223372036854775808)) ∨ _ ∨ _
  split
  · exact .inl ⟨_, _, rfl, by omega⟩
  · rename_i hb
    split
    · refine .inl ⟨_, _, rfl, ?_⟩
      simp only [fB] at hb ⊢
      omega
    · split
      · exact .inr (.inl rfl)
      · exact .inr (.inr ⟨_, rfl⟩)
theorem read_nan (d : Nat) (h1 : fI < d) (h2 : d < 9223372036854775808) : ∃ f, double.read d = .nan false f := by
  rw [read_is d h2, if_neg (by simp only [fB, fI] at h1 ⊢; omega), if_neg (by omega), if_neg (by omega)]
  exact ⟨_, rfl⟩
theorem read_pos (y : Nat) (hy : y ≤ fI) : (∃ n q, double.read y = .number false n q ∧ (n = 0 ↔ y = 0)) ∨ (double.read y = .infinity false ∧ y = fI) := by
  by_cases h : y = fI
  · exact .inr ⟨by rw [h]; exact read_inf, h⟩
  · obtain ⟨m, i, e, v⟩ := read_val y (by omega)
    refine .inl ⟨m, _, e, ?_⟩
    constructor
    · rintro rfl
      rw [Nat.zero_mul] at v
      rcases Nat.eq_zero_or_pos y with h0 | h0
      · exact h0
      · have := (val_lt (x := 0) (y := y) (by decide) (by omega)).2 h0
        omega
    · rintro rfl
      have : val 0 = 0 := by decide
      rw [this] at v
      rcases Nat.eq_zero_or_pos m with h0 | h0
      · exact h0
      · have := Nat.mul_pos h0 (Nat.two_pow_pos i)
        omega
theorem signed_neg (m k : Nat) : signed true m k = -((m * 2 ^ k : Nat) : Int) := by simp [signed, Nat.shiftLeft_eq]
/-- What is below 0, or no number, is neither above nor as great as what is above 0. -/
theorem order_big (d y : Nat) (h1 : fI < d) (h2 : d < 18446744073709551616) (hy : y ≤ fI) : (double.order d y == some Ordering.gt) = false ∧ (double.order d y == some Ordering.eq) = decide (d = 9223372036854775808 ∧ y = 0) := by
  unfold Format.order
  by_cases h63 : d < 9223372036854775808
  · obtain ⟨f, e⟩ := read_nan d h1 h63
    rw [e, decide_eq_false (by omega)]
    exact ⟨rfl, rfl⟩
  · rcases read_neg d (by omega) h2 with ⟨m, p, e, hm⟩ | e | ⟨f, e⟩
    · rw [e]
      rcases read_pos y hy with ⟨n, q, e2, hn⟩ | ⟨e2, hy2⟩
      · rw [e2]
        simp only [Datum.order, signed_neg, signed_pos]
        have a1 := Nat.two_pow_pos (p - min p q).toNat
        have a2 := Nat.two_pow_pos (q - min p q).toNat
        generalize (p - min p q).toNat = u at *
        generalize (q - min p q).toNat = v at *
        have z1 : m * 2 ^ u = 0 ↔ m = 0 := by rw [Nat.mul_eq_zero]; omega
        have z2 : n * 2 ^ v = 0 ↔ n = 0 := by rw [Nat.mul_eq_zero]; omega
        generalize m * 2 ^ u = M at *
        generalize n * 2 ^ v = K at *
        by_cases h0 : M = 0 ∧ K = 0
        · rw [h0.1, h0.2, decide_eq_true ⟨hm.1 (z1.1 h0.1), hn.1 (z2.1 h0.2)⟩]
          exact ⟨rfl, rfl⟩
        · have hlt : compare (-((M : Nat) : Int)) ((K : Nat) : Int) = Ordering.lt := Int.compare_eq_lt.2 (by omega)
          rw [hlt, decide_eq_false (fun q => h0 ⟨z1.2 (hm.2 q.1), z2.2 (hn.2 q.2)⟩)]
          exact ⟨rfl, rfl⟩
      · rw [e2, decide_eq_false (by rintro ⟨_, h⟩; rw [h] at hy2; exact absurd hy2 (by decide))]
        exact ⟨rfl, rfl⟩
    · rw [e]
      have hd : ¬ d = 9223372036854775808 := by
        rintro rfl
        exact absurd e (by decide)
      rw [decide_eq_false (fun q => hd q.1)]
      rcases read_pos y hy with ⟨n, q, e2, _⟩ | ⟨e2, _⟩
      · rw [e2]; exact ⟨rfl, rfl⟩
      · rw [e2]; exact ⟨rfl, rfl⟩
    · have hd : ¬ d = 9223372036854775808 := by
        rintro rfl
        have r : double.read 9223372036854775808 = .number true 0 (-1074) := by decide
        rw [r] at e
        cases e
      rw [e, decide_eq_false (fun q => hd q.1)]
      rcases read_pos y hy with ⟨n, q, e2, _⟩ | ⟨e2, _⟩
      · rw [e2]; exact ⟨rfl, rfl⟩
      · rw [e2]; exact ⟨rfl, rfl⟩
theorem ge_is (d y : Nat) (hd : d < 18446744073709551616) (hy : y ≤ fI) (h0 : 0 < y) : (double.order d y == some Ordering.gt || double.order d y == some Ordering.eq) = decide (y ≤ d ∧ d ≤ fI) := by
  by_cases h : d ≤ fI
  · rw [order_is h hy]
    rcases Nat.lt_trichotomy d y with h1 | h1 | h1
    · rw [Nat.compare_eq_lt.2 h1, decide_eq_false (by omega)]; rfl
    · rw [Nat.compare_eq_eq.2 h1, decide_eq_true (by omega)]; rfl
    · rw [Nat.compare_eq_gt.2 h1, decide_eq_true (by omega)]; rfl
  · obtain ⟨a, b⟩ := order_big d y (by omega) hd hy
    rw [a, b, decide_eq_false (by omega), decide_eq_false (by omega)]; rfl
theorem ge0_is (d : Nat) (hd : d < 18446744073709551616) : (double.order d 0 == some Ordering.gt || double.order d 0 == some Ordering.eq) = decide (d ≤ fI ∨ d = 9223372036854775808) := by
  by_cases h : d ≤ fI
  · rw [order_is h (by decide), decide_eq_true (.inl h)]
    rcases Nat.eq_zero_or_pos d with h1 | h1
    · rw [Nat.compare_eq_eq.2 h1]; rfl
    · rw [Nat.compare_eq_gt.2 h1]; rfl
  · obtain ⟨a, b⟩ := order_big d 0 (by omega) hd (by decide)
    rw [a, b]
    by_cases h1 : d = 9223372036854775808
    · rw [decide_eq_true ⟨h1, rfl⟩, decide_eq_true (.inr h1)]; rfl
    · rw [decide_eq_false (fun q => h1 q.1), decide_eq_false (by omega)]; rfl
theorem mul_neg0 (s : Nat) (hs : s < fI) : double.mul 9223372036854775808 s = some 9223372036854775808 := by
  have r : double.read 9223372036854775808 = .number true 0 (-1074) := by decide
  obtain ⟨m, i, e, _⟩ := read_val s hs
  unfold Format.mul
  rw [r, e]
  simp only [Datum.product, Option.map_some, Nat.zero_mul]
  unfold Format.write Format.nearest
  simp only [if_true]
  decide
theorem lt_neg0 (y : Nat) (hy : y ≤ fI) : (double.order 9223372036854775808 y == some Ordering.lt) = decide (0 < y) := by
  have r : double.read 9223372036854775808 = .number true 0 (-1074) := by decide
  unfold Format.order
  rw [r]
  rcases read_pos y hy with ⟨n, q, e2, hn⟩ | ⟨e2, hy2⟩
  · rw [e2]
    simp only [Datum.order, signed_neg, signed_pos, Nat.zero_mul]
    have a2 := Nat.two_pow_pos (q - min (-1074) q).toNat
    have z2 : n * 2 ^ (q - min (-1074) q).toNat = 0 ↔ n = 0 := by rw [Nat.mul_eq_zero]; omega
    generalize n * 2 ^ (q - min (-1074) q).toNat = K at *
    by_cases h0 : 0 < y
    · have : compare (-((0 : Nat) : Int)) ((K : Nat) : Int) = Ordering.lt := by
        have hK : ¬ K = 0 := fun e => by
          have := hn.1 (z2.1 e)
          omega
        exact Int.compare_eq_lt.2 (by omega)
      rw [this, decide_eq_true h0]; rfl
    · have : compare (-((0 : Nat) : Int)) ((K : Nat) : Int) = Ordering.eq := by
        have hK : K = 0 := z2.2 (hn.2 (by omega))
        exact Int.compare_eq_eq.2 (by omega)
      rw [this, decide_eq_false h0]; rfl
  · rw [e2, decide_eq_true (by rw [hy2]; decide)]; rfl
end Go.Proofs.YtpkpnedcecjlbaaGreatDoor
end
