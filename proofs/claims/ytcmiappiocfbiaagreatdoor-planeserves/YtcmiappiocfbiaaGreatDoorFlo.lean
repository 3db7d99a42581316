/- Floats that are not below 0, as rungs: how they stand to each other, sums, products (plain mathematics). -/
import Derived.Laws.FloatArith
namespace Go.Proofs.YtcmiappiocfbiaaGreatDoor
open Ieee

/-- n / 2^d, to the nearest, the even one between two. -/
def rne (n d : Nat) : Nat := n / 2 ^ d + (decide (2 ^ d < 2 * (n % 2 ^ d)) || (2 ^ d == 2 * (n % 2 ^ d) && n / 2 ^ d % 2 == 1)).toNat
theorem cut_rne (neg : Bool) (n d : Nat) : Toward.even.cut neg n d = rne n d := by
  unfold Toward.cut rne
  simp only [Nat.one_shiftLeft]
  by_cases h : d ≤ n.log2 + 2
  · rw [Nat.min_eq_left h]
  · have hd : n.log2 + 2 < d := by omega
    rw [Nat.min_eq_right (by omega)]
    have hn : n < 2 ^ (n.log2 + 1) := Nat.lt_log2_self
    have e2 : 2 ^ (n.log2 + 2) = 2 * 2 ^ (n.log2 + 1) := by rw [Nat.pow_succ, Nat.mul_comm]
    have hp : 2 ^ (n.log2 + 2) ≤ 2 ^ d := Nat.pow_le_pow_right (by omega) (by omega)
    have m1 : n % 2 ^ (n.log2 + 2) = n := Nat.mod_eq_of_lt (by omega)
    have m2 : n % 2 ^ d = n := Nat.mod_eq_of_lt (by omega)
    have d1 : n / 2 ^ (n.log2 + 2) = 0 := Nat.div_eq_of_lt (by omega)
    have d2 : n / 2 ^ d = 0 := Nat.div_eq_of_lt (by omega)
    rw [m1, m2, d1, d2]
    have a1 : decide (2 ^ (n.log2 + 2) < 2 * n) = false := decide_eq_false (by omega)
    have a2 : decide (2 ^ d < 2 * n) = false := decide_eq_false (by omega)
    simp [a1, a2]
theorem rne_zero (n : Nat) : rne n 0 = n := by
  simp [rne, Nat.mod_one]
theorem rne_scale (n d k : Nat) : rne (n * 2 ^ k) (d + k) = rne n d := by
  unfold rne
  have hk : 0 < 2 ^ k := Nat.two_pow_pos k
  rw [Nat.pow_add, Nat.mul_div_mul_right _ _ hk, Nat.mul_mod_mul_right]
  have e1 : decide (2 ^ d * 2 ^ k < 2 * (n % 2 ^ d * 2 ^ k)) = decide (2 ^ d < 2 * (n % 2 ^ d)) := by
    rw [← Nat.mul_assoc]
    exact decide_eq_decide.2 (Nat.mul_lt_mul_right hk)
  have e2 : (2 ^ d * 2 ^ k == 2 * (n % 2 ^ d * 2 ^ k)) = (2 ^ d == 2 * (n % 2 ^ d)) := by
    rw [← Nat.mul_assoc, Bool.eq_iff_iff, beq_iff_eq, beq_iff_eq]
    exact ⟨fun h => Nat.eq_of_mul_eq_mul_right hk h, fun h => congrArg (· * 2 ^ k) h⟩
  rw [e1, e2]
theorem rne_exact (n k d : Nat) (h : d ≤ k) : rne (n * 2 ^ k) d = n * 2 ^ (k - d) := by
  have : n * 2 ^ k = n * 2 ^ (k - d) * 2 ^ d := by rw [Nat.mul_assoc, ← Nat.pow_add, Nat.sub_add_cancel h]
  rw [this]
  have := rne_scale (n * 2 ^ (k - d)) 0 d
  rw [Nat.zero_add] at this
  rw [this, rne_zero]
theorem rne_mono {a b : Nat} (h : a ≤ b) (d : Nat) : rne a d ≤ rne b d := by
  unfold rne
  have hp : 0 < 2 ^ d := Nat.two_pow_pos d
  have hq : a / 2 ^ d ≤ b / 2 ^ d := Nat.div_le_div_right h
  have da := Nat.div_add_mod a (2 ^ d)
  have db := Nat.div_add_mod b (2 ^ d)
  rcases Nat.lt_or_ge (a / 2 ^ d) (b / 2 ^ d) with hl | hl
  · have := Bool.toNat_le (decide (2 ^ d < 2 * (a % 2 ^ d)) || (2 ^ d == 2 * (a % 2 ^ d) && a / 2 ^ d % 2 == 1))
    omega
  · have he : a / 2 ^ d = b / 2 ^ d := by omega
    rw [he] at da ⊢
    have hm : a % 2 ^ d ≤ b % 2 ^ d := by omega
    have hbool : ∀ p q : Bool, (p = true → q = true) → p.toNat ≤ q.toNat := by intro p q; cases p <;> cases q <;> simp
    refine Nat.add_le_add_left (hbool _ _ ?_) _
    simp only [Bool.or_eq_true, decide_eq_true_eq, Bool.and_eq_true, beq_iff_eq]
    rintro (h1 | ⟨h1, h2⟩)
    · left; omega
    · rcases Nat.lt_or_ge (2 ^ d) (2 * (b % 2 ^ d)) with h3 | h3
      · exact .inl h3
      · exact .inr ⟨by omega, h2⟩
theorem rne_le (n d c : Nat) (h : n ≤ c * 2 ^ d) : rne n d ≤ c := by
  have := rne_mono h d
  rw [rne_exact _ _ _ (Nat.le_refl _)] at this
  simpa using this
theorem le_rne (n d c : Nat) (h : c * 2 ^ d ≤ n) : c ≤ rne n d := by
  have := rne_mono h d
  rw [rne_exact _ _ _ (Nat.le_refl _)] at this
  simpa using this
abbrev fI : Nat := 9218868437227405312
abbrev fB : Nat := 4503599627370496
/-- The rung of n * 2^(b - 1074 - ..): b is how far the place lies above 'low'. -/
def near (low : Nat) (V : Nat) : Nat := double.nearest false V (-(low : Int))
theorem leastPlace_is : double.leastPlace = -1074 := by decide
theorem binade_is : double.binade = fB := by decide
theorem infRung_is : double.infRung = fI := by decide
theorem word_is (r : Nat) : double.word false r = r := if_neg (by decide)
theorem frac_is : ((double.fractionBits : Nat) : Int) = 52 := by decide
theorem near_is (low V : Nat) (hV : V ≠ 0) : near low V = min (((max (-(low : Int) + V.log2 - 52) (-1074)) + 1074).toNat * fB + rne (V * 2 ^ ((-(low : Int)) - max (-(low : Int) + V.log2 - 52) (-1074)).toNat) ((max (-(low : Int) + V.log2 - 52) (-1074)) - (-(low : Int))).toNat) fI := by
  unfold near Format.nearest
  rw [if_neg hV]
  simp only [cut_rne, leastPlace_is, Nat.shiftLeft_eq, binade_is, infRung_is, word_is, frac_is, Int.sub_neg]
theorem near_zero (low : Nat) : near low 0 = 0 := by
  unfold near Format.nearest
  rw [if_pos rfl, word_is]
theorem log2_scale (V k : Nat) (hV : V ≠ 0) : (V * 2 ^ k).log2 = V.log2 + k := by
  have h1 := Nat.log2_self_le hV
  have h2 : V < 2 ^ (V.log2 + 1) := Nat.lt_log2_self
  have hk : 0 < 2 ^ k := Nat.two_pow_pos k
  have hne : V * 2 ^ k ≠ 0 := Nat.mul_ne_zero hV (by omega)
  refine (Nat.log2_eq_iff hne).2 ⟨?_, ?_⟩
  · rw [Nat.pow_add]; exact Nat.mul_le_mul_right _ h1
  · rw [show V.log2 + k + 1 = (V.log2 + 1) + k by omega, Nat.pow_add]; exact Nat.mul_lt_mul_of_pos_right h2 hk
theorem near_scale (low V k : Nat) : near (low + k) (V * 2 ^ k) = near low V := by
  by_cases hV : V = 0
  · subst hV; rw [Nat.zero_mul, near_zero, near_zero]
  · have hk : 0 < 2 ^ k := Nat.two_pow_pos k
    rw [near_is _ _ hV, near_is _ _ (Nat.mul_ne_zero hV (by omega)), log2_scale V k hV]
    have e1 : (-((low + k : Nat) : Int) + ((V.log2 + k : Nat) : Int) - 52) = -(low : Int) + V.log2 - 52 := by omega
    rw [e1]
    generalize max (-(low : Int) + V.log2 - 52) (-1074) = last
    congr 2
    by_cases h1 : last ≤ -(low : Int) - k
    · have a1 : (last - (-((low + k : Nat) : Int))).toNat = 0 := by omega
      have a2 : (last - (-(low : Int))).toNat = 0 := by omega
      rw [a1, a2, rne_zero, rne_zero, Nat.mul_assoc, ← Nat.pow_add]
      congr 2
      omega
    · by_cases h2 : -(low : Int) ≤ last
      · have a1 : ((-((low + k : Nat) : Int)) - last).toNat = 0 := by omega
        have a2 : ((-(low : Int)) - last).toNat = 0 := by omega
        have a3 : (last - (-((low + k : Nat) : Int))).toNat = (last - (-(low : Int))).toNat + k := by omega
        rw [a1, a2, a3, Nat.pow_zero, Nat.mul_one, Nat.mul_one, rne_scale]
      · have a1 : ((-((low + k : Nat) : Int)) - last).toNat = 0 := by omega
        have a2 : (last - (-(low : Int))).toNat = 0 := by omega
        rw [a1, a2, rne_zero, Nat.pow_zero, Nat.mul_one, rne_exact _ _ _ (by omega)]
        congr 2
        omega
theorem near_le (low V : Nat) : near low V ≤ fI := by
  by_cases hV : V = 0
  · subst hV; rw [near_zero]; omega
  · rw [near_is _ _ hV]; exact Nat.min_le_right _ _
theorem log2_mono {a b : Nat} (ha : a ≠ 0) (h : a ≤ b) : a.log2 ≤ b.log2 := by
  have h1 := Nat.log2_self_le ha
  exact (Nat.le_log2 (by omega)).2 (Nat.le_trans h1 h)
theorem near_mono (low : Nat) {a b : Nat} (h : a ≤ b) : near low a ≤ near low b := by
  by_cases ha : a = 0
  · subst ha; rw [near_zero]; omega
  · have hb : b ≠ 0 := by omega
    rw [near_is _ _ ha, near_is _ _ hb]
    have hl := log2_mono ha h
    have hm : max (-(low : Int) + a.log2 - 52) (-1074) ≤ max (-(low : Int) + b.log2 - 52) (-1074) := by omega
    have hmin : ∀ p q : Nat, p ≤ q → min p fI ≤ min q fI := fun p q h => by omega
    refine hmin _ _ ?_
    by_cases he : max (-(low : Int) + a.log2 - 52) (-1074) = max (-(low : Int) + b.log2 - 52) (-1074)
    · rw [he]
      exact Nat.add_le_add_left (rne_mono (Nat.mul_le_mul_right _ h) _) _
    · have h1 : a < 2 ^ (a.log2 + 1) := Nat.lt_log2_self
      have h2 := Nat.log2_self_le hb
      have u : rne (a * 2 ^ ((-(low : Int)) - max (-(low : Int) + a.log2 - 52) (-1074)).toNat) ((max (-(low : Int) + a.log2 - 52) (-1074)) - (-(low : Int))).toNat ≤ 2 * fB := by
        refine rne_le _ _ _ ?_
        have e3 : 2 * fB = 2 ^ 53 := by decide
        rw [e3, ← Nat.pow_add]
        refine Nat.le_trans (Nat.mul_le_mul_right _ (Nat.le_of_lt h1)) ?_
        rw [← Nat.pow_add]
        exact Nat.pow_le_pow_right (by omega) (by omega)
      have v : fB ≤ rne (b * 2 ^ ((-(low : Int)) - max (-(low : Int) + b.log2 - 52) (-1074)).toNat) ((max (-(low : Int) + b.log2 - 52) (-1074)) - (-(low : Int))).toNat := by
        refine le_rne _ _ _ ?_
        have e3 : fB = 2 ^ 52 := by decide
        rw [e3, ← Nat.pow_add]
        refine Nat.le_trans ?_ (Nat.mul_le_mul_right _ h2)
        rw [← Nat.pow_add]
        exact Nat.pow_le_pow_right (by omega) (by omega)
      have e4 : ((max (-(low : Int) + a.log2 - 52) (-1074)) + 1074).toNat + 1 ≤ ((max (-(low : Int) + b.log2 - 52) (-1074)) + 1074).toNat := by omega
      have e5 : (((max (-(low : Int) + a.log2 - 52) (-1074)) + 1074).toNat + 1) * fB ≤ ((max (-(low : Int) + b.log2 - 52) (-1074)) + 1074).toNat * fB := Nat.mul_le_mul_right _ e4
      rw [Nat.add_mul] at e5
      omega
/-- What a rung stands for, in units of 2^-1074. -/
def val (x : Nat) : Nat := if x < fB then x else (fB + x % fB) * 2 ^ (x / fB - 1)
theorem near_val (x : Nat) (hx : x < fI) : near 1074 (val x) = x := by
  unfold val
  by_cases h : x < fB
  · rw [if_pos h]
    by_cases h0 : x = 0
    · subst h0; exact near_zero _
    · rw [near_is _ _ h0]
      have h52 : fB = 2 ^ 52 := by decide
      have hl : x.log2 < 52 := (Nat.log2_lt h0).2 (h52 ▸ h)
      have e : max (-((1074 : Nat) : Int) + x.log2 - 52) (-1074) = -1074 := by omega
      rw [e]
      simp only [Int.reduceNeg, Int.reduceAdd, Int.toNat_zero, Nat.zero_mul, Nat.zero_add]
      have e2 : ((-((1074 : Nat) : Int)) - (-1074)).toNat = 0 := by decide
      have e3 : ((-1074) - (-((1074 : Nat) : Int))).toNat = 0 := by decide
      rw [e2, e3, rne_zero, Nat.pow_zero, Nat.mul_one]
      omega
  · rw [if_neg h]
    have hd : 1 ≤ x / fB := (Nat.le_div_iff_mul_le (by decide)).2 (by omega)
    have hdm := Nat.div_add_mod x fB
    have hmod : x % fB < fB := Nat.mod_lt _ (by decide)
    generalize hq : x / fB = q at *
    generalize hr : x % fB = r at *
    have e0 : (fB + r).log2 = 52 := by
      refine (Nat.log2_eq_iff (by omega)).2 ⟨?_, ?_⟩
      · have : fB = 2 ^ 52 := by decide
        omega
      · have : 2 * fB = 2 ^ (52 + 1) := by decide
        omega
    rw [near_is _ _ (Nat.mul_ne_zero (by omega) (by have := Nat.two_pow_pos (q - 1); omega)), log2_scale _ _ (by omega), e0]
    have e : max (-((1074 : Nat) : Int) + ((52 + (q - 1) : Nat) : Int) - 52) (-1074) = -1074 + ((q - 1 : Nat) : Int) := by omega
    rw [e]
    have e2 : ((-((1074 : Nat) : Int)) - (-1074 + ((q - 1 : Nat) : Int))).toNat = 0 := by omega
    have e3 : ((-1074 + ((q - 1 : Nat) : Int)) - (-((1074 : Nat) : Int))).toNat = q - 1 := by omega
    have e4 : (-1074 + ((q - 1 : Nat) : Int) + 1074).toNat = q - 1 := by omega
    rw [e2, e3, e4, Nat.pow_zero, Nat.mul_one, rne_exact _ _ _ (Nat.le_refl _), Nat.sub_self, Nat.pow_zero, Nat.mul_one]
    have e5 : (q - 1) * fB + (fB + r) = x := by
      obtain ⟨t, ht⟩ : ∃ t, q = t + 1 := ⟨q - 1, by omega⟩
      have e6 : (q - 1) * fB + fB = fB * q := by rw [ht, Nat.add_sub_cancel, Nat.mul_add, Nat.mul_one, Nat.mul_comm]
      omega
    rw [e5]
    omega
theorem val_lt {x y : Nat} (hx : x < fI) (hy : y < fI) : val x < val y ↔ x < y := by
  constructor
  · intro h
    have h1 := near_mono 1074 (Nat.le_of_lt h)
    rw [near_val x hx, near_val y hy] at h1
    rcases Nat.lt_or_ge x y with h2 | h2
    · exact h2
    · have : x = y := by omega
      subst this; omega
  · intro h
    rcases Nat.lt_or_ge (val x) (val y) with h2 | h2
    · exact h2
    · have h1 := near_mono 1074 h2
      rw [near_val x hx, near_val y hy] at h1
      omega
theorem val_le {x y : Nat} (hx : x < fI) (hy : y < fI) : val x ≤ val y ↔ x ≤ y := by
  have := val_lt hy hx
  omega
end Go.Proofs.YtcmiappiocfbiaaGreatDoor
