/- Floats: draws of any bits; sums of weights that were made smaller. -/
import Derived.Test.YtcmiappiocfbiaaGreatDoorFlo2
namespace Go.Proofs.YtcmiappiocfbiaaGreatDoor
open Ieee

theorem read_neg (d : Nat) (h1 : 9223372036854775808 ≤ d) (h2 : d < 18446744073709551616) : (∃ m p, double.read d = .number true m p ∧ (m = 0 ↔ d = 9223372036854775808)) ∨ double.read d = .infinity true ∨ ∃ f, double.read d = .nan true f := by
  unfold Format.read
  simp only [sign_is, binade_is, infRung_is, leastPlace_is]
  have h3 : d / 9223372036854775808 = 1 := by omega
  rw [h3]
  show (∃ m p, (if d % 9223372036854775808 < fB then Datum.number true (d % 9223372036854775808) (-1074) else if d % 9223372036854775808 < fI then Datum.number true (fB + d % 9223372036854775808 % fB) (-1074 + ((d % 9223372036854775808 / fB - 1 : Nat) : Int)) else if d % 9223372036854775808 = fI then Datum.infinity true else Datum.nan true (d % 9223372036854775808 - fI)) = Datum.number true m p ∧ (m = 0 ↔ d = 9223372036854775808)) ∨ _ ∨ _
  split
  · exact .inl ⟨_, _, rfl, by omega⟩
  · rename_i hb
    split
    · refine .inl ⟨_, _, rfl, ?_⟩
      simp only [fB] at hb ⊢
      omega
    · split
      · exact .inr (.inl rfl)
      · exact .inr (.inr ⟨_, rfl⟩)
theorem read_nan (d : Nat) (h1 : fI < d) (h2 : d < 9223372036854775808) : ∃ f, double.read d = .nan false f := by
  rw [read_is d h2, if_neg (by simp only [fB, fI] at h1 ⊢; omega), if_neg (by omega), if_neg (by omega)]
  exact ⟨_, rfl⟩
theorem read_pos (y : Nat) (hy : y ≤ fI) : (∃ n q, double.read y = .number false n q ∧ (n = 0 ↔ y = 0)) ∨ (double.read y = .infinity false ∧ y = fI) := by
  by_cases h : y = fI
  · exact .inr ⟨by rw [h]; exact read_inf, h⟩
  · obtain ⟨m, i, e, v⟩ := read_val y (by omega)
    refine .inl ⟨m, _, e, ?_⟩
    constructor
    · rintro rfl
      rw [Nat.zero_mul] at v
      rcases Nat.eq_zero_or_pos y with h0 | h0
      · exact h0
      · have := (val_lt (x := 0) (y := y) (by decide) (by omega)).2 h0
        omega
    · rintro rfl
      have : val 0 = 0 := by decide
      rw [this] at v
      rcases Nat.eq_zero_or_pos m with h0 | h0
      · exact h0
      · have := Nat.mul_pos h0 (Nat.two_pow_pos i)
        omega
theorem signed_neg (m k : Nat) : signed true m k = -((m * 2 ^ k : Nat) : Int) := by simp [signed, Nat.shiftLeft_eq]
/-- What is below 0, or no number, is neither above nor as great as what is above 0. -/
theorem order_big (d y : Nat) (h1 : fI < d) (h2 : d < 18446744073709551616) (hy : y ≤ fI) : (double.order d y == some Ordering.gt) = false ∧ (double.order d y == some Ordering.eq) = decide (d = 9223372036854775808 ∧ y = 0) := by
  unfold Format.order
  by_cases h63 : d < 9223372036854775808
  · obtain ⟨f, e⟩ := read_nan d h1 h63
    rw [e, decide_eq_false (by omega)]
    exact ⟨rfl, rfl⟩
  · rcases read_neg d (by omega) h2 with ⟨m, p, e, hm⟩ | e | ⟨f, e⟩
    · rw [e]
      rcases read_pos y hy with ⟨n, q, e2, hn⟩ | ⟨e2, hy2⟩
      · rw [e2]
        simp only [Datum.order, signed_neg, signed_pos]
        have a1 := Nat.two_pow_pos (p - min p q).toNat
        have a2 := Nat.two_pow_pos (q - min p q).toNat
        generalize (p - min p q).toNat = u at *
        generalize (q - min p q).toNat = v at *
        have z1 : m * 2 ^ u = 0 ↔ m = 0 := by rw [Nat.mul_eq_zero]; omega
        have z2 : n * 2 ^ v = 0 ↔ n = 0 := by rw [Nat.mul_eq_zero]; omega
        generalize m * 2 ^ u = M at *
        generalize n * 2 ^ v = K at *
        by_cases h0 : M = 0 ∧ K = 0
        · rw [h0.1, h0.2, decide_eq_true ⟨hm.1 (z1.1 h0.1), hn.1 (z2.1 h0.2)⟩]
          exact ⟨rfl, rfl⟩
        · have hlt : compare (-((M : Nat) : Int)) ((K : Nat) : Int) = Ordering.lt := Int.compare_eq_lt.2 (by omega)
          rw [hlt, decide_eq_false (fun q => h0 ⟨z1.2 (hm.2 q.1), z2.2 (hn.2 q.2)⟩)]
          exact ⟨rfl, rfl⟩
      · rw [e2, decide_eq_false (by rintro ⟨_, h⟩; rw [h] at hy2; exact absurd hy2 (by decide))]
        exact ⟨rfl, rfl⟩
    · rw [e]
      have hd : ¬ d = 9223372036854775808 := by
        rintro rfl
        exact absurd e (by decide)
      rw [decide_eq_false (fun q => hd q.1)]
      rcases read_pos y hy with ⟨n, q, e2, _⟩ | ⟨e2, _⟩
      · rw [e2]; exact ⟨rfl, rfl⟩
      · rw [e2]; exact ⟨rfl, rfl⟩
    · have hd : ¬ d = 9223372036854775808 := by
        rintro rfl
        have r : double.read 9223372036854775808 = .number true 0 (-1074) := by decide
        rw [r] at e
        cases e
      rw [e, decide_eq_false (fun q => hd q.1)]
      rcases read_pos y hy with ⟨n, q, e2, _⟩ | ⟨e2, _⟩
      · rw [e2]; exact ⟨rfl, rfl⟩
      · rw [e2]; exact ⟨rfl, rfl⟩
theorem ge_is (d y : Nat) (hd : d < 18446744073709551616) (hy : y ≤ fI) (h0 : 0 < y) : (double.order d y == some Ordering.gt || double.order d y == some Ordering.eq) = decide (y ≤ d ∧ d ≤ fI) := by
  by_cases h : d ≤ fI
  · rw [order_is h hy]
    rcases Nat.lt_trichotomy d y with h1 | h1 | h1
    · rw [Nat.compare_eq_lt.2 h1, decide_eq_false (by omega)]; rfl
    · rw [Nat.compare_eq_eq.2 h1, decide_eq_true (by omega)]; rfl
    · rw [Nat.compare_eq_gt.2 h1, decide_eq_true (by omega)]; rfl
  · obtain ⟨a, b⟩ := order_big d y (by omega) hd hy
    rw [a, b, decide_eq_false (by omega), decide_eq_false (by omega)]; rfl
theorem ge0_is (d : Nat) (hd : d < 18446744073709551616) : (double.order d 0 == some Ordering.gt || double.order d 0 == some Ordering.eq) = decide (d ≤ fI ∨ d = 9223372036854775808) := by
  by_cases h : d ≤ fI
  · rw [order_is h (by decide), decide_eq_true (.inl h)]
    rcases Nat.eq_zero_or_pos d with h1 | h1
    · rw [Nat.compare_eq_eq.2 h1]; rfl
    · rw [Nat.compare_eq_gt.2 h1]; rfl
  · obtain ⟨a, b⟩ := order_big d 0 (by omega) hd (by decide)
    rw [a, b]
    by_cases h1 : d = 9223372036854775808
    · rw [decide_eq_true ⟨h1, rfl⟩, decide_eq_true (.inr h1)]; rfl
    · rw [decide_eq_false (fun q => h1 q.1), decide_eq_false (by omega)]; rfl
theorem mul_neg0 (s : Nat) (hs : s < fI) : double.mul 9223372036854775808 s = some 9223372036854775808 := by
  have r : double.read 9223372036854775808 = .number true 0 (-1074) := by decide
  obtain ⟨m, i, e, _⟩ := read_val s hs
  unfold Format.mul
  rw [r, e]
  simp only [Datum.product, Option.map_some, Nat.zero_mul]
  unfold Format.write Format.nearest
  simp only [if_true]
  decide
theorem lt_neg0 (y : Nat) (hy : y ≤ fI) : (double.order 9223372036854775808 y == some Ordering.lt) = decide (0 < y) := by
  have r : double.read 9223372036854775808 = .number true 0 (-1074) := by decide
  unfold Format.order
  rw [r]
  rcases read_pos y hy with ⟨n, q, e2, hn⟩ | ⟨e2, hy2⟩
  · rw [e2]
    simp only [Datum.order, signed_neg, signed_pos, Nat.zero_mul]
    have a2 := Nat.two_pow_pos (q - min (-1074) q).toNat
    have z2 : n * 2 ^ (q - min (-1074) q).toNat = 0 ↔ n = 0 := by rw [Nat.mul_eq_zero]; omega
    generalize n * 2 ^ (q - min (-1074) q).toNat = K at *
    by_cases h0 : 0 < y
    · have : compare (-((0 : Nat) : Int)) ((K : Nat) : Int) = Ordering.lt := by
        have hK : ¬ K = 0 := fun e => by
          have := hn.1 (z2.1 e)
          omega
        exact Int.compare_eq_lt.2 (by omega)
      rw [this, decide_eq_true h0]; rfl
    · have : compare (-((0 : Nat) : Int)) ((K : Nat) : Int) = Ordering.eq := by
        have hK : K = 0 := z2.2 (hn.2 (by omega))
        exact Int.compare_eq_eq.2 (by omega)
      rw [this, decide_eq_false h0]; rfl
  · rw [e2, decide_eq_true (by rw [hy2]; decide)]; rfl
end Go.Proofs.YtcmiappiocfbiaaGreatDoor
