/- Plain: a number that is put is taken as it was, and no other bytes are taken for it. -/
import Derived.Test.YtijcpmbfhfppmaaGreatDoorTak
namespace Go.Proofs.YtijcpmbfhfppmaaGreatDoor

theorem pow_split (q m s : Nat) : m + q % 128 * 128 ^ s + q / 128 * 128 ^ (s + 1) = m + q * 128 ^ s := by
  have h := Nat.div_add_mod q 128
  have e : q * 128 ^ s = (128 * (q / 128) + q % 128) * 128 ^ s := by rw [h]
  have e2 : q / 128 * 128 ^ (s + 1) = 128 * (q / 128) * 128 ^ s := by rw [Nat.pow_succ, Nat.mul_comm (128 ^ s) 128, ← Nat.mul_assoc, Nat.mul_comm (q / 128) 128]
  rw [e, e2, Nat.add_mul]
  omega
theorem takeF_num (l : List Nat) : ∀ (f s m k q : Nat), (numB q).length ≤ f → (s = 0 ∨ 0 < q) → m + q * 128 ^ s ≤ 1099511627776 → (∀ i, i < (numB q).length → l.getD (k + i) 0 = (numB q).getD i 0) → k + (numB q).length ≤ l.length →
    takeF l f s m k = (0, m + q * 128 ^ s, k + (numB q).length) := by
  intro f
  induction f with
  | zero => intro s m k q hf; have := (numB_length q).1; omega
  | succ f ih =>
    intro s m k q hf h0 hmax hget hlen
    by_cases hq : q < 128
    · rw [numB_small hq] at hf hget hlen ⊢
      have hx : l.getD k 0 = q := by simpa using hget 0 (by simp)
      simp only [List.length_cons, List.length_nil] at hlen ⊢
      rw [takeF_ok f s m hx (by omega) (by omega) (by omega) (by omega)]
    · rw [numB_great hq] at hf hget hlen ⊢
      simp only [List.length_cons] at hf hlen ⊢
      have hx : l.getD k 0 = q % 128 + 128 := by simpa using hget 0 (by simp)
      have h1 := (numB_length (q / 128)).1
      rw [takeF_more f s m hx (by omega) (by omega) (by omega)]
      have e : (q % 128 + 128) % 128 = q % 128 := by omega
      rw [e, ih (s + 1) (m + q % 128 * 128 ^ s) (k + 1) (q / 128) (by omega) (.inr (by omega)) (by rw [pow_split]; exact hmax) ?_ (by omega)]
      · rw [pow_split]
        simp only [Prod.mk.injEq, true_and]
        omega
      · intro i hi
        have := hget (i + 1) (by simp only [List.length_cons]; omega)
        rw [show k + 1 + i = k + (i + 1) by omega, this]
        simp
theorem getD_append_right (a b : List Nat) (i : Nat) : (a ++ b).getD (a.length + i) 0 = b.getD i 0 := by
  rw [List.getD_eq_getElem?_getD, List.getD_eq_getElem?_getD, List.getElem?_append_right (by omega)]
  congr 2
  omega
theorem getD_append_left (a b : List Nat) (i : Nat) (h : i < a.length) : (a ++ b).getD i 0 = a.getD i 0 := by
  rw [List.getD_eq_getElem?_getD, List.getD_eq_getElem?_getD, List.getElem?_append_left h]
theorem numB_six (n : Nat) (h : n ≤ 1099511627776) : (numB n).length ≤ 6 := by
  have key : ∀ (s m : Nat), m < 128 ^ (s + 1) → (numB m).length ≤ s + 1 := by
    intro s
    induction s with
    | zero => intro m hm; rw [numB_small (by simpa using hm)]; simp
    | succ s ih =>
      intro m hm
      by_cases h : m < 128
      · rw [numB_small h]; simp
      · rw [numB_great h, List.length_cons]
        have := ih (m / 128) (by rw [Nat.div_lt_iff_lt_mul (by decide)]; rw [Nat.pow_succ] at hm; exact hm)
        omega
  exact key 5 n (by omega)
/-- A number that is put is taken as it was, whatever stands around it. -/
theorem takeN_num (a b : List Nat) (n : Nat) (h : n ≤ 1099511627776) : takeN (a ++ (numB n ++ b)) a.length = (0, n, a.length + (numB n).length) := by
  have := takeF_num (a ++ (numB n ++ b)) 6 0 0 a.length n (numB_six n h) (.inl rfl) (by simpa using h) (fun i hi => by rw [getD_append_right, getD_append_left _ _ _ hi]) (by simp only [List.length_append]; omega)
  simpa [takeN] using this
/-- A number that is taken has just its bytes there. -/
theorem takeF_back (l : List Nat) (hl : ∀ c ∈ l, c < 256) : ∀ (f s m k n k2 : Nat), takeF l f s m k = (0, n, k2) →
    ∃ q, n = m + q * 128 ^ s ∧ k2 = k + (numB q).length ∧ k2 ≤ l.length ∧ (∀ i, i < (numB q).length → l.getD (k + i) 0 = (numB q).getD i 0) ∧ (0 < s → 0 < q) ∧ n ≤ 1099511627776 := by
  intro f
  induction f with
  | zero => intro s m k n k2 h; simp [takeF] at h
  | succ f ih =>
    intro s m k n k2 h
    rw [takeF] at h
    split at h
    · simp at h
    · next hk =>
      have hx256 : l.getD k 0 < 256 := by
        rw [List.getD_eq_getElem?_getD, List.getElem?_eq_getElem (by omega)]
        exact hl _ (List.getElem_mem _)
      generalize hx : l.getD k 0 = x at *
      split at h
      · next h128 =>
        split at h
        · simp at h
        · obtain ⟨q, h1, h2, h3, h4, h5, h6⟩ := ih _ _ _ _ _ h
          have hq := h5 (by omega)
          refine ⟨128 * q + x % 128, ?_, ?_, h3, ?_, fun _ => by omega, h6⟩
          · rw [h1, ← pow_split (128 * q + x % 128) m s]
            have e1 : (128 * q + x % 128) % 128 = x % 128 := by omega
            have e2 : (128 * q + x % 128) / 128 = q := by omega
            rw [e1, e2]
          · rw [numB_great (by omega), List.length_cons, h2]
            have e2 : (128 * q + x % 128) / 128 = q := by omega
            rw [e2]; omega
          · intro i hi
            have e1 : (128 * q + x % 128) % 128 + 128 = x := by omega
            have e2 : (128 * q + x % 128) / 128 = q := by omega
            have hn : numB (128 * q + x % 128) = x :: numB q := by rw [numB_great (by omega), e1, e2]
            rw [hn] at hi ⊢
            cases i with
            | zero => simpa using hx
            | succ i =>
              rw [List.length_cons] at hi
              rw [show k + (i + 1) = k + 1 + i by omega, h4 i (by omega)]
              simp
      · next h128 =>
        split at h
        · simp at h
        · next h0 =>
          split at h
          · simp at h
          · next hb =>
            simp only [Prod.mk.injEq, true_and] at h
            obtain ⟨rfl, rfl⟩ := h
            refine ⟨x, rfl, by rw [numB_small (by omega)]; simp, by omega, ?_, fun hs => by omega, by omega⟩
            intro i hi
            rw [numB_small (by omega)] at hi ⊢
            simp only [List.length_cons, List.length_nil] at hi
            obtain rfl : i = 0 := by omega
            simpa using hx
end Go.Proofs.YtijcpmbfhfppmaaGreatDoor
