/- Member: there and back, in plain terms. -/
import Derived.Test.YtnclkkoefejjiaaMg2
namespace Go.Proofs.Ytnclkkoefejjiaa

theorem nums_at : ∀ (xs : List Int) {l a b : List Nat} {k : Nat}, l = a ++ (xs.map Int.toNat ++ b) → k = a.length → (∀ x ∈ xs, 0 ≤ x ∧ x ≤ 100) → numsE l xs.length k = .ok (xs, k + xs.length)
  | [], l, a, b, k, _, _, _ => rfl
  | x :: r, l, a, b, k, hl, hk, hx => by
    obtain ⟨h0, h1⟩ := hx x List.mem_cons_self
    have hn : numB x.toNat = [x.toNat] := numB_small (by omega)
    have ht : takeE l k = .ok (x.toNat, k + 1) := by
      have := takeE_at (l := l) (a := a) (b := r.map Int.toNat ++ b) (k := k) (n := x.toNat) (by rw [hl, hn]; simp) hk (by omega)
      rwa [hn] at this
    have ih := nums_at r (l := l) (a := a ++ [x.toNat]) (b := b) (k := k + 1) (by rw [hl]; simp) (by rw [hk]; simp) (fun y hy => hx y (List.mem_cons_of_mem _ hy))
    rw [List.length_cons, numsE, ht]
    simp only
    rw [ih]
    simp only [Except.ok.injEq, Prod.mk.injEq, List.cons.injEq, and_true]
    omega
theorem list_at (xs : List Int) {l a b : List Nat} {k : Nat} (hl : l = a ++ (listB xs ++ b)) (hk : k = a.length) (hx : ∀ x ∈ xs, 0 ≤ x ∧ x ≤ 100) (h9 : xs.length ≤ 9) : listE l k = .ok (xs, k + 1 + xs.length) := by
  have hn : numB xs.length = [xs.length] := numB_small (by omega)
  have ht : takeE l k = .ok (xs.length, k + 1) := by
    have := takeE_at (l := l) (a := a) (b := xs.map Int.toNat ++ b) (k := k) (n := xs.length) (by rw [hl, hn]; simp [listB]) hk (by omega)
    rwa [hn] at this
  rw [listE, ht]
  simp only
  rw [if_neg (by omega)]
  exact nums_at xs (a := a ++ [xs.length]) (b := b) (by rw [hl]; simp [listB]) (by rw [hk]; simp) hx
theorem right_in {v l : List Int} (h : rightM v l = true) : (∀ x ∈ v, 0 ≤ x ∧ x ≤ 100) ∧ (∀ x ∈ l, 0 ≤ x ∧ x ≤ 100) := by
  obtain ⟨h1, h2, _⟩ := right_parts h
  exact ⟨fun x hx => by have := rise_in v 0 (by omega) h1 x hx; omega, fun x hx => by have := rise_in l 0 (by omega) h2 x hx; omega⟩
theorem get_at {v l : List Int} (h : rightM v l = true) : getE (listB v ++ listB l) = .ok (v, l) := by
  obtain ⟨_, _, v9, l9, _⟩ := right_parts h
  obtain ⟨iv, il⟩ := right_in h
  have e1 := list_at v (l := listB v ++ listB l) (a := []) (b := listB l) (k := 0) (by simp) rfl iv v9
  have e2 := list_at l (l := listB v ++ listB l) (a := listB v) (b := []) (k := 0 + 1 + v.length) (by simp) (by simp [listB]; omega) il l9
  rw [getE, e1]
  simp only
  rw [e2]
  simp only
  rw [if_pos (by simp [listB]; omega), h]
  rfl
theorem getC_at {d n : Int} (h : mayM d n = true) : getCE [d.toNat, n.toNat] = .ok (d, n) := by
  obtain ⟨⟨h1, h2⟩, h3, h4⟩ := may_parts h
  have e1 := nums_at [d, n] (l := [d.toNat, n.toNat]) (a := []) (b := []) (k := 0) (by simp) rfl (by simp; omega)
  rw [getCE, show (2 : Nat) = [d, n].length from rfl, e1]
  simp [h]
def flatB (xs : List Int) : List Nat := xs.flatMap fun x => numB x.toNat
theorem nums_back {l : List Nat} (hl : ∀ c ∈ l, c < 256) : ∀ {c k : Nat} {xs : List Int} {q : Nat}, numsE l c k = .ok (xs, q) → l.drop k = flatB xs ++ l.drop q
  | 0, k, xs, q, h => by
    simp only [numsE, Except.ok.injEq, Prod.mk.injEq] at h
    rw [← h.1, ← h.2]
    rfl
  | c + 1, k, xs, q, h => by
    rw [numsE] at h
    cases ht : takeE l k with
    | error x => rw [ht] at h; cases h
    | ok r =>
      obtain ⟨n, k2⟩ := r
      rw [ht] at h
      simp only at h
      cases hn : numsE l c k2 with
      | error x => rw [hn] at h; cases h
      | ok s =>
        obtain ⟨s, k3⟩ := s
        rw [hn] at h
        simp only [Except.ok.injEq, Prod.mk.injEq] at h
        obtain ⟨rfl, rfl⟩ := h
        rw [(takeE_back hl ht).1, nums_back hl hn]
        simp [flatB]
theorem list_back {l : List Nat} (hl : ∀ c ∈ l, c < 256) {k : Nat} {xs : List Int} {q : Nat} (h : listE l k = .ok (xs, q)) : l.drop k = numB xs.length ++ (flatB xs ++ l.drop q) ∧ xs.length ≤ 9 := by
  rw [listE] at h
  cases ht : takeE l k with
  | error x => rw [ht] at h; cases h
  | ok r =>
    obtain ⟨n, k2⟩ := r
    rw [ht] at h
    simp only at h
    by_cases h9 : 9 < n
    · rw [if_pos h9] at h; cases h
    · rw [if_neg h9] at h
      rw [(takeE_back hl ht).1, nums_back hl h, nums_len_eq h]
      exact ⟨rfl, by omega⟩
theorem flat_small {xs : List Int} (h : ∀ x ∈ xs, 0 ≤ x ∧ x ≤ 100) : flatB xs = xs.map Int.toNat := by
  induction xs with
  | nil => rfl
  | cons x r ih =>
    have hx := h x List.mem_cons_self
    have ih' := ih (fun y hy => h y (List.mem_cons_of_mem _ hy))
    unfold flatB at *
    rw [List.flatMap_cons, ih', numB_small (by omega)]
    rfl
theorem get_back {b : List Nat} (hb : ∀ c ∈ b, c < 256) {v l : List Int} (h : getE b = .ok (v, l)) : rightM v l = true ∧ listB v ++ listB l = b := by
  rw [getE] at h
  cases h1 : listE b 0 with
  | error x => rw [h1] at h; cases h
  | ok r =>
    obtain ⟨v', k⟩ := r
    rw [h1] at h
    simp only at h
    cases h2 : listE b k with
    | error x => rw [h2] at h; cases h
    | ok s =>
      obtain ⟨l', q⟩ := s
      rw [h2] at h
      simp only at h
      by_cases hq : q = b.length
      · rw [if_pos hq] at h
        cases hr : rightM v' l' with
        | false => rw [hr] at h; cases h
        | true =>
          rw [hr] at h
          simp only [if_true, Except.ok.injEq, Prod.mk.injEq] at h
          obtain ⟨rfl, rfl⟩ := h
          refine ⟨hr, ?_⟩
          obtain ⟨e1, n1⟩ := list_back hb h1
          obtain ⟨e2, n2⟩ := list_back hb h2
          obtain ⟨iv, il⟩ := right_in hr
          rw [List.drop_zero, e2, hq, List.drop_length, List.append_nil, flat_small iv, flat_small il, numB_small (by omega), numB_small (by omega)] at e1
          rw [e1]
          simp [listB]
      · rw [if_neg hq] at h; cases h
end Go.Proofs.Ytnclkkoefejjiaa
