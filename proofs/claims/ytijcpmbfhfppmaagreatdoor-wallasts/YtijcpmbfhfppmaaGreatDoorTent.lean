/- Plain: entries and hard states that are put are got as they were, and no other bytes are taken for them. -/
import Derived.Test.YtijcpmbfhfppmaaGreatDoorTnum
namespace Go.Proofs.YtijcpmbfhfppmaaGreatDoor

theorem takeE_num (a b : List Nat) (n : Nat) (h : n ≤ 1099511627776) : takeE (a ++ (numB n ++ b)) a.length = .ok (n, a.length + (numB n).length) := by
  rw [takeE, takeN_num a b n h]
  rfl
theorem takeE_at {l a b : List Nat} {k n : Nat} (hl : l = a ++ (numB n ++ b)) (hk : k = a.length) (h : n ≤ 1099511627776) : takeE l k = .ok (n, k + (numB n).length) := by
  subst hl hk
  exact takeE_num a b n h
theorem drop_of_getD (l : List Nat) : ∀ (m : List Nat) (k : Nat), k + m.length ≤ l.length → (∀ i, i < m.length → l.getD (k + i) 0 = m.getD i 0) → l.drop k = m ++ l.drop (k + m.length) := by
  intro m
  induction m with
  | nil => intro k _ _; simp
  | cons x r ih =>
    intro k hk hg
    have hlt : k < l.length := by simp only [List.length_cons] at hk; omega
    have h0 := hg 0 (by simp)
    rw [List.drop_eq_getElem_cons hlt, ih (k + 1) (by simp only [List.length_cons] at hk; omega) (fun i hi => by
      have := hg (i + 1) (by simp only [List.length_cons]; omega)
      rw [show k + 1 + i = k + (i + 1) by omega, this]; simp)]
    have e : l[k] = x := by
      rw [Nat.add_zero, List.getD_eq_getElem?_getD, List.getElem?_eq_getElem hlt] at h0
      simpa using h0
    rw [e, List.cons_append, List.length_cons, show k + 1 + r.length = k + (r.length + 1) by omega]
/-- A number that is taken has just its bytes there. -/
theorem takeE_back {l : List Nat} (hl : ∀ c ∈ l, c < 256) {k n k2 : Nat} (h : takeE l k = .ok (n, k2)) : l.drop k = numB n ++ l.drop k2 ∧ k2 = k + (numB n).length ∧ k2 ≤ l.length ∧ n ≤ 1099511627776 := by
  have h0 : takeN l k = (0, n, k2) := by
    unfold takeE at h
    split at h
    · next h1 =>
      simp only [Except.ok.injEq, Prod.mk.injEq] at h
      rw [← h.1, ← h.2, ← h1]
    · cases h
  obtain ⟨q, h1, h2, h3, h4, _, h6⟩ := takeF_back l hl 6 0 0 k n k2 h0
  obtain rfl : n = q := by simpa using h1
  refine ⟨?_, h2, h3, h6⟩
  rw [drop_of_getD l (numB n) k (by omega) h4, h2]
/-- The bytes of an entry. -/
def entB' (k t i : Nat) (d : List Nat) : List Nat := k :: (numB t ++ (numB i ++ (numB d.length ++ d)))
theorem oneE_at {l a b : List Nat} {k x lo hi : Nat} (hl : l = a ++ x :: b) (hk : k = a.length) (h : lo ≤ x ∧ x ≤ hi) : oneE l lo hi k = .ok (x, k + 1) := by
  subst hl hk
  have e : (a ++ x :: b).getD a.length 0 = x := by simp
  rw [oneE, if_pos (by simp), e, if_pos h]
theorem dataE_at {l a d b : List Nat} {k n : Nat} (hl : l = a ++ (d ++ b)) (hk : k = a.length) (hn : n = d.length) : dataE l n k = .ok (d, k + d.length) := by
  subst hl hk hn
  rw [dataE, if_neg (by simp only [List.length_append]; omega), List.drop_left, List.take_left]
/-- May an entry be, as numbers? -/
def EntOk (k t i : Nat) (d : List Nat) : Prop := (1 ≤ k ∧ k ≤ 3) ∧ (1 ≤ t ∧ t ≤ 1099511627776) ∧ (1 ≤ i ∧ i ≤ 1099511627776) ∧ (k = 1 → d = []) ∧ d.length ≤ 2048
theorem posE_at {l a b : List Nat} {k n : Nat} (hl : l = a ++ (numB n ++ b)) (hk : k = a.length) (h : 1 ≤ n ∧ n ≤ 1099511627776) : posE l k = .ok (n, k + (numB n).length) := by
  rw [posE, takeE_at hl hk h.2]
  simp only [if_neg (show ¬ n = 0 by omega)]
theorem sizeE_at {l a b : List Nat} {kd k n : Nat} (hl : l = a ++ (numB n ++ b)) (hk : k = a.length) (h : n ≤ 2048) (h1 : kd = 1 → n = 0) : sizeE l kd k = .ok (n, k + (numB n).length) := by
  rw [sizeE, takeE_at hl hk (by omega)]
  simp only [if_neg (show ¬ (kd = 1 ∧ 0 < n) from fun h => by have := h1 h.1; omega), if_neg (show ¬ 2048 < n by omega)]
theorem entryE_at {l a b : List Nat} {k kd t i : Nat} {d : List Nat} (hl : l = a ++ (entB' kd t i d ++ b)) (hk : k = a.length) (h : EntOk kd t i d) : entryE l k = .ok ((kd, t, i, d), k + (entB' kd t i d).length) := by
  obtain ⟨h1, h2, h3, h4, h5⟩ := h
  have e1 : l = a ++ kd :: (numB t ++ (numB i ++ (numB d.length ++ (d ++ b)))) := by rw [hl]; simp [entB', List.append_assoc]
  have e2 : l = (a ++ [kd]) ++ (numB t ++ (numB i ++ (numB d.length ++ (d ++ b)))) := by rw [e1]; simp
  have e3 : l = (a ++ [kd] ++ numB t) ++ (numB i ++ (numB d.length ++ (d ++ b))) := by rw [e2]; simp
  have e4 : l = (a ++ [kd] ++ numB t ++ numB i) ++ (numB d.length ++ (d ++ b)) := by rw [e3]; simp
  have e5 : l = (a ++ [kd] ++ numB t ++ numB i ++ numB d.length) ++ (d ++ b) := by rw [e4]; simp
  rw [entryE, oneE_at e1 hk h1]
  simp only [posE_at e2 (show k + 1 = _ by rw [hk]; simp only [List.length_append, List.length_cons, List.length_nil]) h2]
  simp only [posE_at e3 (show k + 1 + (numB t).length = _ by rw [hk]; simp only [List.length_append, List.length_cons, List.length_nil]) h3]
  simp only [sizeE_at e4 (show k + 1 + (numB t).length + (numB i).length = _ by rw [hk]; simp only [List.length_append, List.length_cons, List.length_nil]) h5 (fun e => by rw [h4 e]; rfl)]
  simp only [dataE_at e5 (show k + 1 + (numB t).length + (numB i).length + (numB d.length).length = _ by rw [hk]; simp only [List.length_append, List.length_cons, List.length_nil]) rfl]
  congr 2
  simp only [entB', List.length_cons, List.length_append]
  omega
theorem posE_back {l : List Nat} (hl : ∀ c ∈ l, c < 256) {k n k2 : Nat} (h : posE l k = .ok (n, k2)) : l.drop k = numB n ++ l.drop k2 ∧ k2 = k + (numB n).length ∧ k2 ≤ l.length ∧ 1 ≤ n ∧ n ≤ 1099511627776 := by
  unfold posE at h
  split at h
  · cases h
  · next h1 =>
    split at h
    · cases h
    · simp only [Except.ok.injEq, Prod.mk.injEq] at h
      obtain ⟨rfl, rfl⟩ := h
      obtain ⟨a1, a2, a3, a4⟩ := takeE_back hl h1
      exact ⟨a1, a2, a3, by omega, a4⟩
theorem sizeE_back {l : List Nat} (hl : ∀ c ∈ l, c < 256) {kd k n k2 : Nat} (h : sizeE l kd k = .ok (n, k2)) : l.drop k = numB n ++ l.drop k2 ∧ k2 = k + (numB n).length ∧ k2 ≤ l.length ∧ n ≤ 2048 ∧ (kd = 1 → n = 0) := by
  unfold sizeE at h
  split at h
  · cases h
  · next h1 =>
    split at h
    · cases h
    · split at h
      · cases h
      · simp only [Except.ok.injEq, Prod.mk.injEq] at h
        obtain ⟨rfl, rfl⟩ := h
        obtain ⟨a1, a2, a3, a4⟩ := takeE_back hl h1
        exact ⟨a1, a2, a3, by omega, fun e => by omega⟩
theorem dataE_back {l : List Nat} {n k k2 : Nat} {d : List Nat} (hk : k ≤ l.length) (h : dataE l n k = .ok (d, k2)) : l.drop k = d ++ l.drop k2 ∧ k2 = k + d.length ∧ k2 ≤ l.length ∧ d.length = n := by
  unfold dataE at h
  split at h
  · cases h
  · simp only [Except.ok.injEq, Prod.mk.injEq] at h
    obtain ⟨rfl, rfl⟩ := h
    have hlen : ((l.drop k).take n).length = n := by rw [List.length_take, List.length_drop]; omega
    refine ⟨?_, by rw [hlen], by omega, hlen⟩
    rw [← List.drop_drop, List.take_append_drop]
theorem oneE_back {l : List Nat} {lo hi k x k2 : Nat} (h : oneE l lo hi k = .ok (x, k2)) : l.drop k = x :: l.drop k2 ∧ k2 = k + 1 ∧ k2 ≤ l.length ∧ lo ≤ x ∧ x ≤ hi := by
  unfold oneE at h
  split at h
  · next hk =>
    split at h
    · next h1 =>
      simp only [Except.ok.injEq, Prod.mk.injEq] at h
      obtain ⟨rfl, rfl⟩ := h
      refine ⟨?_, rfl, hk, h1⟩
      rw [List.drop_eq_getElem_cons hk, List.getD_eq_getElem?_getD, List.getElem?_eq_getElem hk]
      rfl
    · cases h
  · cases h
theorem entryE_back {l : List Nat} (hl : ∀ c ∈ l, c < 256) {k kd t i k2 : Nat} {d : List Nat} (h : entryE l k = .ok ((kd, t, i, d), k2)) : l.drop k = entB' kd t i d ++ l.drop k2 ∧ k2 = k + (entB' kd t i d).length ∧ k2 ≤ l.length ∧ EntOk kd t i d := by
  unfold entryE at h
  split at h
  · cases h
  · next h1 =>
    split at h
    · cases h
    · next h2 =>
      split at h
      · cases h
      · next h3 =>
        split at h
        · cases h
        · next h4 =>
          split at h
          · cases h
          · next h5 =>
            simp only [Except.ok.injEq, Prod.mk.injEq] at h
            obtain ⟨⟨rfl, rfl, rfl, rfl⟩, rfl⟩ := h
            obtain ⟨a1, a2, a3, a4, a5⟩ := oneE_back h1
            obtain ⟨b1, b2, b3, b4, b5⟩ := posE_back hl h2
            obtain ⟨c1, c2, c3, c4, c5⟩ := posE_back hl h3
            obtain ⟨d1, d2, d3, d4, d5⟩ := sizeE_back hl h4
            obtain ⟨e1, e2, e3, e4⟩ := dataE_back d3 h5
            refine ⟨?_, ?_, e3, ⟨a4, a5⟩, ⟨b4, b5⟩, ⟨c4, c5⟩, fun e => List.eq_nil_of_length_eq_zero (by rw [e4]; exact d5 e), by omega⟩
            · rw [a1, b1, c1, d1, e1]; simp [entB', e4, List.append_assoc]
            · simp only [entB', List.length_cons, List.length_append, e4]; omega
theorem wholeE_ok {α : Type} {l : List Nat} {r : Except Nat (α × Nat)} {x : α} (h : wholeE l r = .ok x) : ∃ k, r = .ok (x, k) ∧ ¬ k < l.length := by
  unfold wholeE at h
  split at h
  · cases h
  · split at h
    · cases h
    · cases h; exact ⟨_, rfl, by assumption⟩
/-- An entry that is put is got as it was. -/
theorem entry_got {kd t i : Nat} {d : List Nat} (h : EntOk kd t i d) : wholeE (entB' kd t i d) (entryE (entB' kd t i d) 0) = .ok (kd, t, i, d) := by
  rw [entryE_at (l := entB' kd t i d) (a := []) (b := []) (k := 0) (by simp) rfl h]
  simp only [wholeE, Nat.zero_add, if_neg (Nat.lt_irrefl _)]
/-- Bytes that are taken for an entry are just its bytes. -/
theorem entry_back {l : List Nat} (hl : ∀ c ∈ l, c < 256) {kd t i : Nat} {d : List Nat} (h : wholeE l (entryE l 0) = .ok (kd, t, i, d)) : l = entB' kd t i d ∧ EntOk kd t i d := by
  obtain ⟨k, h1, h2⟩ := wholeE_ok h
  obtain ⟨a1, a2, a3, a4⟩ := entryE_back hl h1
  rw [List.drop_zero, List.drop_eq_nil_of_le (by omega), List.append_nil] at a1
  exact ⟨a1, a4⟩
theorem hard_got {t v : Nat} (ht : t ≤ 1099511627776) (hv : v ≤ 9) : wholeE (numB t ++ numB v) (hardE (numB t ++ numB v) 0) = .ok (t, v) := by
  have e1 : numB t ++ numB v = [] ++ (numB t ++ numB v) := by simp
  have e2 : numB t ++ numB v = numB t ++ (numB v ++ []) := by simp
  rw [hardE, takeE_at (k := 0) e1 rfl ht]
  simp only [takeE_at e2 (show 0 + (numB t).length = _ by omega) (by omega), if_neg (show ¬ 9 < v by omega)]
  simp only [wholeE, List.length_append, Nat.zero_add, if_neg (Nat.lt_irrefl _)]
end Go.Proofs.YtijcpmbfhfppmaaGreatDoor
