/- Plain: a number that is put is taken as it was, and no other bytes are taken for it. -/
import Derived.Test.YtagncghpfdjkmaaGreatDoorB12
import Derived.Test.YtagncghpfdjkmaaGreatDoorB13
section
namespace Go.Proofs.YtagncghpfdjkmaaGreatDoor

theorem pow_split (q m s : Nat) : m + q % 128 * 128 ^ s + q / 128 * 128 ^ (s + 1) = m + q * 128 ^ s := by
  have h := Nat.div_add_mod q 128
  have e : q * 128 ^ s = (128 * (q / 128) + q % 128) * 128 ^ s := by rw [h]
  have e2 : q / 128 * 128 ^ (s + 1) = 128 * (q / 128) * 128 ^ s := by rw [Nat.pow_succ, Nat.mul_comm (128 ^ s) 128, ← Nat.mul_assoc, Nat.mul_comm (q / 128) 128]
  rw [e, e2, Nat.add_mul]
  omega
theorem takeF_num (l : List Nat) : ∀ (f s m k q : Nat), (numB q).length ≤ f → (s = 0 ∨ 0 < q) → m + q * 128 ^ s ≤ 1099511627776 → (∀ i, i < (numB q).length → l.getD (k + i) 0 = (numB q).getD i 0) → k + (numB q).length ≤ l.length →
    takeF l f s m k = (0, m + q * 128 ^ s, k + (numB q).length) := by
  intro f
  induction f with
  | zero => intro s m k q hf; have := (numB_length q).1; omega
  | succ f ih =>
    intro s m k q hf h0 hmax hget hlen
    by_cases hq : q < 128
    · rw [numB_small hq] at hf hget hlen ⊢
      have hx : l.getD k 0 = q := by simpa using hget 0 (by simp)
      simp only [List.length_cons, List.length_nil] at hlen ⊢
      rw [takeF_ok f s m hx (by omega) (by omega) (by omega) (by omega)]
    · rw [numB_great hq] at hf hget hlen ⊢
      simp only [List.length_cons] at hf hlen ⊢
      have hx : l.getD k 0 = q % 128 + 128 := by simpa using hget 0 (by simp)
      have h1 := (numB_length (q / 128)).1
      rw [takeF_more f s m hx (by omega) (by omega) (by omega)]
      have e : (q % 128 + 128) % 128 = q % 128 := by omega
      rw [e, ih (s + 1) (m + q % 128 * 128 ^ s) (k + 1) (q / 128) (by omega) (.inr (by omega)) (by rw [pow_split]; exact hmax) ?_ (by omega)]
      · rw [pow_split]
        simp only [Prod.mk.injEq, true_and]
        omega
      · intro i hi
        have := hget (i + 1) (by simp only [List.length_cons]; omega)
        rw [show k + 1 + i = k + (i + 1) by omega, this]
        simp
theorem getD_append_right (a b : List Nat) (i : Nat) : (a ++ b).getD (a.length + i) 0 = b.getD i 0 := by
  rw [List.getD_eq_getElem?_getD, List.getD_eq_getElem?_getD, List.getElem?_append_right (by omega)]
  congr 2
  omega
theorem getD_append_left (a b : List Nat) (i : Nat) (h : i < a.length) : (a ++ b).getD i 0 = a.getD i 0 := by
  rw [List.getD_eq_getElem?_getD, List.getD_eq_getElem?_getD, List.getElem?_append_left h]
theorem numB_six (n : Nat) (h : n ≤ 1099511627776) : (numB n).length ≤ 6 := by
  have key : ∀ (s m : Nat), m < 128 ^ (s + 1) → (numB m).length ≤ s + 1 := by
    intro s
    induction s with
    | zero => intro m hm; rw [numB_small (by simpa using hm)]; simp
    | succ s ih =>
      intro m hm
      by_cases h : m < 128
      · rw [numB_small h]; simp
      · rw [numB_great h, List.length_cons]
        have := ih (m / 128) (by rw [Nat.div_lt_iff_lt_mul (by decide)]; rw [Nat.pow_succ] at hm; exact hm)
        omega
  exact key 5 n (by omega)
/-- A number that is put is taken as it was, whatever stands around it. -/
theorem takeN_num (a b : List Nat) (n : Nat) (h : n ≤ 1099511627776) : takeN (a ++ (numB n ++ b)) a.length = (0, n, a.length + (numB n).length) := by
  have := takeF_num (a ++ (numB n ++ b)) 6 0 0 a.length n (numB_six n h) (.inl rfl) (by simpa using h) (fun i hi => by rw [getD_append_right, getD_append_left _ _ _ hi]) (by simp only [List.length_append]; omega)
  simpa [takeN] using this
/-- A number that is taken has just its bytes there. -/
theorem takeF_back (l : List Nat) (hl : ∀ c ∈ l, c < 256) : ∀ (f s m k n k2 : Nat), takeF l f s m k = (0, n, k2) →
    ∃ q, n = m + q * 128 ^ s ∧ k2 = k + (numB q).length ∧ k2 ≤ l.length ∧ (∀ i, i < (numB q).length → l.getD (k + i) 0 = (numB q).getD i 0) ∧ (0 < s → 0 < q) ∧ n ≤ 1099511627776 := by
  intro f
  induction f with
  | zero => intro s m k n k2 h; simp [takeF] at h
  | succ f ih =>
    intro s m k n k2 h
    rw [takeF] at h
    split at h
    · simp at h
    · next hk =>
      have hx256 : l.getD k 0 < 256 := by
        rw [List.getD_eq_getElem?_getD, List.getElem?_eq_getElem (by omega)]
        exact hl _ (List.getElem_mem _)
      generalize hx : l.getD k 0 = x at *
      split at h
      · next h128 =>
        split at h
        · simp at h
        · obtain ⟨q, h1, h2, h3, h4, h5, h6⟩ := ih _ _ _ _ _ h
          have hq := h5 (by omega)
          refine ⟨128 * q + x % 128, ?_, ?_, h3, ?_, fun _ => by omega, h6⟩
          · rw [h1, ← pow_split (128 * q + x % 128) m s]
            have e1 : (128 * q + x % 128) % 128 = x % 128 := by omega
            have e2 : (128 * q + x % 128) / 128 = q := by omega
            rw [e1, e2]
          · rw [numB_great (by omega), List.length_cons, h2]
            have e2 : (128 * q + x % 128) / 128 = q := by omega
            rw [e2]; omega
          · intro i hi
            have e1 : (128 * q + x % 128) % 128 + 128 = x := by omega
            have e2 : (128 * q + x % 128) / 128 = q := by omega
            have hn : numB (128 * q + x % 128) = x :: numB q := by rw [numB_great (by omega), e1, e2]
            rw [hn] at hi ⊢
            cases i with
            | zero => simpa using hx
            | succ i =>
              rw [List.length_cons] at hi
              rw [show k + (i + 1) = k + 1 + i by omega, h4 i (by omega)]
              simp
      · next h128 =>
        split at h
        · simp at h
        · next h0 =>
          split at h
          · simp at h
          · next hb =>
            simp only [Prod.mk.injEq, true_and] at h
            obtain ⟨rfl, rfl⟩ := h
            refine ⟨x, rfl, by rw [numB_small (by omega)]; simp, by omega, ?_, fun hs => by omega, by omega⟩
            intro i hi
            rw [numB_small (by omega)] at hi ⊢
            simp only [List.length_cons, List.length_nil] at hi
            obtain rfl : i = 0 := by omega
            simpa using hx
end Go.Proofs.YtagncghpfdjkmaaGreatDoor
end
/- Plain: entries and hard states that are put are got as they were, and no other bytes are taken for them. -/
section
namespace Go.Proofs.YtagncghpfdjkmaaGreatDoor

theorem takeE_num (a b : List Nat) (n : Nat) (h : n ≤ 1099511627776) : takeE (a ++ (numB n ++ b)) a.length = .ok (n, a.length + (numB n).length) := by
  rw [takeE, takeN_num a b n h]
  rfl
theorem takeE_at {l a b : List Nat} {k n : Nat} (hl : l = a ++ (numB n ++ b)) (hk : k = a.length) (h : n ≤ 1099511627776) : takeE l k = .ok (n, k + (numB n).length) := by
  subst hl hk
  exact takeE_num a b n h
theorem drop_of_getD (l : List Nat) : ∀ (m : List Nat) (k : Nat), k + m.length ≤ l.length → (∀ i, i < m.length → l.getD (k + i) 0 = m.getD i 0) → l.drop k = m ++ l.drop (k + m.length) := by
  intro m
  induction m with
  | nil => intro k _ _; simp
  | cons x r ih =>
    intro k hk hg
    have hlt : k < l.length := by simp only [List.length_cons] at hk; omega
    have h0 := hg 0 (by simp)
    rw [List.drop_eq_getElem_cons hlt, ih (k + 1) (by simp only [List.length_cons] at hk; omega) (fun i hi => by
      have := hg (i + 1) (by simp only [List.length_cons]; omega)
      rw [show k + 1 + i = k + (i + 1) by omega, this]; simp)]
    have e : l[k] = x := by
      rw [Nat.add_zero, List.getD_eq_getElem?_getD, List.getElem?_eq_getElem hlt] at h0
      simpa using h0
    rw [e, List.cons_append, List.length_cons, show k + 1 + r.length = k + (r.length + 1) by omega]
/-- A number that is taken has just its bytes there. -/
theorem takeE_back {l : List Nat} (hl : ∀ c ∈ l, c < 256) {k n k2 : Nat} (h : takeE l k = .ok (n, k2)) : l.drop k = numB n ++ l.drop k2 ∧ k2 = k + (numB n).length ∧ k2 ≤ l.length ∧ n ≤ 1099511627776 := by
  have h0 : takeN l k = (0, n, k2) := by
    unfold takeE at h
    split at h
    · next h1 =>
      simp only [Except.ok.injEq, Prod.mk.injEq] at h
      rw [← h.1, ← h.2, ← h1]
    · cases h
  obtain ⟨q, h1, h2, h3, h4, _, h6⟩ := takeF_back l hl 6 0 0 k n k2 h0
  obtain rfl : n = q := by simpa using h1
  refine ⟨?_, h2, h3, h6⟩
  rw [drop_of_getD l (numB n) k (by omega) h4, h2]
/-- The bytes of an entry. -/
def entB' (k t i : Nat) (d : List Nat) : List Nat := k :: (numB t ++ (numB i ++ (numB d.length ++ d)))
theorem oneE_at {l a b : List Nat} {k x lo hi : Nat} (hl : l = a ++ x :: b) (hk : k = a.length) (h : lo ≤ x ∧ x ≤ hi) : oneE l lo hi k = .ok (x, k + 1) := by
  subst hl hk
  have e : (a ++ x :: b).getD a.length 0 = x := by simp
  rw [oneE, if_pos (by simp), e, if_pos h]
theorem dataE_at {l a d b : List Nat} {k n : Nat} (hl : l = a ++ (d ++ b)) (hk : k = a.length) (hn : n = d.length) : dataE l n k = .ok (d, k + d.length) := by
  subst hl hk hn
  rw [dataE, if_neg (by simp only [List.length_append]; omega), List.drop_left, List.take_left]
/-- May an entry be, as numbers? -/
def EntOk (k t i : Nat) (d : List Nat) : Prop := (1 ≤ k ∧ k ≤ 3) ∧ (1 ≤ t ∧ t ≤ 1099511627776) ∧ (1 ≤ i ∧ i ≤ 1099511627776) ∧ (k = 1 → d = []) ∧ d.length ≤ 2048
theorem posE_at {l a b : List Nat} {k n : Nat} (hl : l = a ++ (numB n ++ b)) (hk : k = a.length) (h : 1 ≤ n ∧ n ≤ 1099511627776) : posE l k = .ok (n, k + (numB n).length) := by
  rw [posE, takeE_at hl hk h.2]
  simp only [if_neg (show ¬ n = 0 by omega)]
theorem sizeE_at {l a b : List Nat} {kd k n : Nat} (hl : l = a ++ (numB n ++ b)) (hk : k = a.length) (h : n ≤ 2048) (h1 : kd = 1 → n = 0) : sizeE l kd k = .ok (n, k + (numB n).length) := by
  rw [sizeE, takeE_at hl hk (by omega)]
  simp only [if_neg (show ¬ (kd = 1 ∧ 0 < n) from fun h => by have := h1 h.1; omega), if_neg (show ¬ 2048 < n by omega)]
theorem entryE_at {l a b : List Nat} {k kd t i : Nat} {d : List Nat} (hl : l = a ++ (entB' kd t i d ++ b)) (hk : k = a.length) (h : EntOk kd t i d) : entryE l k = .ok ((kd, t, i, d), k + (entB' kd t i d).length) := by
  obtain ⟨h1, h2, h3, h4, h5⟩ := h
  have e1 : l = a ++ kd :: (numB t ++ (numB i ++ (numB d.length ++ (d ++ b)))) := by rw [hl]; simp [entB', List.append_assoc]
  have e2 : l = (a ++ [kd]) ++ (numB t ++ (numB i ++ (numB d.length ++ (d ++ b)))) := by rw [e1]; simp
  have e3 : l = (a ++ [kd] ++ numB t) ++ (numB i ++ (numB d.length ++ (d ++ b))) := by rw [e2]; simp
  have e4 : l = (a ++ [kd] ++ numB t ++ numB i) ++ (numB d.length ++ (d ++ b)) := by rw [e3]; simp
  have e5 : l = (a ++ [kd] ++ numB t ++ numB i ++ numB d.length) ++ (d ++ b) := by rw [e4]; simp
  rw [entryE, oneE_at e1 hk h1]
  simp only [posE_at e2 (show k + 1 = _ by rw [hk]; simp only [List.length_append, List.length_cons, List.length_nil]) h2]
  simp only [posE_at e3 (show k + 1 + (numB t).length = _ by rw [hk]; simp only [List.length_append, List.length_cons, List.length_nil]) h3]
  simp only [sizeE_at e4 (show k + 1 + (numB t).length + (numB i).length = _ by rw [hk]; simp only [List.length_append, List.length_cons, List.length_nil]) h5 (fun e => by rw [h4 e]; rfl)]
  simp only [dataE_at e5 (show k + 1 + (numB t).length + (numB i).length + (numB d.length).length = _ by rw [hk]; simp only [List.length_append, List.length_cons, List.length_nil]) rfl]
  congr 2
  simp only [entB', List.length_cons, List.length_append]
  omega
theorem posE_back {l : List Nat} (hl : ∀ c ∈ l, c < 256) {k n k2 : Nat} (h : posE l k = .ok (n, k2)) : l.drop k = numB n ++ l.drop k2 ∧ k2 = k + (numB n).length ∧ k2 ≤ l.length ∧ 1 ≤ n ∧ n ≤ 1099511627776 := by
  unfold posE at h
  split at h
  · cases h
  · next h1 =>
    split at h
    · cases h
    · simp only [Except.ok.injEq, Prod.mk.injEq] at h
      obtain ⟨rfl, rfl⟩ := h
      obtain ⟨a1, a2, a3, a4⟩ := takeE_back hl h1
      exact ⟨a1, a2, a3, by omega, a4⟩
theorem sizeE_back {l : List Nat} (hl : ∀ c ∈ l, c < 256) {kd k n k2 : Nat} (h : sizeE l kd k = .ok (n, k2)) : l.drop k = numB n ++ l.drop k2 ∧ k2 = k + (numB n).length ∧ k2 ≤ l.length ∧ n ≤ 2048 ∧ (kd = 1 → n = 0) := by
  unfold sizeE at h
  split at h
  · cases h
  · next h1 =>
    split at h
    · cases h
    · split at h
      · cases h
      · simp only [Except.ok.injEq, Prod.mk.injEq] at h
        obtain ⟨rfl, rfl⟩ := h
        obtain ⟨a1, a2, a3, a4⟩ := takeE_back hl h1
        exact ⟨a1, a2, a3, by omega, fun e => by omega⟩
theorem dataE_back {l : List Nat} {n k k2 : Nat} {d : List Nat} (hk : k ≤ l.length) (h : dataE l n k = .ok (d, k2)) : l.drop k = d ++ l.drop k2 ∧ k2 = k + d.length ∧ k2 ≤ l.length ∧ d.length = n := by
  unfold dataE at h
  split at h
  · cases h
  · simp only [Except.ok.injEq, Prod.mk.injEq] at h
    obtain ⟨rfl, rfl⟩ := h
    have hlen : ((l.drop k).take n).length = n := by rw [List.length_take, List.length_drop]; omega
    refine ⟨?_, by rw [hlen], by omega, hlen⟩
    rw [← List.drop_drop, List.take_append_drop]
theorem oneE_back {l : List Nat} {lo hi k x k2 : Nat} (h : oneE l lo hi k = .ok (x, k2)) : l.drop k = x :: l.drop k2 ∧ k2 = k + 1 ∧ k2 ≤ l.length ∧ lo ≤ x ∧ x ≤ hi := by
  unfold oneE at h
  split at h
  · next hk =>
    split at h
    · next h1 =>
      simp only [Except.ok.injEq, Prod.mk.injEq] at h
      obtain ⟨rfl, rfl⟩ := h
      refine ⟨?_, rfl, hk, h1⟩
      rw [List.drop_eq_getElem_cons hk, List.getD_eq_getElem?_getD, List.getElem?_eq_getElem hk]
      rfl
    · cases h
  · cases h
theorem entryE_back {l : List Nat} (hl : ∀ c ∈ l, c < 256) {k kd t i k2 : Nat} {d : List Nat} (h : entryE l k = .ok ((kd, t, i, d), k2)) : l.drop k = entB' kd t i d ++ l.drop k2 ∧ k2 = k + (entB' kd t i d).length ∧ k2 ≤ l.length ∧ EntOk kd t i d := by
  unfold entryE at h
  split at h
  · cases h
  · next h1 =>
    split at h
    · cases h
    · next h2 =>
      split at h
      · cases h
      · next h3 =>
        split at h
        · cases h
        · next h4 =>
          split at h
          · cases h
          · next h5 =>
            simp only [Except.ok.injEq, Prod.mk.injEq] at h
            obtain ⟨⟨rfl, rfl, rfl, rfl⟩, rfl⟩ := h
            obtain ⟨a1, a2, a3, a4, a5⟩ := oneE_back h1
            obtain ⟨b1, b2, b3, b4, b5⟩ := posE_back hl h2
            obtain ⟨c1, c2, c3, c4, c5⟩ := posE_back hl h3
            obtain ⟨d1, d2, d3, d4, d5⟩ := sizeE_back hl h4
            obtain ⟨e1, e2, e3, e4⟩ := dataE_back d3 h5
            refine ⟨?_, ?_, e3, ⟨a4, a5⟩, ⟨b4, b5⟩, ⟨c4, c5⟩, fun e => List.eq_nil_of_length_eq_zero (by rw [e4]; exact d5 e), by omega⟩
            · rw [a1, b1, c1, d1, e1]; simp [entB', e4, List.append_assoc]
            · simp only [entB', List.length_cons, List.length_append, e4]; omega
theorem wholeE_ok {α : Type} {l : List Nat} {r : Except Nat (α × Nat)} {x : α} (h : wholeE l r = .ok x) : ∃ k, r = .ok (x, k) ∧ ¬ k < l.length := by
  unfold wholeE at h
  split at h
  · cases h
  · split at h
    · cases h
    · cases h; exact ⟨_, rfl, by assumption⟩
/-- An entry that is put is got as it was. -/
theorem entry_got {kd t i : Nat} {d : List Nat} (h : EntOk kd t i d) : wholeE (entB' kd t i d) (entryE (entB' kd t i d) 0) = .ok (kd, t, i, d) := by
  rw [entryE_at (l := entB' kd t i d) (a := []) (b := []) (k := 0) (by simp) rfl h]
  simp only [wholeE, Nat.zero_add, if_neg (Nat.lt_irrefl _)]
/-- Bytes that are taken for an entry are just its bytes. -/
theorem entry_back {l : List Nat} (hl : ∀ c ∈ l, c < 256) {kd t i : Nat} {d : List Nat} (h : wholeE l (entryE l 0) = .ok (kd, t, i, d)) : l = entB' kd t i d ∧ EntOk kd t i d := by
  obtain ⟨k, h1, h2⟩ := wholeE_ok h
  obtain ⟨a1, a2, a3, a4⟩ := entryE_back hl h1
  rw [List.drop_zero, List.drop_eq_nil_of_le (by omega), List.append_nil] at a1
  exact ⟨a1, a4⟩
end Go.Proofs.YtagncghpfdjkmaaGreatDoor
end
/- Member: lists of numbers, members and changes out of bytes. -/
section
namespace Go.Proofs.YtagncghpfdjkmaaGreatDoor
open Go.ChangeShapes Go.WideShapes Go.ChangeAt Go.RowKit

/-- So many numbers from a place on, and where they end. -/
def numsE (l : List Nat) : Nat → Nat → Except Nat (List Int × Nat)
  | 0, k => .ok ([], k)
  | c + 1, k => match takeE l k with
    | .error x => .error x
    | .ok (n, k2) => match numsE l c k2 with
      | .error x => .error x
      | .ok (r, k3) => .ok ((n : Int) :: r, k3)
def prepE (acc : List Int) : Except Nat (List Int × Nat) → Except Nat (List Int × Nat)
  | .error x => .error x
  | .ok (r, k) => .ok (acc ++ r, k)
theorem prep_step {l : List Nat} {c k n k2 : Nat} (acc : List Int) (h : takeE l k = .ok (n, k2)) : prepE acc (numsE l (c + 1) k) = prepE (acc ++ [(n : Int)]) (numsE l c k2) := by
  rw [numsE, h]
  simp only
  cases numsE l c k2 with
  | error x => rfl
  | ok r => obtain ⟨r, k3⟩ := r; simp [prepE]
theorem prep_bad {l : List Nat} {c k x : Nat} (acc : List Int) (h : takeE l k = .error x) : prepE acc (numsE l (c + 1) k) = .error x := by
  rw [numsE, h]
  rfl
theorem takeE_ok {l : List Nat} {k n k2 : Nat} (h : takeE l k = .ok (n, k2)) : takeN l k = (0, n, k2) := by
  unfold takeE at h
  split at h
  · rename_i h0
    simp only [Except.ok.injEq, Prod.mk.injEq] at h
    exact Prod.ext h0 (Prod.ext h.1 h.2)
  · cases h
theorem takeE_err {l : List Nat} {k x : Nat} (h : takeE l k = .error x) : (takeN l k).1 = x ∧ x ≠ 0 := by
  unfold takeE at h
  split at h
  · cases h
  · rename_i h0
    simp only [Except.error.injEq] at h
    exact ⟨h, fun e => h0 (h.trans e)⟩
/-- How a reader of numbers ends. -/
def NumRes (r : Except Nat (List Int × Nat)) (top base : Nat) (e : Ending) (w' : World) : Prop := match r with
  | .ok (xs, k) => ∃ sp n c, e = .returned (.tuple #[.slice sp n c, .int .i64 (k : Int), .int .i64 0]) ∧ xs.length = n ∧ OwnI base w' sp c xs ∧ k ≤ top
  | .error x => e = .returned (.tuple #[.slice none 0 0, .int .i64 0, .int .i64 (x : Int)]) ∧ x ≠ 0
section
variable {w : World} {a : Option Addr} {c : Nat} {l : List Nat}
set_option maxRecDepth 20000 in
set_option maxHeartbeats 8000000 in
theorem takeNumbers_calls (hb : BytesAt w a l) (m : Nat) (hm : l.length = m) (hx : m ≤ maxLen) (k count : Nat) (hk : k ≤ l.length) (hc : count ≤ 9) :
    Calls Tryz.prog 153 #[.slice a m c, .int .i64 (k : Int), .int .i64 (count : Int)] w fun e w' => NumRes (numsE l count k) l.length w.heap.size e w' ∧ Below w.heap.size w w' := by
  have HB := hide hb
  have HM := hide hm
  have HK := hide hk
  have HX := hide (show l.length ≤ maxLen by omega)
  clear hb hm hk
  go_enter Tryz.func153, Tryz.ntmps153
  go_wp2_with fail
  go_loopw [1, 9, 14] (fun p s i wr => ∃ (j n c at_ : Nat) (sp : Option Addr) (acc : List Int), j ≤ count ∧ p = .int .i64 (at_ : Int) ∧ s = .slice sp n c ∧ i = .int .i64 (j : Int) ∧ Hid (acc.length = n) ∧ Hid (n = j) ∧ Hid (at_ ≤ l.length) ∧ Hid (numsE l count k = prepE acc (numsE l (count - j) at_)) ∧ Hid (OwnI w.heap.size wr sp c acc) ∧ Hid (Below w.heap.size w wr)) (fun _ _ i _ => count - (intOf i).toNat)
  case atStart =>
    refine ⟨0, 0, 0, k, none, [], by omega, rfl, rfl, rfl, rfl, rfl, unhide HK, ?_, OwnI.ofNil _ _, Below.refl _ _⟩
    show _ = _
    rw [Nat.sub_zero]
    cases numsE l count k with
    | error x => rfl
    | ok r => obtain ⟨r, q⟩ := r; simp [prepE]
  case round =>
    obtain ⟨j, n, c2, p, sp, acc, hj, rfl, rfl, rfl, hn, hnj, hp, hE, ho, hB⟩ := hrel
    by_cases hjm : j < count
    · have hj1 : (j : Int) < (count : Int) := by omega
      have hsub := hide (show count - j = (count - (j + 1)) + 1 by omega)
      cases ht : takeE l p with
      | error x =>
        obtain ⟨t1, t2⟩ := takeE_err ht
        have R := hide (show numsE l count k = .error x by rw [unhide hE, unhide hsub]; exact prep_bad acc ht)
        go_wp2_with fail
        refine (take_bad a m c l p x (p : Int) _ (unhide HM) rfl (unhide HX) (unhide hp) ((unhide HB).later (unhide hB)) t1 t2).mono ?_
        rintro e w2 ⟨rfl, b2⟩
        have B2 := hide ((unhide hB).trans (b2.mono (unhide hB).size))
        have hx0 : ¬ ((x : Int) = 0) := by omega
        clear b2
        go_wp2
        go_ret3
        exact ⟨by rw [unhide R]; exact ⟨rfl, t2⟩, unhide B2⟩
      | ok r =>
        obtain ⟨y, q⟩ := r
        have TQ := hide (takeE_back (unhide HB).lt ht).2.2.1
        have ty := (takeE_back (unhide HB).lt ht).2.2.2
        have R := hide (show numsE l count k = prepE (acc ++ [(y : Int)]) (numsE l (count - (j + 1)) q) by rw [unhide hE, unhide hsub]; exact prep_step acc ht)
        go_wp2_with fail
        refine (take_ok a m c l p y q (p : Int) _ (unhide HM) rfl (unhide HX) (unhide hp) ((unhide HB).later (unhide hB)) (takeE_ok ht)).mono ?_
        rintro e w2 ⟨rfl, b2⟩
        have B2 := hide ((unhide hB).trans (b2.mono (unhide hB).size))
        have O2 := hide ((unhide ho).later b2)
        clear b2
        go_wp2_with (at_builtin; refine unhide ?_)
        refine hide ?_
        have ba : Below w2.heap.size w2 (w2.alloc (.cells #[.int .i64 (y : Int)] 3)) := (Below.refl _ _).alloc (Nat.le_refl _) _
        have hs2 : w.heap.size ≤ (w2.alloc (.cells #[.int .i64 (y : Int)] 3)).heap.size := Nat.le_trans (unhide B2).size ba.size
        refine wpList_appendI rfl (.tmp 26) (.tmp 28) rfl w.heap.size sp n c2 acc rfl (unhide hn) ((unhide O2).later ba) (some ⟨w2.heap.size, 0, none⟩) 1 1 rfl [(y : Int)] rfl (ints_one (heap_new _ _) (by omega)) (fun h => by cases h) (by have := unhide hn; have := unhide hnj; omega) hs2 ?_
        intro sp3 n3 k3 w3 hn3 o3 g3
        have O3 := hide o3
        have N3 := hide (unhide hn3)
        have J3 := hide (show n3 = j + 1 by rw [← unhide hn3, List.length_append, unhide hn, unhide hnj]; rfl)
        have B3 := hide ((unhide B2).trans ((ba.mono (unhide B2).size).trans (GrewI.below g3 ((unhide O2).later ba) hs2)))
        clear o3 g3 hn3 ba hs2
        go_wp2
        exact ⟨⟨j + 1, n3, k3, q, sp3, acc ++ [(y : Int)], by omega, rfl, rfl, by go_num, unhide N3, unhide J3, unhide TQ, unhide R, unhide O3, unhide B3⟩, by simp [intOf]; omega⟩
    · obtain rfl : j = count := by omega
      have R := hide (show numsE l j k = .ok (acc, p) by rw [unhide hE, Nat.sub_self]; simp [numsE, prepE])
      go_wp2
      go_ret3
      exact ⟨by rw [unhide R]; exact ⟨sp, n, c2, rfl, unhide hn, unhide ho, unhide hp⟩, unhide hB⟩
def listE (l : List Nat) (k : Nat) : Except Nat (List Int × Nat) := match takeE l k with
  | .error x => .error x
  | .ok (n, k2) => if 9 < n then .error 4 else numsE l n k2
set_option maxRecDepth 20000 in
set_option maxHeartbeats 4000000 in
theorem takeList_calls (hb : BytesAt w a l) (m : Nat) (hm : l.length = m) (hx : m ≤ maxLen) (k : Nat) (hk : k ≤ l.length) :
    Calls Tryz.prog 135 #[.slice a m c, .int .i64 (k : Int)] w fun e w' => NumRes (listE l k) l.length w.heap.size e w' ∧ Below w.heap.size w w' := by
  have HB := hide hb
  have HM := hide hm
  have HK := hide hk
  have HX := hide (show l.length ≤ maxLen by omega)
  clear hb hm hk
  cases ht : takeE l k with
  | error x =>
    obtain ⟨t1, t2⟩ := takeE_err ht
    have R := hide (show listE l k = .error x by rw [listE, ht])
    have hx0 : ¬ ((x : Int) = 0) := by omega
    clear ht
    go_enter Tryz.func135, Tryz.ntmps135
    go_wp2_with fail
    refine (take_bad a m c l k x (k : Int) _ (unhide HM) rfl (unhide HX) (unhide HK) (unhide HB) t1 t2).mono ?_
    rintro e w2 ⟨rfl, b2⟩
    have B2 := hide b2
    clear b2
    go_wp2
    go_ret3
    exact ⟨by rw [unhide R]; exact ⟨rfl, t2⟩, unhide B2⟩
  | ok r =>
    obtain ⟨y, q⟩ := r
    have TQ := hide (takeE_back (unhide HB).lt ht).2.2.1
    have ty := (takeE_back (unhide HB).lt ht).2.2.2
    have TN := hide (takeE_ok ht)
    have LE := hide (show listE l k = if 9 < y then .error 4 else numsE l y q by rw [listE, ht])
    clear ht
    go_enter Tryz.func135, Tryz.ntmps135
    go_wp2_with fail
    refine (take_ok a m c l k y q (k : Int) _ (unhide HM) rfl (unhide HX) (unhide HK) (unhide HB) (unhide TN)).mono ?_
    rintro e w2 ⟨rfl, b2⟩
    have B2 := hide b2
    clear b2
    by_cases h9 : 9 < y
    · have h9' : (9 : Int) < (y : Int) := by omega
      have R := hide (show listE l k = .error 4 by rw [unhide LE, if_pos h9])
      go_wp2
      go_ret3
      exact ⟨by rw [unhide R]; exact ⟨rfl, by decide⟩, unhide B2⟩
    · have h9' : ¬ ((9 : Int) < (y : Int)) := by omega
      have R := hide (show listE l k = numsE l y q by rw [unhide LE, if_neg h9])
      go_wp2_with fail
      refine (takeNumbers_calls ((unhide HB).later (unhide B2)) m (unhide HM) hx q y (unhide TQ) (by omega)).mono ?_
      rintro e w3 ⟨hres, b3⟩
      have B3 := hide ((unhide B2).trans (b3.mono (unhide B2).size))
      have S2 := hide (unhide B2).size
      clear b3
      unfold NumRes at hres
      cases hn : numsE l y q with
      | error x =>
        rw [hn] at hres
        obtain ⟨rfl, hx0⟩ := hres
        go_wp2
        go_ret3
        exact ⟨by rw [unhide R, hn]; exact ⟨rfl, hx0⟩, unhide B3⟩
      | ok r =>
        obtain ⟨xs, k3⟩ := r
        rw [hn] at hres
        obtain ⟨sp, n3, c3, rfl, h1, h2, h3⟩ := hres
        have O3 := hide h2
        have H1 := hide h1
        have H3 := hide h3
        clear h1 h2 h3
        go_wp2
        go_ret3
        exact ⟨by rw [unhide R, hn]; exact ⟨sp, n3, c3, rfl, unhide H1, (unhide O3).mono (unhide S2), unhide H3⟩, unhide B3⟩
def getE (l : List Nat) : Except Nat (List Int × List Int) := match listE l 0 with
  | .error x => .error x
  | .ok (v, k) => match listE l k with
    | .error x => .error x
    | .ok (r, k2) => if k2 = l.length then (if rightM v r then .ok (v, r) else .error 4) else .error 4
/-- How a reader of members ends. -/
def GetRes (r : Except Nat (List Int × List Int)) (base : Nat) (e : Ending) (w' : World) : Prop := match r with
  | .ok (v, l) => ∃ spA nA cA spB nB cB, e = .returned (.tuple #[mV spA nA cA spB nB cB, .int .i64 0]) ∧ v.length = nA ∧ l.length = nB ∧ OwnI base w' spA cA v ∧ OwnI base w' spB cB l
  | .error x => e = .returned (.tuple #[mV none 0 0 none 0 0, .int .i64 (x : Int)]) ∧ x ≠ 0
set_option maxRecDepth 20000 in
set_option maxHeartbeats 8000000 in
theorem mget_calls (hb : BytesAt w a l) (m : Nat) (hm : l.length = m) (hx : m ≤ maxLen) :
    Calls Tryz.prog 107 #[.slice a m c] w fun e w' => GetRes (getE l) w.heap.size e w' ∧ Below w.heap.size w w' := by
  have HM := hide hm
  have b1 := hide (show Below w.heap.size w (w.alloc (mB none 0 0 none 0 0)) from (Below.refl _ _).alloc (Nat.le_refl _) _)
  have Y1 := hide (heap_new w (mB none 0 0 none 0 0))
  have HB := hide (hb.later (unhide b1))
  have ZE := hide (show (w.alloc (mB none 0 0 none 0 0)).heap.size = w.heap.size + 1 by simp)
  clear hb hm
  go_enter Tryz.func107, Tryz.ntmps107
  go_wp2_with fail
  generalize hD : w.heap.size = D at *
  generalize w.alloc (mB none 0 0 none 0 0) = w1 at *
  have DONE := hide (show ∀ (u : World), Below w1.heap.size w1 u → ∃ W, W.cell? ⟨D, 0, none⟩ = some (.slice none 0 0) ∧ W.cell? ⟨D, 1, none⟩ = some (.slice none 0 0) ∧ Below D w W ∧ (u.setCell ⟨D, 0, none⟩ (.slice none 0 0)).setCell ⟨D, 1, none⟩ (.slice none 0 0) = W ∧ u.cell? ⟨D, 0, none⟩ = some (.slice none 0 0) ∧ u.cell? ⟨D, 1, none⟩ = some (.slice none 0 0) ∧ u.frozen? ⟨D, 0, none⟩ = false ∧ u.frozen? ⟨D, 1, none⟩ = false from fun u F => by
    have Y := later_block F (unhide Y1)
    obtain ⟨W, y0, y1, gW, hW⟩ := two_sets Y (.slice none 0 0) (.slice none 0 0)
    exact ⟨W, y0, y1, (unhide b1).trans (Below.grown (F.mono (by have := unhide ZE; omega) : Below D w1 u) gW (by have := F.size; have := unhide ZE; omega) (fun g e => by have := Option.some.inj e; omega)), hW, box_cell Y 0 _ rfl, box_cell Y 1 _ rfl, mbox_free Y 0, mbox_free Y 1⟩)
  refine (takeList_calls (unhide HB) m (unhide HM) hx 0 (Nat.zero_le _)).mono ?_
  rintro e w2 ⟨hres, b2⟩
  have F2 := hide b2
  clear b2
  unfold NumRes at hres
  cases h1 : listE l 0 with
  | error x =>
    rw [h1] at hres
    obtain ⟨rfl, hx0⟩ := hres
    have R := hide (show getE l = .error x by rw [getE, h1])
    have hx0' : ¬ ((x : Int) = 0) := by omega
    obtain ⟨W, y0, y1, bW, hW, z0, z1, z2, z3⟩ := unhide DONE w2 (unhide F2)
    have HW := hide hW
    clear hW
    go_wp2_with fail
    rw [unhide HW]
    go_wp2
    refine bodyPost_ret (v := .tuple #[mV none 0 0 none 0 0, .int .i64 (x : Int)]) (by simp [results, Tryz.results107, go_sem, y0, y1]) rfl ?_
    exact ⟨by rw [unhide R]; exact ⟨rfl, hx0⟩, by first | exact bW | (rw [hD]; exact bW)⟩
  | ok r =>
    obtain ⟨v, k⟩ := r
    rw [h1] at hres
    obtain ⟨spA, nA, cA, rfl, hnA, oA, hk⟩ := hres
    have NA := hide hnA
    have OA := hide oA
    have K2 := hide hk
    clear hnA oA hk
    go_wp2_with fail
    refine (takeList_calls ((unhide HB).later (unhide F2)) m (unhide HM) hx k (unhide K2)).mono ?_
    rintro e w3 ⟨hres, b3⟩
    have F3 := hide ((unhide F2).trans (b3.mono (unhide F2).size))
    have OA3 := hide ((unhide OA).later b3)
    have S2 := hide (unhide F2).size
    clear b3
    unfold NumRes at hres
    cases h2 : listE l k with
    | error x =>
      rw [h2] at hres
      obtain ⟨rfl, hx0⟩ := hres
      have R := hide (show getE l = .error x by rw [getE, h1]; simp only; rw [h2])
      have hx0' : ¬ ((x : Int) = 0) := by omega
      obtain ⟨W, y0, y1, bW, hW, z0, z1, z2, z3⟩ := unhide DONE w3 (unhide F3)
      have HW := hide hW
      clear hW
      go_wp2_with fail
      rw [unhide HW]
      go_wp2
      refine bodyPost_ret (v := .tuple #[mV none 0 0 none 0 0, .int .i64 (x : Int)]) (by simp [results, Tryz.results107, go_sem, y0, y1]) rfl ?_
      exact ⟨by rw [unhide R]; exact ⟨rfl, hx0⟩, by first | exact bW | (rw [hD]; exact bW)⟩
    | ok r =>
      obtain ⟨r, q⟩ := r
      rw [h2] at hres
      obtain ⟨spB, nB, cB', rfl, hnB, oB, hq⟩ := hres
      have NB := hide hnB
      have OB3 := hide oB
      have GE := hide (show getE l = if q = m then (if rightM v r then .ok (v, r) else .error 4) else .error 4 by rw [getE, h1]; simp only; rw [h2]; simp only; rw [unhide HM])
      have b4 := hide (show Below w3.heap.size w3 (w3.alloc (mB spA nA cA spB nB cB')) from (Below.refl _ _).alloc (Nat.le_refl _) _)
      have Z4 := hide (heap_new w3 (mB spA nA cA spB nB cB'))
      have F4 := hide ((unhide F3).trans ((unhide b4).mono (unhide F3).size))
      have OA4 := hide ((unhide OA3).later (unhide b4))
      have OB4 := hide ((unhide OB3).later (unhide b4))
      have S3 := hide (show w1.heap.size ≤ w2.heap.size from unhide S2)
      have z4 := box_cell (unhide Z4) 0 _ rfl
      have z5 := box_cell (unhide Z4) 1 _ rfl
      clear hnB oB h1 h2 hq
      by_cases hqm : q = m
      · subst hqm
        have mA : nA ≤ maxLen := by
          have h1 := (unhide OA4).cap
          rw [unhide NA] at h1
          exact Nat.le_trans h1.1 h1.2
        have mB' : nB ≤ maxLen := by
          have h1 := (unhide OB4).cap
          rw [unhide NB] at h1
          exact Nat.le_trans h1.1 h1.2
        go_wp2_with fail
        generalize hX : w3.heap.size = X at *
        generalize w3.alloc (mB spA nA cA spB nB cB') = w4 at *
        refine (right_calls (unhide OA4).ints (unhide OB4).ints nA nB (unhide NA) (unhide NB) mA mB').mono ?_
        rintro e w5 ⟨rfl, b5⟩
        have F5 := hide ((unhide F4).trans (b5.mono (unhide F4).size))
        have Z5 := hide (later_block b5 (unhide Z4))
        have OA5 := hide ((unhide OA4).later b5)
        have OB5 := hide ((unhide OB4).later b5)
        clear b5 z4 z5
        have z4 := box_cell (unhide Z5) 0 _ rfl
        have z5 := box_cell (unhide Z5) 1 _ rfl
        cases hr : rightM v r
        · have R := hide (show getE l = .error 4 by rw [unhide GE]; simp [hr])
          obtain ⟨W, y0, y1, bW, hW, z0, z1, z2, z3⟩ := unhide DONE w5 (unhide F5)
          have HW := hide hW
          clear hW
          go_wp2_with fail
          rw [unhide HW]
          go_wp2
          refine bodyPost_ret (v := .tuple #[mV none 0 0 none 0 0, .int .i64 4]) (by simp [results, Tryz.results107, go_sem, y0, y1]) rfl ?_
          exact ⟨by rw [unhide R]; exact ⟨rfl, by decide⟩, by first | exact bW | (rw [hD]; exact bW)⟩
        · have R := hide (show getE l = .ok (v, r) by rw [unhide GE]; simp [hr])
          have Y5 := hide (later_block (unhide F5) (unhide Y1))
          obtain ⟨W, y0, y1, gW, hW⟩ := two_sets (unhide Y5) (.slice spA nA cA) (.slice spB nB cB')
          have HW := hide hW
          have z0 := box_cell (unhide Y5) 0 _ rfl
          have z1 := box_cell (unhide Y5) 1 _ rfl
          have z2 := mbox_free (unhide Y5) 0
          have z3 := mbox_free (unhide Y5) 1
          have OAW := hide ((unhide OA5).kept gW (fun g hg e => by have h1 := ((unhide OA5).blk_lt g hg).1; have h2 := Option.some.inj e; have h3 := unhide ZE; omega))
          have OBW := hide ((unhide OB5).kept gW (fun g hg e => by have h1 := ((unhide OB5).blk_lt g hg).1; have h2 := Option.some.inj e; have h3 := unhide ZE; have h4 := unhide S3; omega))
          have bW := hide ((unhide b1).trans (Below.grown ((unhide F5).mono (by have := unhide ZE; omega) : Below D w1 _) gW (by have := (unhide F5).size; have := unhide ZE; omega) (fun g e => by have := Option.some.inj e; omega)))
          clear hW gW
          go_wp2_with fail
          rw [unhide HW]
          go_wp2
          refine bodyPost_ret (v := .tuple #[mV spA nA cA spB nB cB', .int .i64 0]) (by simp [results, Tryz.results107, go_sem, y0, y1]) rfl ?_
          refine ⟨?_, by first | exact unhide bW | (rw [hD]; exact unhide bW)⟩
          rw [unhide R]
          exact ⟨spA, nA, cA, spB, nB, cB', rfl, unhide NA, unhide NB, (unhide OAW).mono (by have h3 := unhide ZE; omega), (unhide OBW).mono (by have h3 := unhide ZE; have h4 := unhide S3; omega)⟩
      · have hqm' : ¬ ((q : Int) = (m : Int)) := by omega
        have R := hide (show getE l = .error 4 by rw [unhide GE, if_neg hqm])
        obtain ⟨W, y0, y1, bW, hW, z0, z1, z2, z3⟩ := unhide DONE _ (unhide F4)
        have HW := hide hW
        clear hW
        go_wp2_with fail
        rw [unhide HW]
        go_wp2
        refine bodyPost_ret (v := .tuple #[mV none 0 0 none 0 0, .int .i64 4]) (by simp [results, Tryz.results107, go_sem, y0, y1]) rfl ?_
        exact ⟨by rw [unhide R]; exact ⟨rfl, by decide⟩, by first | exact bW | (rw [hD]; exact bW)⟩
end
end Go.Proofs.YtagncghpfdjkmaaGreatDoor
end
