/- Member: what changes make of members, in plain terms. -/
import Derived.Test.YtnclkkoefejjiaaMap1
namespace Go.Proofs.Ytnclkkoefejjiaa

theorem nums_sorted (p : Int → Bool) : ∀ k : Nat, (numsTo p k).Pairwise (· < ·)
  | 0 => by simp [numsTo]
  | k + 1 => by
    have ih := nums_sorted p k
    unfold numsTo
    split
    · rw [List.pairwise_append]
      refine ⟨ih, by simp, fun a ha b hb => ?_⟩
      have h1 := ((nums_mem p k a).1 ha).2.1
      have h2 : b = (k : Int) + 1 := by simpa using hb
      omega
    · exact ih
theorem rise_sorted : ∀ (v : List Int) (last : Int), 0 ≤ last → riseFrom last v = true → v.Pairwise (· < ·)
  | [], _, _, _ => List.Pairwise.nil
  | n :: r, last, h0, h => by
    simp only [riseFrom, Bool.and_eq_true, decide_eq_true_eq] at h
    refine List.Pairwise.cons (fun x hx => (rise_in r n (by omega) h.2 x hx).1) (rise_sorted r n (by omega) h.2)
theorem sorted_rise : ∀ (v : List Int) (last : Int), v.Pairwise (· < ·) → (∀ x ∈ v, last < x ∧ x ≤ 9) → riseFrom last v = true
  | [], _, _, _ => rfl
  | n :: r, last, h, hb => by
    obtain ⟨h1, h2⟩ := List.pairwise_cons.1 h
    have hn := hb n List.mem_cons_self
    simp only [riseFrom, Bool.and_eq_true, decide_eq_true_eq]
    exact ⟨⟨by omega, hn.2⟩, sorted_rise r n h2 (fun x hx => ⟨h1 x hx, (hb x (List.mem_cons_of_mem _ hx)).2⟩)⟩
theorem sorted_ext : ∀ (a b : List Int), a.Pairwise (· < ·) → b.Pairwise (· < ·) → (∀ x, x ∈ a ↔ x ∈ b) → a = b
  | [], [], _, _, _ => rfl
  | [], y :: s, _, _, h => by have := (h y).2 List.mem_cons_self; cases this
  | x :: r, [], _, _, h => by have := (h x).1 List.mem_cons_self; cases this
  | x :: r, y :: s, ha, hb, h => by
    obtain ⟨a1, a2⟩ := List.pairwise_cons.1 ha
    obtain ⟨b1, b2⟩ := List.pairwise_cons.1 hb
    have e : x = y := by
      rcases List.mem_cons.1 ((h x).1 List.mem_cons_self) with e | hx
      · exact e
      · rcases List.mem_cons.1 ((h y).2 List.mem_cons_self) with e | hy
        · exact e.symm
        · have := a1 y hy
          have := b1 x hx
          omega
    subst e
    congr 1
    refine sorted_ext r s a2 b2 (fun z => ?_)
    constructor
    · intro hz
      rcases List.mem_cons.1 ((h z).1 (List.mem_cons_of_mem _ hz)) with e | hz'
      · subst e; have := a1 z hz; omega
      · exact hz'
    · intro hz
      rcases List.mem_cons.1 ((h z).2 (List.mem_cons_of_mem _ hz)) with e | hz'
      · subst e; have := b1 z hz; omega
      · exact hz'
theorem nums_self {v : List Int} (h : riseFrom 0 v = true) : numsTo (fun x => decide (x ∈ v)) 9 = v := by
  refine sorted_ext _ _ (nums_sorted _ 9) (rise_sorted v 0 (by omega) h) (fun x => ?_)
  rw [nums_mem]
  constructor
  · rintro ⟨_, _, h3⟩
    simpa using h3
  · intro hx
    have := rise_in v 0 (by omega) h x hx
    exact ⟨by omega, by omega, by simpa using hx⟩
theorem nums_rise (p : Int → Bool) : riseFrom 0 (numsTo p 9) = true :=
  sorted_rise _ 0 (nums_sorted p 9) (fun x hx => by have := (nums_mem p 9 x).1 hx; omega)
theorem nums_filter (p q : Int → Bool) : ∀ k : Nat, (numsTo p k).filter q = numsTo (fun x => p x && q x) k
  | 0 => rfl
  | k + 1 => by
    have ih := nums_filter p q k
    unfold numsTo
    cases hp : p ((k : Int) + 1)
    · simp [ih]
    · cases hq : q ((k : Int) + 1)
      · simp [ih, hq, List.filter_append]
      · simp [ih, hq, List.filter_append]
theorem nums_or_and (p q : Int → Bool) : ∀ k : Nat, (numsTo p k).length + (numsTo q k).length = (numsTo (fun x => p x || q x) k).length + (numsTo (fun x => p x && q x) k).length
  | 0 => rfl
  | k + 1 => by
    have ih := nums_or_and p q k
    unfold numsTo
    cases hp : p ((k : Int) + 1) <;> cases hq : q ((k : Int) + 1) <;> simp <;> omega
theorem nums_near {p q : Int → Bool} (n : Int) (h : ∀ x, x ≠ n → p x = q x) : ∀ k : Nat, (numsTo p k).length ≤ (numsTo q k).length + (if n ≤ k then 1 else 0)
  | 0 => by simp [numsTo]
  | k + 1 => by
    have ih := nums_near n h k
    by_cases e : n = (k : Int) + 1
    · have h0 : ¬ n ≤ (k : Int) := by omega
      rw [if_neg h0] at ih
      rw [if_pos (by omega)]
      unfold numsTo
      cases hp : p ((k : Int) + 1) <;> cases hq : q ((k : Int) + 1) <;> simp <;> omega
    · have e2 := h ((k : Int) + 1) (fun e' => e e'.symm)
      have hc : (if n ≤ (k : Int) then 1 else 0) ≤ (if n ≤ ((k + 1 : Nat) : Int) then 1 else 0) := by
        split
        · rw [if_pos (by omega)]; omega
        · omega
      generalize (if n ≤ (k : Int) then 1 else 0) = A at *
      generalize (if n ≤ ((k + 1 : Nat) : Int) then 1 else 0) = B at *
      unfold numsTo
      rw [e2]
      cases hq : q ((k : Int) + 1)
      · simp
        omega
      · simp
        omega
theorem nums_le {p q : Int → Bool} (h : ∀ x, p x = true → q x = true) : ∀ k : Nat, (numsTo p k).length ≤ (numsTo q k).length
  | 0 => by simp [numsTo]
  | k + 1 => by
    have ih := nums_le h k
    have hx := h ((k : Int) + 1)
    unfold numsTo
    cases hp : p ((k : Int) + 1)
    · cases hq : q ((k : Int) + 1) <;> simp <;> omega
    · rw [hx hp]; simp; omega
theorem kind_voter {v l : List Int} (hr : rightM v l = true) (x : Int) : kindM v l x = 1 ↔ x ∈ v := by
  have hd := ((right_iff v l).1 hr).2.2.2
  unfold kindM
  by_cases h1 : x ∈ l
  · have : x ∉ v := fun h => hd x h h1
    simp [h1, this]
  · by_cases h2 : x ∈ v <;> simp [h1, h2]
theorem kind_learner (v l : List Int) (x : Int) : kindM v l x = 2 ↔ x ∈ l := by
  unfold kindM
  by_cases h1 : x ∈ l
  · simp [h1]
  · by_cases h2 : x ∈ v <;> simp [h1, h2]
section
variable {v l : List Int} {n k : Int}
theorem voters_mem (x : Int) : x ∈ votersTo v l n k ↔ (1 ≤ x ∧ x ≤ 9 ∧ upd (kindM v l) n k x = 1) := by
  unfold votersTo
  rw [nums_mem]
  simp
theorem learners_mem (x : Int) : x ∈ learnersTo v l n k ↔ (1 ≤ x ∧ x ≤ 9 ∧ upd (kindM v l) n k x = 2) := by
  unfold learnersTo
  rw [nums_mem]
  simp
theorem right_to (h0 : votersTo v l n k ≠ []) : rightM (votersTo v l n k) (learnersTo v l n k) = true := by
  rw [right_iff]
  refine ⟨?_, nums_rise _, nums_rise _, fun x hx hl => ?_⟩
  · cases hv : votersTo v l n k with
    | nil => exact absurd hv h0
    | cons _ _ => simp
  · have h1 := ((voters_mem x).1 hx).2.2
    have h2 := ((learners_mem x).1 hl).2.2
    omega
theorem kind_to (hk : k = 0 ∨ k = 1 ∨ k = 2) {x : Int} (h1 : 1 ≤ x) (h9 : x ≤ 9) : kindM (votersTo v l n k) (learnersTo v l n k) x = upd (kindM v l) n k x := by
  have h3 : upd (kindM v l) n k x = 0 ∨ upd (kindM v l) n k x = 1 ∨ upd (kindM v l) n k x = 2 := by
    unfold upd
    split
    · exact hk
    · exact kind_three v l x
  rw [show kindM (votersTo v l n k) (learnersTo v l n k) x = (if x ∈ learnersTo v l n k then 2 else if x ∈ votersTo v l n k then 1 else 0) from rfl]
  by_cases hl : x ∈ learnersTo v l n k
  · rw [if_pos hl, ((learners_mem x).1 hl).2.2]
  · rw [if_neg hl]
    by_cases hv : x ∈ votersTo v l n k
    · rw [if_pos hv, ((voters_mem x).1 hv).2.2]
    · rw [if_neg hv]
      rcases h3 with e | e | e
      · exact e.symm
      · exact absurd ((voters_mem x).2 ⟨h1, h9, e⟩) hv
      · exact absurd ((learners_mem x).2 ⟨h1, h9, e⟩) hl
theorem turned_three (was d : Int) (vn : Nat) : (turnedM was d vn).1 = 0 ∨ (turnedM was d vn).1 = 1 ∨ (turnedM was d vn).1 = 2 := by
  unfold turnedM
  repeat' split
  all_goals simp
theorem voters_some {d : Int} (hr : rightM v l = true) (hn : 1 ≤ n ∧ n ≤ 9) (he : (turnedM (kindM v l n) d v.length).2 = 0) : votersTo v l n (turnedM (kindM v l n) d v.length).1 ≠ [] := by
  have hin := rise_in v 0 (by omega) (right_parts hr).1
  have hnd := rise_nodup v 0 (by omega) (right_parts hr).1
  have other : ∀ x ∈ v, x ≠ n → votersTo v l n (turnedM (kindM v l n) d v.length).1 ≠ [] := fun x hx hxn e => by
    have : x ∈ votersTo v l n (turnedM (kindM v l n) d v.length).1 := (voters_mem x).2 ⟨by have := hin x hx; omega, (hin x hx).2, by rw [upd, if_neg hxn]; exact (kind_voter hr x).2 hx⟩
    rw [e] at this
    cases this
  by_cases hv : n ∈ v
  · have hk : kindM v l n = 1 := (kind_voter hr n).2 hv
    have hv1 : v.length ≠ 1 ∨ (turnedM (kindM v l n) d v.length).1 = 1 := by
      rw [hk] at he ⊢
      unfold turnedM at he ⊢
      by_cases h1 : v.length = 1
      · right
        simp [h1] at he ⊢
        by_cases d1 : d = 1
        · simp [d1] at he
        · by_cases d2 : d = 2
          · simp [d2] at he
          · simp [d1, d2] at he
      · exact .inl h1
    rcases hv1 with h1 | h1
    · match v, h1, hv, hnd, other with
      | [a], h1, _, _, _ => simp at h1
      | a :: b :: r, _, _, hnd, other =>
        obtain ⟨hab, _⟩ := List.nodup_cons.1 hnd
        by_cases ea : a = n
        · exact other b (by simp) (fun eb => hab (by rw [ea, ← eb]; simp))
        · exact other a (by simp) ea
    · intro e
      have : n ∈ votersTo v l n (turnedM (kindM v l n) d v.length).1 := (voters_mem n).2 ⟨hn.1, hn.2, by rw [upd, if_pos rfl]; exact h1⟩
      rw [e] at this
      cases this
  · have h0 := (right_parts hr).2.2.2.2
    match v, h0, hv, other with
    | a :: r, _, hv, other => exact other a (by simp) (fun e => hv (by rw [← e]; simp))
theorem voters_len : (votersTo v l n k).length ≤ 9 := nums_len _ 9
theorem learners_len : (learnersTo v l n k).length ≤ 9 := nums_len _ 9
theorem near_len (hr : rightM v l = true) : (votersTo v l n k).length ≤ v.length + 1 ∧ v.length ≤ (votersTo v l n k).length + 1 := by
  have hs := nums_self (right_parts hr).1
  have h1 := nums_near (p := fun x => decide (upd (kindM v l) n k x = 1)) (q := fun x => decide (x ∈ v)) n (fun x hx => by rw [decide_eq_decide, upd, if_neg hx]; exact kind_voter hr x) 9
  have h2 := nums_near (p := fun x => decide (x ∈ v)) (q := fun x => decide (upd (kindM v l) n k x = 1)) n (fun x hx => by rw [decide_eq_decide, upd, if_neg hx]; exact (kind_voter hr x).symm) 9
  rw [hs] at h1 h2
  have h3 : (if n ≤ ((9 : Nat) : Int) then 1 else 0) ≤ 1 := by split <;> omega
  unfold votersTo
  omega
/-- A quorum of members and one of what a change makes of them have a voter in common. -/
theorem meets_pure {a b : List Int} (hr : rightM v l = true) (hq : quorumM v l a = true) (hq' : quorumM (votersTo v l n k) (learnersTo v l n k) b = true) : ∃ x ∈ v, x ∈ votersTo v l n k ∧ x ∈ a ∧ x ∈ b := by
  have hs := nums_self (right_parts hr).1
  have c1 : v.length / 2 < (v.filter fun x => decide (x ∈ a)).length := by
    unfold quorumM at hq
    simp only [Bool.and_eq_true, decide_eq_true_eq] at hq
    exact hq.2
  have c2 : (votersTo v l n k).length / 2 < ((votersTo v l n k).filter fun x => decide (x ∈ b)).length := by
    unfold quorumM at hq'
    simp only [Bool.and_eq_true, decide_eq_true_eq] at hq'
    exact hq'.2
  rw [← hs, nums_filter, hs] at c1
  unfold votersTo at c2
  rw [nums_filter] at c2
  have i1 := nums_or_and (fun x => decide (x ∈ v) && decide (x ∈ a)) (fun x => decide (upd (kindM v l) n k x = 1) && decide (x ∈ b)) 9
  have i2 := nums_or_and (fun x => decide (x ∈ v)) (fun x => decide (upd (kindM v l) n k x = 1)) 9
  have i3 := nums_le (p := fun x => (decide (x ∈ v) && decide (x ∈ a)) || (decide (upd (kindM v l) n k x = 1) && decide (x ∈ b))) (q := fun x => decide (x ∈ v) || decide (upd (kindM v l) n k x = 1)) (fun x hx => by
    simp only [Bool.or_eq_true, Bool.and_eq_true, decide_eq_true_eq] at hx ⊢
    rcases hx with h | h
    · exact .inl h.1
    · exact .inr h.1) 9
  have i4 := nums_near (p := fun x => decide (x ∈ v) || decide (upd (kindM v l) n k x = 1)) (q := fun x => decide (x ∈ v) && decide (upd (kindM v l) n k x = 1)) n (fun x hx => by
    have : upd (kindM v l) n k x = 1 ↔ x ∈ v := by rw [upd, if_neg hx]; exact kind_voter hr x
    by_cases h : x ∈ v
    · simp [h, this.2 h]
    · have : ¬ upd (kindM v l) n k x = 1 := fun e => h (this.1 e)
      simp [h, this]) 9
  have h3 : (if n ≤ ((9 : Nat) : Int) then 1 else 0) ≤ 1 := by split <;> omega
  rw [hs] at i2
  have hne : (numsTo (fun x => (decide (x ∈ v) && decide (x ∈ a)) && (decide (upd (kindM v l) n k x = 1) && decide (x ∈ b))) 9).length ≠ 0 := by omega
  obtain ⟨x, hx⟩ : ∃ x, x ∈ numsTo (fun x => (decide (x ∈ v) && decide (x ∈ a)) && (decide (upd (kindM v l) n k x = 1) && decide (x ∈ b))) 9 := by
    cases hz : numsTo (fun x => (decide (x ∈ v) && decide (x ∈ a)) && (decide (upd (kindM v l) n k x = 1) && decide (x ∈ b))) 9 with
    | nil => rw [hz] at hne; exact absurd rfl hne
    | cons y r => exact ⟨y, List.mem_cons_self⟩
  obtain ⟨h1, h9, h⟩ := (nums_mem _ 9 x).1 hx
  simp only [Bool.and_eq_true, decide_eq_true_eq] at h
  exact ⟨x, h.1.1, (voters_mem x).2 ⟨h1, h9, h.2.1⟩, h.1.2, h.2.2⟩
theorem back_voters (hr : rightM v l = true) (hk : k = 0 ∨ k = 1 ∨ k = 2) : votersTo (votersTo v l n k) (learnersTo v l n k) n (kindM v l n) = v := by
  have hs := nums_self (right_parts hr).1
  conv => rhs; rw [← hs]
  show numsTo _ 9 = _
  refine nums_congr 9 (fun x h1 h9 => ?_)
  rw [decide_eq_decide, ← kind_voter hr x]
  unfold upd
  by_cases e : x = n
  · rw [if_pos e, e]
  · rw [if_neg e, kind_to hk h1 (by omega), upd, if_neg e]
theorem back_learners (hr : rightM v l = true) (hk : k = 0 ∨ k = 1 ∨ k = 2) : learnersTo (votersTo v l n k) (learnersTo v l n k) n (kindM v l n) = l := by
  have hs := nums_self (right_parts hr).2.1
  conv => rhs; rw [← hs]
  show numsTo _ 9 = _
  refine nums_congr 9 (fun x h1 h9 => ?_)
  rw [decide_eq_decide, ← kind_learner v l x]
  unfold upd
  by_cases e : x = n
  · rw [if_pos e, e]
  · rw [if_neg e, kind_to hk h1 (by omega), upd, if_neg e]
end
/-- What Apply tells is all right. -/
theorem apply_zero {v l : List Int} {d n : Int} (h : applyE v l d n = 0) : rightM v l = true ∧ mayM d n = true ∧ (turnedM (kindM v l n) d v.length).2 = 0 := by
  unfold applyE at h
  split at h
  · rename_i hh
    simp only [Bool.and_eq_true] at hh
    exact ⟨hh.1, hh.2, h⟩
  · cases h
/-- Another change undoes it. -/
theorem undo_pure {v l : List Int} {d d' n : Int} (h : applyE v l d n = 0) (hd : (d = 1 ∧ d' = 4) ∨ (d = 2 ∧ d' = 3) ∨ (d = 3 ∧ d' = 2)) :
    applyE (votersTo v l n (turnedM (kindM v l n) d v.length).1) (learnersTo v l n (turnedM (kindM v l n) d v.length).1) d' n = 0 ∧
    (turnedM (kindM (votersTo v l n (turnedM (kindM v l n) d v.length).1) (learnersTo v l n (turnedM (kindM v l n) d v.length).1) n) d' (votersTo v l n (turnedM (kindM v l n) d v.length).1).length).1 = kindM v l n := by
  obtain ⟨hr, hm, he⟩ := apply_zero h
  obtain ⟨_, hn1, hn9⟩ := may_parts hm
  have hk := turned_three (kindM v l n) d v.length
  have hne := voters_some hr ⟨hn1, hn9⟩ he
  have hr' := right_to hne
  have hkn := kind_to (v := v) (l := l) (n := n) hk hn1 hn9
  have hm' : mayM d' n = true := by
    simp only [mayM, Bool.and_eq_true, decide_eq_true_eq]
    rcases hd with ⟨_, rfl⟩ | ⟨_, rfl⟩ | ⟨_, rfl⟩ <;> omega
  have hu : upd (kindM v l) n (turnedM (kindM v l n) d v.length).1 n = (turnedM (kindM v l n) d v.length).1 := by simp [upd]
  rw [hu] at hkn
  unfold applyE
  rw [hr', hm', hkn]
  simp only [Bool.and_self, if_true]
  have hvpos : 0 < v.length := (right_parts hr).2.2.2.2
  -- how many voters there are behind a Promote
  have hlen : d = 2 → (votersTo v l n (turnedM (kindM v l n) d v.length).1).length ≠ 1 := by
    intro e
    subst e
    rcases kind_three v l n with hk0 | hk1 | hk2
    · rw [hk0] at he; simp [turnedM] at he
    · rw [hk1] at he; simp [turnedM] at he
    · rw [hk2]
      have ht : (turnedM 2 2 v.length).1 = 1 := by simp [turnedM]
      rw [ht]
      intro hl1
      have hnv : n ∉ v := fun hv => by have := (kind_voter hr n).2 hv; omega
      match v, hvpos, hnv with
      | a :: r, _, hnv =>
        have ha : a ≠ n := fun e => hnv (by rw [← e]; simp)
        have hin := rise_in (a :: r) 0 (by omega) (right_parts hr).1 a (by simp)
        have m1 : a ∈ votersTo (a :: r) l n 1 := (voters_mem a).2 ⟨by omega, hin.2, by rw [upd, if_neg ha]; exact (kind_voter hr a).2 (by simp)⟩
        have m2 : n ∈ votersTo (a :: r) l n 1 := (voters_mem n).2 ⟨hn1, hn9, by simp [upd]⟩
        match hx : votersTo (a :: r) l n 1, hl1 with
        | [z], _ =>
          rw [hx] at m1 m2
          simp at m1 m2
          exact ha (m1.trans m2.symm)
  rcases hd with ⟨rfl, rfl⟩ | ⟨rfl, rfl⟩ | ⟨rfl, rfl⟩
  · rcases kind_three v l n with e | e | e <;> rw [e] at he ⊢
    · simp [turnedM]
    · simp [turnedM] at he
    · simp [turnedM] at he
  · have hlen := hlen rfl
    rcases kind_three v l n with e | e | e <;> rw [e] at he hlen ⊢
    · simp [turnedM] at he
    · simp [turnedM] at he
    · have ht : (turnedM 2 2 v.length).1 = 1 := by simp [turnedM]
      rw [ht] at hlen ⊢
      simp [turnedM, hlen]
  · rcases kind_three v l n with e | e | e <;> rw [e] at he ⊢
    · simp [turnedM] at he
    · have ht : (turnedM 1 3 v.length).1 = 2 := by
        by_cases h1 : v.length = 1
        · simp [turnedM, h1] at he
        · simp [turnedM, h1]
      rw [ht]
      simp [turnedM]
    · simp [turnedM] at he
end Go.Proofs.Ytnclkkoefejjiaa
