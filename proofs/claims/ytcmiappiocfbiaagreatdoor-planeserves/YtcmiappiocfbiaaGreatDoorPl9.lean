/- Plane: which targets are taken (plain mathematics). -/
import Derived.Test.YtcmiappiocfbiaaGreatDoorPl2
namespace Go.Proofs.YtcmiappiocfbiaaGreatDoor

theorem val_zero : val 0 = 0 := by decide
theorem val_small {x : Nat} (h : x < fB) : val x = x := by unfold val; rw [if_pos h]
theorem mul_one {x : Nat} (hx : x < fI) : mulN x fK1 = x := by
  unfold mulN
  rw [val_K1]
  have h := near_pw 1074 (val x) 1074
  exact h.trans (near_val x hx)
theorem addN_left {s y : Nat} (hs : s ≤ fI) (hy : y ≤ fI) : s ≤ addN s y := by
  unfold addN
  split
  · exact hs
  · rename_i h
    have h1 : near 1074 (val s) ≤ near 1074 (val s + val y) := near_mono _ (Nat.le_add_right _ _)
    rw [near_val s (by omega)] at h1
    exact h1
theorem addN_right {s y : Nat} (_hs : s ≤ fI) (hy : y ≤ fI) : y ≤ addN s y := by
  unfold addN
  split
  · exact hy
  · rename_i h
    have h1 : near 1074 (val y) ≤ near 1074 (val s + val y) := near_mono _ (Nat.le_add_left _ _)
    rw [near_val y (by omega)] at h1
    exact h1
/-- Each weight is at most the sum. -/
theorem wt_le_sum (k : Nat) : ∀ (l : List Tg) (t : Tg), t ∈ l → wt k t.2 ≤ sumN k l := by
  intro l
  induction hn : l.length generalizing l with
  | zero => intro t ht; have : l = [] := List.eq_nil_of_length_eq_zero hn
            subst this; simp at ht
  | succ n ih =>
    rcases List.eq_nil_or_concat l with rfl | ⟨l', u, rfl⟩
    · simp at hn
    · rw [List.concat_eq_append] at hn ⊢
      rw [List.length_append, List.length_singleton] at hn
      intro t ht
      rw [sumN_snoc]
      rcases List.mem_append.1 ht with h1 | h1
      · exact Nat.le_trans (ih l' (by omega) t h1) (addN_left (sumN_le _ _) (wt_le _ _))
      · obtain rfl : t = u := by simpa using h1
        exact addN_right (sumN_le _ _) (wt_le _ _)
theorem addN_small {s y : Nat} (h : s + y < fB) : addN s y = s + y := by
  unfold addN
  have h1 : s < fB := by omega
  have h2 : y < fB := by omega
  rw [if_neg (by simp only [fB, fI] at *; omega), val_small h1, val_small h2]
  have := near_val (s + y) (by simp only [fB, fI] at *; omega)
  rw [val_small h] at this
  exact this
theorem sum_zero (k : Nat) : ∀ (l : List Tg), (∀ t ∈ l, wt k t.2 = 0) → sumN k l = 0 := by
  intro l
  induction hn : l.length generalizing l with
  | zero => intro _; have : l = [] := List.eq_nil_of_length_eq_zero hn
            subst this; rfl
  | succ n ih =>
    rcases List.eq_nil_or_concat l with rfl | ⟨l', u, rfl⟩
    · simp at hn
    · rw [List.concat_eq_append] at hn ⊢
      rw [List.length_append, List.length_singleton] at hn
      intro h
      rw [sumN_snoc, ih l' (by omega) (fun t ht => h t (List.mem_append_left _ ht)), h u (by simp)]
      decide
theorem sum_small (l : List Tg) : (∀ t ∈ l, wt fK1 t.2 < 1024) → l.length ≤ 1000 → sumN fK1 l ≤ 1024 * l.length := by
  induction hn : l.length generalizing l with
  | zero => intro _ _; have : l = [] := List.eq_nil_of_length_eq_zero hn
            subst this; exact Nat.zero_le _
  | succ n ih =>
    rcases List.eq_nil_or_concat l with rfl | ⟨l', u, rfl⟩
    · simp at hn
    · rw [List.concat_eq_append] at hn ⊢
      rw [List.length_append, List.length_singleton] at hn
      intro h hl
      have h1 := ih l' (by omega) (fun t ht => h t (List.mem_append_left _ ht)) (by omega)
      have h2 := h u (by simp)
      rw [sumN_snoc, addN_small (by simp only [fB]; omega)]
      omega
theorem tiny {x : Nat} (hx : x < fI) (h : mulN x fK2 = 0) : x < 1024 := by
  have e : mulN x fK2 = near 1084 (val x) := by
    unfold mulN
    rw [val_K2]
    exact near_pw 1084 (val x) 1064
  rw [e] at h
  have hv : val x < 1024 := by
    rcases Nat.lt_or_ge (val x) 1024 with h1 | h1
    · exact h1
    · have h2 := near_mono 1084 h1
      have h3 : near 1084 1024 = 1 := by
        have := near_pw 1074 1 10
        have e1 : near 1074 1 = 1 := near_val 1 (by decide)
        rw [e1] at this
        exact this
      omega
  have h1024 : val 1024 = 1024 := val_small (by decide)
  rw [← h1024] at hv
  exact (val_lt hx (by decide)).1 hv
def okT (t : Tg) : Bool := decide (0 < t.2 ∧ t.2 < fI)
theorem wt_pos {k : Nat} {t : Tg} (h : 0 < wt k t.2) : okT t = true := by
  unfold wt at h
  split at h
  · exact decide_eq_true (by assumption)
  · omega
theorem ok_sum (l : List Tg) (hl : l.length ≤ 1000) (h : l.any okT = true) : 0 < sumN (scaleN l) l := by
  obtain ⟨t, ht, hok⟩ := List.any_eq_true.1 h
  have ho := of_decide_eq_true hok
  unfold scaleN
  split
  · rename_i hI
    rcases Nat.eq_zero_or_pos (sumN fK2 l) with h0 | h0
    · exfalso
      have hall : ∀ u ∈ l, wt fK1 u.2 < 1024 := by
        intro u hu
        have h1 := wt_le_sum fK2 l u hu
        rw [h0] at h1
        unfold wt at h1 ⊢
        split
        · rename_i q
          rw [if_pos q] at h1
          rw [mul_one q.2]
          exact tiny q.2 (by omega)
        · omega
      have := sum_small l hall hl
      rw [hI] at this
      simp only [fI] at this
      omega
    · exact h0
  · have h1 := wt_le_sum fK1 l t ht
    have h2 : wt fK1 t.2 = t.2 := by unfold wt; rw [if_pos ho, mul_one ho.2]
    omega
theorem sum_some (k : Nat) (l : List Tg) (h : sumN k l ≠ 0) : ∃ j, j < l.length ∧ 0 < wt k (l.getD j (⟨#[]⟩, 0)).2 := by
  rcases Classical.em (∃ t ∈ l, 0 < wt k t.2) with ⟨t, ht, hp⟩ | hn
  · obtain ⟨j, hj, rfl⟩ := List.getElem_of_mem ht
    exact ⟨j, hj, by rw [getD_at l j hj]; exact hp⟩
  · exfalso
    refine h (sum_zero k l (fun t ht => ?_))
    rcases Nat.eq_zero_or_pos (wt k t.2) with h0 | h0
    · exact h0
    · exact absurd ⟨t, ht, h0⟩ hn
theorem lastN_pos (k : Nat) (l : List Tg) : ∀ n, (∃ j, j < n ∧ 0 < wt k (l.getD j (⟨#[]⟩, 0)).2) → lastN k l n < n ∧ 0 < wt k (l.getD (lastN k l n) (⟨#[]⟩, 0)).2
  | 0, ⟨j, hj, _⟩ => by omega
  | n + 1, ⟨j, hj, hp⟩ => by
    unfold lastN
    by_cases h : 0 < wt k (l.getD n (⟨#[]⟩, 0)).2
    · rw [if_pos h]; exact ⟨by omega, h⟩
    · rw [if_neg h]
      have hjn : j < n := by
        rcases Nat.lt_or_ge j n with h1 | h1
        · exact h1
        · have : j = n := by omega
          subst this
          exact absurd hp h
      obtain ⟨a, b⟩ := lastN_pos k l n ⟨j, hjn, hp⟩
      exact ⟨by omega, b⟩
theorem firstN_hit (k x : Nat) (l : List Tg) : ∀ n i, firstN k x l n = some i → i < n ∧ hitN k x l i = true
  | 0, i, h => by cases h
  | n + 1, i, h => by
    unfold firstN at h
    cases hf : firstN k x l n with
    | some j =>
      rw [hf] at h
      cases h
      obtain ⟨a, b⟩ := firstN_hit k x l n i hf
      exact ⟨by omega, b⟩
    | none =>
      rw [hf] at h
      simp only at h
      split at h
      · cases h; exact ⟨by omega, by assumption⟩
      · cases h
theorem weigh_some (l : List Tg) (d i : Nat) (h : weighN l d = some i) : i < l.length ∧ okT (l.getD i (⟨#[]⟩, 0)) = true := by
  unfold weighN at h
  split at h
  · cases h
  · rename_i hs
    obtain ⟨a, b⟩ := lastN_pos (scaleN l) l l.length (sum_some _ l hs)
    have e : takeN l d = i := by cases h; rfl
    unfold takeN at e
    split at e
    · subst e
      exact ⟨a, wt_pos b⟩
    · cases hf : firstN (scaleN l) (mulN (drawN d) (sumN (scaleN l) l)) l l.length with
      | none => rw [hf] at e; simp at e; subst e; exact ⟨a, wt_pos b⟩
      | some j =>
        rw [hf] at e
        simp at e
        subst e
        obtain ⟨u, v⟩ := firstN_hit _ _ _ _ _ hf
        exact ⟨u, wt_pos (of_decide_eq_true v).1⟩
theorem weigh_none (l : List Tg) (hl : l.length ≤ 1000) (d : Nat) (h : weighN l d = none) : l.any okT = false := by
  unfold weighN at h
  split at h
  · rename_i hs
    cases ha : l.any okT with
    | false => rfl
    | true => have := ok_sum l hl ha; omega
  · cases h
end Go.Proofs.YtcmiappiocfbiaaGreatDoor
