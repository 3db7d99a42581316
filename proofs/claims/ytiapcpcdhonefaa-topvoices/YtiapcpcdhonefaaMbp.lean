/- Member: what holds of quorums, in plain terms. -/
import Derived.Test.YtiapcpcdhonefaaMb4
namespace Go.Proofs.Ytiapcpcdhonefaa

theorem quorum_congr {v l a b : List Int} (h : ∀ x ∈ v, x ∈ a ↔ x ∈ b) : quorumM v l a = quorumM v l b := by
  unfold quorumM
  congr 3
  refine congrArg List.length (List.filter_congr (fun x hx => ?_))
  rw [decide_eq_decide]
  exact h x hx
theorem quorum_more {v l a b : List Int} (h : ∀ x ∈ v, x ∈ a → x ∈ b) (hq : quorumM v l a = true) : quorumM v l b = true := by
  unfold quorumM at *
  simp only [Bool.and_eq_true, decide_eq_true_eq] at *
  refine ⟨hq.1, Nat.lt_of_lt_of_le hq.2 ?_⟩
  clear hq
  induction v with
  | nil => simp
  | cons y r ih =>
    have ih' := ih (fun x hx => h x (List.mem_cons_of_mem _ hx))
    have hy := h y List.mem_cons_self
    by_cases e : y ∈ a
    · simp [e, hy e]
      exact ih'
    · rw [List.filter_cons, if_neg (by simp [e]), List.filter_cons]
      split
      · simp only [List.length_cons]; omega
      · exact ih'
theorem quorum_right {v l a : List Int} (h : quorumM v l a = true) : rightM v l = true := by
  unfold quorumM at h
  simp only [Bool.and_eq_true] at h
  exact h.1
theorem filter_split {α : Type} (p q : α → Bool) : ∀ (v : List α), (∀ x ∈ v, p x = true → q x = false) → (v.filter p).length + (v.filter q).length ≤ v.length
  | [], _ => by simp
  | y :: r, h => by
    have ih := filter_split p q r (fun x hx => h x (List.mem_cons_of_mem _ hx))
    have hy := h y List.mem_cons_self
    rw [List.filter_cons, List.filter_cons]
    cases hp : p y
    · cases hq : q y
      · simp
        omega
      · simp
        omega
    · rw [hy hp]
      simp
      omega
theorem quorum_halves {v l a b : List Int} (h : ∀ x ∈ v, x ∈ a → x ∉ b) : ¬ (quorumM v l a = true ∧ quorumM v l b = true) := by
  rintro ⟨h1, h2⟩
  unfold quorumM at *
  simp only [Bool.and_eq_true, decide_eq_true_eq] at *
  have := filter_split (fun x => decide (x ∈ a)) (fun x => decide (x ∈ b)) v (fun x hx hp => by simpa using h x hx (by simpa using hp))
  omega
theorem quorum_all {v l a : List Int} (h : ∀ x ∈ v, x ∈ a) : quorumM v l a = rightM v l := by
  unfold quorumM
  cases hr : rightM v l with
  | false => rfl
  | true =>
    have h0 := (right_parts hr).2.2.2.2
    rw [List.filter_eq_self.2 (fun x hx => by simpa using h x hx)]
    simp
    omega
theorem quorum_nil (v l : List Int) : quorumM v l [] = false := by
  unfold quorumM
  rw [List.filter_eq_nil_iff.2 (fun x _ => by simp)]
  simp
end Go.Proofs.Ytiapcpcdhonefaa
