/- Member: what is agreed a quorum has reached, in plain terms. -/
import Derived.Test.YtnclkkoefejjiaaApt
namespace Go.Proofs.Ytnclkkoefejjiaa

def atL (n : Int) (es : List (Int × Int)) : List Int := (es.filter fun e => decide (n ≤ e.2)).map Prod.fst
def abL (n : Int) (es : List (Int × Int)) : List Int := (es.filter fun e => decide (n < e.2)).map Prod.fst
theorem reach_of {es : List (Int × Int)} (hnd : (es.map Prod.fst).Nodup) : ∀ {x i : Int}, (x, i) ∈ es → reachM es x = max i 0 := by
  induction es with
  | nil => intro x i h; cases h
  | cons e r ih =>
    intro x i h
    rw [List.map_cons, List.nodup_cons] at hnd
    rcases List.mem_cons.1 h with rfl | h
    · simp [reachM]
    · have hne : e.1 ≠ x := fun e' => hnd.1 (e' ▸ List.mem_map.2 ⟨(x, i), h, rfl⟩)
      have : reachM (e :: r) x = reachM r x := by simp [reachM, hne]
      rw [this]
      exact ih hnd.2 h
theorem reach_pos {es : List (Int × Int)} {x : Int} (h : 0 < reachM es x) : ∃ i, (x, i) ∈ es ∧ reachM es x = i := by
  unfold reachM at *
  cases hf : es.find? (fun e => decide (e.1 = x)) with
  | none => rw [hf] at h; simp at h
  | some e =>
    rw [hf] at h
    have h1 := List.mem_of_find?_eq_some hf
    have h2 := List.find?_some hf
    simp only [decide_eq_true_eq] at h2
    refine ⟨e.2, ?_, ?_⟩
    · rw [← h2]; exact h1
    · simp only at h ⊢; omega
theorem at_iff {es : List (Int × Int)} (hnd : (es.map Prod.fst).Nodup) {n : Int} (hn : 0 < n) (x : Int) : x ∈ atL n es ↔ n ≤ reachM es x := by
  unfold atL
  constructor
  · intro h
    obtain ⟨e, he, rfl⟩ := List.mem_map.1 h
    obtain ⟨h1, h2⟩ := List.mem_filter.1 he
    rw [reach_of hnd (show (e.1, e.2) ∈ es from h1)]
    have : n ≤ e.2 := by simpa using h2
    omega
  · intro h
    obtain ⟨i, h1, h2⟩ := reach_pos (by omega : 0 < reachM es x)
    exact List.mem_map.2 ⟨(x, i), List.mem_filter.2 ⟨h1, by simp; omega⟩, rfl⟩
theorem ab_iff {es : List (Int × Int)} (hnd : (es.map Prod.fst).Nodup) {n : Int} (hn : 0 ≤ n) (x : Int) : x ∈ abL n es ↔ n < reachM es x := by
  have h := at_iff hnd (n := n + 1) (by omega) x
  have e : abL n es = atL (n + 1) es := by
    unfold abL atL
    congr 1
  rw [e, h]
  omega
theorem min_of (f : Int → Int) : ∀ (A : List Int), A ≠ [] → ∃ z ∈ A, ∀ y ∈ A, f z ≤ f y
  | [], h => absurd rfl h
  | [a], _ => ⟨a, by simp, by simp⟩
  | a :: b :: r, _ => by
    obtain ⟨z, hz, hm⟩ := min_of f (b :: r) (by simp)
    by_cases h : f a ≤ f z
    · refine ⟨a, by simp, fun y hy => ?_⟩
      rcases List.mem_cons.1 hy with rfl | hy
      · exact Int.le_refl _
      · have := hm y hy; omega
    · refine ⟨z, List.mem_cons_of_mem _ hz, fun y hy => ?_⟩
      rcases List.mem_cons.1 hy with rfl | hy
      · omega
      · exact hm y hy
theorem filter_mono {p q : Int → Bool} : ∀ (v : List Int), (∀ x ∈ v, p x = true → q x = true) → (v.filter p).length ≤ (v.filter q).length
  | [], _ => by simp
  | y :: r, h => by
    have ih := filter_mono (p := p) (q := q) r (fun x hx => h x (List.mem_cons_of_mem _ hx))
    have hy := h y List.mem_cons_self
    rw [List.filter_cons, List.filter_cons]
    cases hp : p y
    · cases hq : q y
      · simpa using ih
      · simp; omega
    · rw [hy hp]; simpa using ih
theorem reached_ok {v l : List Int} {es : List (Int × Int)} (hr : rightM v l = true) (hnd : (es.map Prod.fst).Nodup) : 0 ≤ agreedM v l es ∧ (agreedM v l es ≠ 0 → quorumM v l (atL (agreedM v l es) es) = true) ∧ quorumM v l (abL (agreedM v l es) es) = false := by
  have hA := agreed_is (es := es) hr
  generalize agreedM v l es = n at *
  refine ⟨hA.pos, fun h0 => ?_, ?_⟩
  · rcases hA.from_ with e | ⟨y, _, _, hc⟩
    · exact absurd e h0
    · have hn : 0 < n := by have := hA.pos; omega
      unfold quorumM
      rw [hr, Bool.true_and, decide_eq_true_eq]
      unfold countGe at hc
      rw [show (v.filter fun x => decide (x ∈ atL n es)) = v.filter fun x => decide (n ≤ reachM es x) from List.filter_congr (fun x _ => by rw [decide_eq_decide]; exact at_iff hnd hn x)]
      exact hc
  · cases hq : quorumM v l (abL n es) with
    | false => rfl
    | true =>
      exfalso
      unfold quorumM at hq
      rw [hr, Bool.true_and, decide_eq_true_eq] at hq
      have hne : (v.filter fun x => decide (x ∈ abL n es)) ≠ [] := by
        intro e
        rw [e] at hq
        simp at hq
      obtain ⟨z, hz, hm⟩ := min_of (reachM es) _ hne
      obtain ⟨hz1, hz2⟩ := List.mem_filter.1 hz
      have hz3 : n < reachM es z := (ab_iff hnd hA.pos z).1 (by simpa using hz2)
      have hcount : (v.filter fun x => decide (x ∈ abL n es)).length ≤ countGe v (reachM es) (reachM es z) :=
        filter_mono v (fun x hx hp => by
          have := hm x (List.mem_filter.2 ⟨hx, hp⟩)
          simpa using this)
      have := hA.top z hz1 (by omega)
      omega
theorem nodup_snoc {es : List (Int × Int)} {j : Nat} (hj : j < es.length) (h : ((es.take j).map Prod.fst).Nodup) (hn : ∀ t, t < j → ∀ (ht : t < es.length), es[t].1 ≠ es[j].1) : ((es.take (j + 1)).map Prod.fst).Nodup := by
  rw [List.take_succ_eq_append_getElem hj, List.map_append, List.nodup_append]
  refine ⟨h, by simp, ?_⟩
  intro a ha b hb
  obtain ⟨e, he, rfl⟩ := List.mem_map.1 ha
  obtain ⟨i, hi, rfl⟩ := List.getElem_of_mem he
  rw [List.length_take] at hi
  simp only [List.map_cons, List.map_nil, List.mem_singleton] at hb
  subst hb
  rw [List.getElem_take]
  exact hn i (by omega) (by omega)
theorem at_snoc (n : Int) {es : List (Int × Int)} {j : Nat} (hj : j < es.length) : atL n (es.take (j + 1)) = atL n (es.take j) ++ (if n ≤ es[j].2 then [es[j].1] else []) := by
  rw [List.take_succ_eq_append_getElem hj]
  unfold atL
  rw [List.filter_append, List.map_append]
  congr 1
  by_cases h : n ≤ es[j].2 <;> simp [h]
theorem ab_snoc (n : Int) {es : List (Int × Int)} {j : Nat} (hj : j < es.length) : abL n (es.take (j + 1)) = abL n (es.take j) ++ (if n < es[j].2 then [es[j].1] else []) := by
  rw [List.take_succ_eq_append_getElem hj]
  unfold abL
  rw [List.filter_append, List.map_append]
  congr 1
  by_cases h : n < es[j].2 <;> simp [h]
theorem at_len (n : Int) (es : List (Int × Int)) (j : Nat) : (atL n (es.take j)).length ≤ j := by
  unfold atL
  rw [List.length_map]
  exact Nat.le_trans (List.length_filter_le _ _) (by rw [List.length_take]; omega)
theorem ab_len (n : Int) (es : List (Int × Int)) (j : Nat) : (abL n (es.take j)).length ≤ j := by
  unfold abL
  rw [List.length_map]
  exact Nat.le_trans (List.length_filter_le _ _) (by rw [List.length_take]; omega)
end Go.Proofs.Ytnclkkoefejjiaa
