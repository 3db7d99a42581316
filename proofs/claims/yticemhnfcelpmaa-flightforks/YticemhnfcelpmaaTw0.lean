/- Flight: what deeds make of both nets, by the document. -/
import Derived.Test.YticemhnfcelpmaaTie
namespace Go.Proofs.Yticemhnfcelpmaa
open Go.ChangeShapes Go.WideShapes Go.ChangeAt Go.RowKit Go.Maps

def hasL (n : Nat) (i : Int) : Bool := decide (0 ≤ i) && decide (i < n)
theorem hasP_eq (xs : List (Pkt × Hdl)) (i : Int) : hasP xs i = hasL xs.length i := rfl
theorem hasL_yes {n : Nat} {i : Int} (h : hasL n i = true) : ∃ j : Nat, i = (j : Int) ∧ j < n := by
  simp only [hasL, Bool.and_eq_true, decide_eq_true_eq] at h
  exact ⟨i.toNat, by omega, by omega⟩
def dblX (n : Nat) (i : Int) : Nat := if hasL n i = false then 8 else if 128 ≤ n then 6 else 0
theorem doubleX_eq (xs : List (Pkt × Hdl)) (i : Int) : doubleX xs i = dblX xs.length i := rfl
theorem dblX_zero {n : Nat} {i : Int} (h : dblX n i = 0) : hasL n i = true ∧ n < 128 := by
  unfold dblX at h
  split at h
  · cases h
  · rename_i h1
    split at h
    · cases h
    · rename_i h2
      exact ⟨by simpa using h1, by omega⟩
def FS.old (s : FS) : FS := { s with age := s.age + 1 }
def FS.nth (s : FS) (i : Int) : Pkt := s.pk.getD i.toNat (0, 0, 0, [])
def FS.put (s : FS) (f t : Int) (l : List Nat) : FS := { s with pk := s.pk ++ [((s.tot : Int) + 1, f, t, l)], tot := s.tot + 1, age := s.age + 1 }
def sendS (s : FS) (f t : Int) (l : List Nat) : FS := if sendX s.S s.pk.length f t l.length = 0 then s.put f t l else s.old
def sendR (s : FS) (f t : Int) (l : List Nat) : Int × Nat := if sendX s.S s.pk.length f t l.length = 0 then ((s.tot : Int) + 1, 0) else (0, sendX s.S s.pk.length f t l.length)
def dblS (s : FS) (i : Int) : FS := if dblX s.pk.length i = 0 then s.put (s.nth i).2.1 (s.nth i).2.2.1 (s.nth i).2.2.2 else s.old
def dblR (s : FS) (i : Int) : Int × Nat := if dblX s.pk.length i = 0 then ((s.tot : Int) + 1, 0) else (0, dblX s.pk.length i)
def FS.without (s : FS) (pick : Pkt → Bool) : FS := { s with pk := s.pk.filter (fun p => !pick p), age := s.age + 1 }
def takeS (s : FS) (i : Int) : FS := if hasL s.pk.length i = true then s.without (sameId (s.nth i).1) else s.old
def partS (s : FS) (f t : Int) : FS := if isL f t = true then { s.without (ofLink f t) with S := parts s.S f t } else s.old
def healS (s : FS) (f t : Int) : FS := if isL f t = true then { s.old with S := heals s.S f t } else s.old
def linkR (f t : Int) : Nat := if isL f t = true then 0 else 2
def FS.at (s : FS) (k : Int) : Int := s.ck.getD (k - 1).toNat 0
def tickS (s : FS) (k : Int) : FS := if isN k = true then { s.old with ck := s.ck.set (k - 1).toNat (s.at k + 1) } else s.old
def tickR (s : FS) (k : Int) : Int × Nat := if isN k = true then (s.at k + 1, 0) else (0, 2)
def nowR (s : FS) (k : Int) : Int := if isN k = true then s.at k else 0
section
variable {s : FS}
theorem FOk.older (h : FOk s) : FOk s.old := { h with old := Nat.le_succ_of_le h.old, ckb := fun j => by have := h.ckb j; simp only [FS.old]; omega }
theorem FOk.putOk (h : FOk s) (f t : Int) (l : List Nat) (hl : l.length ≤ 65536) (hf : s.pk.length < 128) : FOk (s.put f t l) := by
  refine ⟨?_, ?_, ?_, ?_, ?_, ?_, h.nine, fun j => ?_, h.no⟩
  · show (s.pk ++ [_]).Pairwise _
    rw [List.pairwise_append]
    refine ⟨h.rise, List.pairwise_singleton _ _, fun p hp q hq => ?_⟩
    rw [List.mem_singleton] at hq
    subst hq
    have := (h.ids p hp).2
    simp only
    omega
  · intro p hp
    simp only [FS.put] at hp ⊢
    rcases List.mem_append.1 hp with h1 | h1
    · have := h.ids p h1
      omega
    · rw [List.mem_singleton] at h1
      subst h1
      simp only
      omega
  · intro p hp
    simp only [FS.put] at hp
    rcases List.mem_append.1 hp with h1 | h1
    · exact h.len p h1
    · rw [List.mem_singleton] at h1
      subst h1
      exact hl
  · have := h.few
    simp only [FS.put, List.length_append, List.length_singleton]
    omega
  · simp only [FS.put, List.length_append, List.length_singleton]
    omega
  · have := h.old
    simp only [FS.put]
    omega
  · have := h.ckb j
    simp only [FS.put]
    omega
theorem FOk.withoutOk (h : FOk s) (pick : Pkt → Bool) : FOk (s.without pick) := by
  have hl : (s.pk.filter (fun p => !pick p)).length ≤ s.pk.length := List.length_filter_le _ _
  refine ⟨h.rise.filter _, fun p hp => h.ids p (List.mem_filter.1 hp).1, fun p hp => h.len p (List.mem_filter.1 hp).1, ?_, ?_, ?_, h.nine, fun j => ?_, h.no⟩
  · have := h.few
    simp only [FS.without]
    omega
  · have := h.full
    simp only [FS.without]
    omega
  · have := h.old
    simp only [FS.without]
    omega
  · have := h.ckb j
    simp only [FS.without]
    omega
theorem FOk.send (h : FOk s) (f t : Int) (l : List Nat) : FOk (sendS s f t l) := by
  unfold sendS
  split
  · rename_i h0
    obtain ⟨_, h1, h2, _⟩ := sendX_zero h0
    exact h.putOk f t l h1 h2
  · exact h.older
theorem FS.nth_mem (s : FS) (j : Nat) (hj : j < s.pk.length) : s.nth (j : Int) = s.pk[j] := by
  unfold FS.nth
  simp [List.getElem?_eq_getElem hj]
theorem FOk.dbl (h : FOk s) (i : Int) : FOk (dblS s i) := by
  unfold dblS
  split
  · rename_i h0
    obtain ⟨h1, h2⟩ := dblX_zero h0
    obtain ⟨j, rfl, hj⟩ := hasL_yes h1
    refine h.putOk _ _ _ ?_ h2
    rw [s.nth_mem j hj]
    exact h.len _ (List.getElem_mem hj)
  · exact h.older
theorem FOk.take (h : FOk s) (i : Int) : FOk (takeS s i) := by
  unfold takeS
  split
  · exact h.withoutOk _
  · exact h.older
theorem FOk.part (h : FOk s) (f t : Int) : FOk (partS s f t) := by
  unfold partS
  split
  · rename_i hL
    refine { h.withoutOk (ofLink f t) with no := fun f' t' hn => ?_ }
    show parts s.S f t f' t' = false
    unfold parts
    rw [h.no f' t' hn, Bool.or_false]
    simp only [Bool.and_eq_false_iff, decide_eq_false_iff_not]
    by_cases e1 : f' = f
    · by_cases e2 : t' = t
      · subst e1 e2
        rw [hL] at hn
        cases hn
      · exact .inr e2
    · exact .inl e1
  · exact h.older
theorem FOk.heal (h : FOk s) (f t : Int) : FOk (healS s f t) := by
  unfold healS
  split
  · refine { h.older with no := fun f' t' hn => ?_ }
    show heals s.S f t f' t' = false
    unfold heals
    rw [h.no f' t' hn, Bool.and_false]
  · exact h.older
theorem FOk.tick (h : FOk s) (k : Int) : FOk (tickS s k) := by
  unfold tickS
  split
  · refine { h.older with nine := by simp only [List.length_set]; exact h.nine, ckb := fun j => ?_ }
    simp only [FS.old]
    have hj := h.ckb j
    have hk := h.ckb (k - 1).toNat
    rw [List.getD_eq_getElem?_getD, List.getElem?_set]
    split
    · split
      · simp only [Option.getD_some, FS.at]
        omega
      · simp only [Option.getD_none]
        omega
    · rw [← List.getD_eq_getElem?_getD]
      omega
  · exact h.older
theorem sendX_congr {S S' : Int → Int → Bool} (h : ∀ f t, isL f t = true → S f t = S' f t) (n : Nat) (f t : Int) (m : Nat) : sendX S n f t m = sendX S' n f t m := by
  unfold sendX
  cases hL : isL f t
  · simp
  · rw [h f t hL]
theorem map_keep (pick : Pkt → Bool) (xs : List (Pkt × Hdl)) : (keep pick xs).map (·.1) = (xs.map (·.1)).filter (fun p => !pick p) := by
  unfold keep
  rw [List.filter_map]
  rfl
end
end Go.Proofs.Yticemhnfcelpmaa
