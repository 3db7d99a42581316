/- Flight: the program's packets and the document's, tied: what is under way behind a Send, a Take, a Part. -/
import Derived.Test.YticemhnfcelpmaaRf9
import Derived.Test.YticemhnfcelpmaaRf10
namespace Go.Proofs.Yticemhnfcelpmaa
open Go.ChangeShapes Go.WideShapes Go.ChangeAt Go.RowKit

/-- The i-th packet ever sent bears the number i + 1. -/
def Ids (zs : List SPk) : Prop := ∀ k (hk : k < zs.length), zs[k].1.1.1 = (k : Int) + 1
theorem Ids.nil : Ids [] := fun k hk => by simp at hk
theorem Ids.snoc {zs : List SPk} (h : Ids zs) (f t : Int) (l : List Nat) (hd : Hdl) (g : Bool) : Ids (zs ++ [((((zs.length : Int) + 1, f, t, l), hd), g)]) := by
  intro k hk
  by_cases e : k < zs.length
  · rw [List.getElem_append_left e]
    exact h k e
  · have e' : k = zs.length := by rw [List.length_append, List.length_singleton] at hk; omega
    subst e'
    simp
theorem Ids.gone {zs : List SPk} (h : Ids zs) (j : Nat) (hj : j < zs.length) : Ids (zs.set j (zs[j].1, true)) := by
  intro k hk
  rw [List.length_set] at hk
  by_cases e : k = j
  · subst e
    rw [List.getElem_set_self]
    exact h k hj
  · rw [List.getElem_set_ne (fun e' => e e'.symm)]
    exact h k (by simpa using hk)
theorem Ids.lose {zs : List SPk} (h : Ids zs) (f t : Int) : Ids (zs.map (loseL f t)) := by
  intro k hk
  rw [List.length_map] at hk
  rw [List.getElem_map]
  have e : (loseL f t zs[k]).1 = zs[k].1 := by unfold loseL; split <;> rfl
  rw [e]
  exact h k hk
theorem alive_cons (z : SPk) (zs : List SPk) : alive (z :: zs) = (if z.2 then [] else [z.1]) ++ alive zs := by
  unfold alive
  rw [List.filter_cons]
  cases z.2 <;> simp
theorem alive_lose (f t : Int) (zs : List SPk) : alive (zs.map (loseL f t)) = keep (ofLink f t) (alive zs) := by
  induction zs with
  | nil => rfl
  | cons z zs ih =>
    rw [List.map_cons, alive_cons, alive_cons, ih]
    unfold keep
    rw [List.filter_append]
    congr 1
    unfold loseL
    cases hz : z.2
    · by_cases e : z.1.1.2.1 = f ∧ z.1.1.2.2.1 = t
      · rw [if_pos e]
        simp [ofLink, e.1, e.2]
      · rw [if_neg e, hz]
        have : (decide (z.1.1.2.1 = f) && decide (z.1.1.2.2.1 = t)) = false := by
          by_cases h1 : z.1.1.2.1 = f
          · have h2 : ¬ z.1.1.2.2.1 = t := fun h2 => e ⟨h1, h2⟩
            simp [h2]
          · simp [h1]
        have hp : (!ofLink f t z.1.1) = true := by unfold ofLink; rw [this]; rfl
        simp [hp]
    · by_cases e : z.1.1.2.1 = f ∧ z.1.1.2.2.1 = t
      · rw [if_pos e]; simp
      · rw [if_neg e, hz]; simp
theorem alive_mem {zs : List SPk} {x : Pkt × Hdl} (h : x ∈ alive zs) : ∃ z ∈ zs, z.1 = x := by
  unfold alive at h
  obtain ⟨z, hz, rfl⟩ := List.mem_map.1 h
  exact ⟨z, (List.mem_filter.1 hz).1, rfl⟩
theorem alive_gone (id : Int) : ∀ (zs : List SPk) (j : Nat) (hj : j < zs.length), zs[j].1.1.1 = id → (∀ k (hk : k < zs.length), k ≠ j → zs[k].1.1.1 ≠ id) → alive (zs.set j (zs[j].1, true)) = keep (sameId id) (alive zs)
  | [], j, hj, _, _ => by simp at hj
  | z :: zs, 0, _, he, hne => by
    rw [List.set_cons_zero, alive_cons, alive_cons]
    have h1 : keep (sameId id) (alive zs) = alive zs := by
      refine keep_all fun x hx => ?_
      obtain ⟨y, hy, rfl⟩ := alive_mem hx
      obtain ⟨k, hk, rfl⟩ := List.mem_iff_getElem.1 hy
      have := hne (k + 1) (by simpa using hk) (by omega)
      simpa [sameId] using this
    have h2 : keep (sameId id) ((if z.2 then [] else [z.1]) ++ alive zs) = keep (sameId id) (if z.2 then [] else [z.1]) ++ keep (sameId id) (alive zs) := by unfold keep; rw [List.filter_append]
    rw [h2, h1]
    have h3 : keep (sameId id) (if z.2 then [] else [z.1]) = [] := by
      cases z.2
      · have he' : z.1.1.1 = id := he
        simp [keep, sameId, he']
      · rfl
    rw [h3]
    simp
  | z :: zs, j + 1, hj, he, hne => by
    have ih := alive_gone id zs j (by simpa using hj) (by simpa using he) (fun k hk hkj => by
      have := hne (k + 1) (by simpa using hk) (by omega)
      simpa using this)
    rw [List.set_cons_succ, alive_cons, alive_cons]
    have h2 : keep (sameId id) ((if z.2 then [] else [z.1]) ++ alive zs) = keep (sameId id) (if z.2 then [] else [z.1]) ++ keep (sameId id) (alive zs) := by unfold keep; rw [List.filter_append]
    rw [h2, ← ih]
    congr 1
    have hz : z.1.1.1 ≠ id := by
      have := hne 0 (by simp) (by omega)
      simpa using this
    cases z.2
    · simp [keep, sameId, hz]
    · rfl
theorem Ids.alive_gone {zs : List SPk} (h : Ids zs) (j : Nat) (hj : j < zs.length) : alive (zs.set j (zs[j].1, true)) = keep (sameId zs[j].1.1.1) (alive zs) :=
  Go.Proofs.Yticemhnfcelpmaa.alive_gone _ zs j hj rfl (fun k hk hkj => by rw [h k hk, h j hj]; omega)
theorem alive_nth {zs : List SPk} (j : Nat) (hj : j < zs.length) (hg : zs[j].2 = false) : (alive zs)[(alive (zs.take j)).length]? = some zs[j].1 := by
  have e1 : zs = zs.take (j + 1) ++ zs.drop (j + 1) := (List.take_append_drop _ _).symm
  have e2 : alive zs = alive (zs.take (j + 1)) ++ alive (zs.drop (j + 1)) := by
    conv => lhs; rw [e1]
    unfold alive
    rw [List.filter_append, List.map_append]
  have hl := alive_take j hj
  rw [hg] at hl
  rw [e2, hl]
  simp
theorem keep_fst {pick : Pkt → Bool} : ∀ {xs ys : List (Pkt × Hdl)}, xs.map (·.1) = ys.map (·.1) → (keep pick xs).map (·.1) = (keep pick ys).map (·.1)
  | [], [], _ => rfl
  | [], _ :: _, h => by simp at h
  | _ :: _, [], h => by simp at h
  | x :: xs, y :: ys, h => by
    simp only [List.map_cons, List.cons.injEq] at h
    have ih := keep_fst (pick := pick) h.2
    unfold keep at ih ⊢
    rw [List.filter_cons, List.filter_cons, h.1]
    cases pick y.1 <;> simp [ih, h.1]
end Go.Proofs.Yticemhnfcelpmaa
