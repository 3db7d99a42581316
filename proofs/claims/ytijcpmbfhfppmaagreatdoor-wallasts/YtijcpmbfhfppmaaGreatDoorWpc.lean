/- Logs, plainly: entries that stand one behind the other. -/
import Derived.Test.YtijcpmbfhfppmaaGreatDoorWda
namespace Go.Proofs.YtijcpmbfhfppmaaGreatDoor
open Go.ChangeShapes Go.WideShapes Go.ChangeAt Go.RowKit
set_option linter.unusedVariables false

theorem toN_toI (e : EntN) : toN (toI e) = e := by
  obtain ⟨a, b, c, d⟩ := e
  simp [toN, toI]
theorem addAll_end : ∀ (es : List EntN) (c : Wc), (∀ j (hj : j < es.length), es[j].2.2.1 = c.bi + 1 + c.es.length + j) → addAll c (es.map toI) = { c with es := c.es ++ es }
  | [], c, _ => by simp [addAll]
  | e :: r, c, hi => by
    have h0 := hi 0 (by simp)
    simp only [List.getElem_cons_zero] at h0
    have ha : addW c (toN (toI e)) = { c with es := c.es ++ [e] } := by
      rw [toN_toI]
      unfold addW
      rw [List.take_of_length_le (by omega)]
    show addAll (addW c (toN (toI e))) (r.map toI) = _
    rw [ha, addAll_end r _ (fun j hj => ?_)]
    · simp
    · have := hi (j + 1) (by simpa using hj)
      simp only [List.getElem_cons_succ] at this
      rw [this, List.length_append]
      simp only [List.length_singleton]
      omega
theorem addAll_seq {c : Wc} {es : List EntN} {k : Nat} (hk : k ≤ c.es.length) (hi : ∀ j (hj : j < es.length), es[j].2.2.1 = c.bi + 1 + k + j) (h0 : es ≠ []) : addAll c (es.map toI) = { c with es := c.es.take k ++ es } := by
  cases es with
  | nil => exact absurd rfl h0
  | cons e r =>
    have h1 := hi 0 (by simp)
    simp only [List.getElem_cons_zero] at h1
    have ha : addW c (toN (toI e)) = { c with es := c.es.take k ++ [e] } := by
      rw [toN_toI]
      unfold addW
      rw [show e.2.2.1 - c.bi - 1 = k by omega]
    show addAll (addW c (toN (toI e))) (r.map toI) = _
    rw [ha, addAll_end r _ (fun j hj => ?_)]
    · simp
    · have := hi (j + 1) (by simpa using hj)
      simp only [List.getElem_cons_succ] at this
      rw [this, List.length_append, List.length_take]
      simp only [List.length_singleton]
      omega
theorem chain_seq : ∀ (es : List EntN) (i : Nat), (∀ j (hj : j < es.length), es[j].2.2.1 = i + 1 + j) → chainI (i : Int) (es.map toI) = true
  | [], _, _ => rfl
  | e :: r, i, hi => by
    have h0 := hi 0 (by simp)
    simp only [List.getElem_cons_zero] at h0
    rw [List.map_cons, chainI_cons]
    have h1 : (toI e).2.2.1 = ((i + 1 : Nat) : Int) := by show (e.2.2.1 : Int) = _; omega
    rw [h1, chain_seq r (i + 1) (fun j hj => by
      have := hi (j + 1) (by simpa using hj)
      simp only [List.getElem_cons_succ] at this
      omega)]
    simp
theorem fitAll_seq {c : Wc} {es : List EntN} {k : Nat} (hk : k ≤ c.es.length) (hi : ∀ j (hj : j < es.length), es[j].2.2.1 = c.bi + 1 + k + j) : fitAllW c (es.map toI) = true := by
  cases es with
  | nil => rfl
  | cons e r =>
    have h1 := hi 0 (by simp)
    simp only [List.getElem_cons_zero] at h1
    rw [List.map_cons, fitAllW_cons]
    have h2 : (toI e).2.2.1 = (e.2.2.1 : Int) := rfl
    rw [h2, fitsW_at (by omega) (by omega), chain_seq r e.2.2.1 (fun j hj => by
      have := hi (j + 1) (by simpa using hj)
      simp only [List.getElem_cons_succ] at this
      omega)]
    rfl
/-- Entries one behind the other are added where there is room. -/
theorem LS.seq {room n : Nat} {ss : Ds} {c : Wc} {r1 r2 : List (List Nat)} (h : LS room ss c n r1 r2) {es : List EntN} {k : Nat} (hk : k ≤ c.es.length) (hi : ∀ j (hj : j < es.length), es[j].2.2.1 = c.bi + 1 + k + j) (h0 : es ≠ []) (ho : ∀ e ∈ es, EOk e)
    (hs : (cat (r1 ++ r2)).length + 2 * sumN (es.map toI) ≤ min room 262144) : ∃ ss', wAppend room n c (es.map toI) ss = (0, ss', { c with es := c.es.take k ++ es }, n) ∧ LS room ss' { c with es := c.es.take k ++ es } n r1 (r2 ++ es.map recE) ∧ (cat (r1 ++ (r2 ++ es.map recE))).length ≤ (cat (r1 ++ r2)).length + 2 * sumN (es.map toI) := by
  have hr := recsE_yes es ho
  have hl := recsE_sum hr
  rcases h.append_ok hr (fitAll_seq hk hi) (by omega) with ⟨q, _, _⟩ | ⟨ss', q1, q2⟩
  · omega
  · have hm : (es.map toI).map (fun e => recE (toN e)) = es.map recE := by
      rw [List.map_map]
      refine List.map_congr_left fun e _ => ?_
      show recE (toN (toI e)) = recE e
      rw [toN_toI]
    rw [addAll_seq hk hi h0] at q1 q2
    rw [hm] at q2
    refine ⟨ss', q1, q2, ?_⟩
    have hc := recsE_cat hr
    rw [hm] at hc
    rw [← List.append_assoc, cat_app, List.length_append, ← hc]
    omega
/-- Entries without data, of these terms, behind an index. -/
def nops (k : Nat) (us : List Nat) : List EntN := us.mapIdx fun j t => (1, t, k + j + 1, [])
def cW (ts : List Nat) : Wc := ⟨0, 0, 0, 0, nops 0 ts⟩
theorem nops_len (k : Nat) (us : List Nat) : (nops k us).length = us.length := by simp [nops]
theorem nops_at (k : Nat) (us : List Nat) (j : Nat) (hj : j < (nops k us).length) : (nops k us)[j] = (1, us[j]'(by rw [nops_len] at hj; exact hj), k + j + 1, []) := by simp [nops]
theorem nops_sum (k : Nat) (us : List Nat) : sumN ((nops k us).map toI) = 20 * us.length := by
  have : ((nops k us).map toI).map (fun e => 20 + min e.2.2.2.length 6000) = List.replicate us.length 20 := by
    apply List.ext_getElem
    · simp [nops_len]
    · intro i h1 h2
      simp [nops, toI]
  unfold sumN
  rw [this]
  simp [Nat.mul_comm]
theorem cW_put (ts us : List Nat) (k : Nat) (hk : k ≤ ts.length) : (cW ts).es.take k ++ nops k us = (cW (ts.take k ++ us)).es := by
  apply List.ext_getElem
  · simp [cW, nops]
  · intro i h1 h2
    by_cases hi : i < k
    · rw [List.getElem_append_left (by simp [cW, nops]; omega)]
      simp [cW, nops, hi, List.length_take, Nat.min_eq_left hk]
    · rw [List.getElem_append_right (by simp [cW, nops]; omega)]
      simp [cW, nops, List.getElem_append, hi, List.length_take, Nat.min_eq_left hk]
      omega
theorem nops_ok {k : Nat} {us : List Nat} (hu : ∀ u ∈ us, 1 ≤ u ∧ u ≤ 256) (hk : k + us.length ≤ 1000) : ∀ e ∈ nops k us, EOk e := by
  intro e he
  obtain ⟨j, hj, rfl⟩ := List.getElem_of_mem he
  have hj' : j < us.length := by rw [nops_len] at hj; exact hj
  rw [nops_at]
  have := hu us[j] (List.getElem_mem _)
  refine ⟨⟨by simp, by simp⟩, ⟨by simp only; omega, by simp only; omega⟩, ⟨by simp only; omega, by simp only; omega⟩, fun _ => rfl, by simp⟩
theorem ow_step {room : Nat} {ss : Ds} {ts us : List Nat} {r1 r2 : List (List Nat)} (h : LS room ss (cW ts) 1 r1 r2) {k : Nat} (hk : k ≤ ts.length) (h0 : us ≠ []) (hu : ∀ u ∈ us, 1 ≤ u ∧ u ≤ 256) (hl : k + us.length ≤ 1000) (hs : (cat (r1 ++ r2)).length + 40 * us.length ≤ min room 262144) :
    ∃ ss', wAppend room 1 (cW ts) ((nops k us).map toI) ss = (0, ss', cW (ts.take k ++ us), 1) ∧ ∃ r2', LS room ss' (cW (ts.take k ++ us)) 1 r1 r2' ∧ (cat (r1 ++ r2')).length ≤ (cat (r1 ++ r2)).length + 40 * us.length := by
  have hsm := nops_sum k us
  obtain ⟨ss', q1, q2, q3⟩ := h.seq (es := nops k us) (k := k) (by simp [cW, nops]; exact hk) (fun j hj => by rw [nops_at]; simp only [cW]; omega) (fun e => h0 (List.eq_nil_of_length_eq_zero (by rw [← nops_len k us, e]; rfl))) (nops_ok hu hl) (by omega)
  have he : ({ cW ts with es := (cW ts).es.take k ++ nops k us } : Wc) = cW (ts.take k ++ us) := by rw [cW_put ts us k hk]; rfl
  rw [he] at q1 q2
  exact ⟨ss', q1, _, q2, by omega⟩
end Go.Proofs.YtijcpmbfhfppmaaGreatDoor
