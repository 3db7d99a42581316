/- Logs, plainly: lives of a log that adds entries of one byte (TopRecovers). -/
import Derived.Test.YtijcpmbfhfppmaaGreatDoorWpc
namespace Go.Proofs.YtijcpmbfhfppmaaGreatDoor
open Go.ChangeShapes Go.WideShapes Go.ChangeAt Go.RowKit
set_option linter.unusedVariables false

/-- The entries 1, 2, .. each with its index as data; terms from 1 to i that never fall. -/
structure Tr (c : Wc) (i : Nat) : Prop where
  b : c.bi = 0
  at_ : ∀ j (hj : j < c.es.length), ∃ t, c.es[j] = (2, t, j + 1, [(j + 1) % 256]) ∧ 1 ≤ t ∧ t ≤ i
  up : ∀ j (hj : j + 1 < c.es.length), c.es[j].2.1 ≤ c.es[j + 1].2.1
theorem Tr.mono {c : Wc} {i i' : Nat} (h : Tr c i) (hi : i ≤ i') : Tr c i' := ⟨h.b, fun j hj => let ⟨t, h1, h2, h3⟩ := h.at_ j hj; ⟨t, h1, h2, Nat.le_trans h3 hi⟩, h.up⟩
/-- What is synced (c1), and the entries behind it. -/
structure Lv (room : Nat) (ss : Ds) (c c1 : Wc) (es : List EntN) (r1 : List (List Nat)) (i : Nat) : Prop where
  ls : LS room ss c 1 r1 (es.map recE)
  one : contR r1 = some c1
  is : c = { c1 with es := c1.es ++ es }
  tr : Tr c i
  ok : ∀ e ∈ es, EOk e ∧ e.2.2.2.length ≤ 1
  sz : (cat r1).length ≤ 22 + 42 * c1.es.length
theorem one_sum : ∀ es : List EntN, (∀ e ∈ es, EOk e ∧ e.2.2.2.length ≤ 1) → sumN (es.map toI) ≤ 21 * es.length
  | [], _ => by simp [sumN]
  | e :: es, h => by
    have ih := one_sum es (fun x hx => h x (by simp [hx]))
    have h1 := (h e (by simp)).2
    unfold sumN at ih ⊢
    rw [List.map_cons, List.map_cons, List.sum_cons, List.length_cons]
    have h2 : (toI e).2.2.2 = e.2.2.2 := rfl
    rw [h2]
    omega
theorem one_cat (es : List EntN) (h : ∀ e ∈ es, EOk e ∧ e.2.2.2.length ≤ 1) : (cat (es.map recE)).length ≤ 42 * es.length := by
  have h1 := recsE_sum (recsE_yes es (fun e he => (h e he).1))
  have h2 := one_sum es h
  rw [cat_ents]
  omega
theorem Lv.all {room : Nat} {ss : Ds} {c c1 : Wc} {es : List EntN} {r1 : List (List Nat)} {i : Nat} (h : Lv room ss c c1 es r1 i) : (cat (r1 ++ es.map recE)).length ≤ 22 + 42 * c.es.length := by
  have h1 := h.sz
  have h2 := one_cat es h.ok
  have h3 : c.es.length = c1.es.length + es.length := by rw [h.is]; simp
  rw [cat_app, List.length_append]
  omega
theorem Tr.put {c : Wc} {i : Nat} (h : Tr c i) (h1 : 1 ≤ i) : Tr { c with es := c.es ++ [(2, i, c.es.length + 1, [(c.es.length + 1) % 256])] } i := by
  refine ⟨h.b, fun j hj => ?_, fun j hj => ?_⟩
  · simp only [List.length_append, List.length_singleton] at hj
    by_cases hlt : j < c.es.length
    · simp only [List.getElem_append_left hlt]
      exact h.at_ j hlt
    · obtain rfl : j = c.es.length := by omega
      simp only [List.getElem_append_right (Nat.le_refl _), Nat.sub_self, List.getElem_singleton]
      exact ⟨i, rfl, h1, Nat.le_refl _⟩
  · simp only [List.length_append, List.length_singleton] at hj
    by_cases hlt : j + 1 < c.es.length
    · simp only [List.getElem_append_left hlt, List.getElem_append_left (show j < c.es.length by omega)]
      exact h.up j hlt
    · have e : j + 1 = c.es.length := by omega
      simp only [List.getElem_append_left (show j < c.es.length by omega), e, List.getElem_append_right (Nat.le_refl _), Nat.sub_self, List.getElem_singleton]
      obtain ⟨t, q1, q2, q3⟩ := h.at_ j (by omega)
      rw [q1]
      exact q3
theorem Tr.cut {c : Wc} {i m : Nat} (h : Tr c i) : Tr { c with es := c.es.take m } i := by
  refine ⟨h.b, fun j hj => ?_, fun j hj => ?_⟩
  · simp only [List.length_take] at hj
    simp only [List.getElem_take]
    exact h.at_ j (by omega)
  · simp only [List.length_take] at hj
    simp only [List.getElem_take]
    exact h.up j (by omega)
section
variable {room i : Nat} {ss : Ds} {c c1 : Wc} {es : List EntN} {r1 : List (List Nat)}
theorem Lv.begin (hr : 22 ≤ room) : Lv room [(walNm 1, ⟨true, cat (allR wc0), []⟩)] wc0 wc0 [] (allR wc0) 0 := by
  have hb : (allB wc0).length = 22 := by decide +kernel
  refine ⟨(LS.begin hr).2, contR_allR wc0_ok Ix.nil, rfl, ⟨rfl, fun j hj => by simp [wc0] at hj, fun j hj => by simp [wc0] at hj⟩, by simp, ?_⟩
  rw [cat_allR, hb]
  omega
theorem Lv.mono {i' : Nat} (h : Lv room ss c c1 es r1 i) (hi : i ≤ i') : Lv room ss c c1 es r1 i' := ⟨h.ls, h.one, h.is, h.tr.mono hi, h.ok, h.sz⟩
/-- One more entry. -/
theorem Lv.put (h : Lv room ss c c1 es r1 i) (h1 : 1 ≤ i) (h2 : i ≤ 1000) (hl : c.es.length ≤ 1000) (hr : 64 + 42 * c.es.length ≤ min room 262144) :
    ∃ ss', wAppend room 1 c [(2, (i : Int), ((c.es.length + 1 : Nat) : Int), [(c.es.length + 1) % 256])] ss = (0, ss', { c with es := c.es ++ [(2, i, c.es.length + 1, [(c.es.length + 1) % 256])] }, 1) ∧ Lv room ss' { c with es := c.es ++ [(2, i, c.es.length + 1, [(c.es.length + 1) % 256])] } c1 (es ++ [(2, i, c.es.length + 1, [(c.es.length + 1) % 256])]) r1 i := by
  have ho : EOk (2, i, c.es.length + 1, [(c.es.length + 1) % 256]) := ⟨⟨by simp, by simp⟩, ⟨h1, by simp only; omega⟩, ⟨by simp, by simp only; omega⟩, fun hk => by simp at hk, by simp⟩
  have hs : sumN ([(2, i, c.es.length + 1, [(c.es.length + 1) % 256])].map toI) = 21 := by simp [sumN, toI]
  obtain ⟨ss', q1, q2, q3⟩ := h.ls.seq (es := [(2, i, c.es.length + 1, [(c.es.length + 1) % 256])]) (k := c.es.length) (Nat.le_refl _) (fun j hj => by
    obtain rfl : j = 0 := by simp at hj; omega
    simp only [List.getElem_singleton]
    have := h.tr.b
    omega) (by simp) (fun e he => by rw [List.mem_singleton.1 he]; exact ho) (by have := h.all; omega)
  rw [List.take_length] at q1 q2
  have hm : es.map recE ++ [(2, i, c.es.length + 1, [(c.es.length + 1) % 256])].map recE = (es ++ [(2, i, c.es.length + 1, [(c.es.length + 1) % 256])]).map recE := by rw [List.map_append]
  rw [hm] at q2 q3
  refine ⟨ss', q1, q2, h.one, ?_, h.tr.put h1, fun e he => ?_, ?_⟩
  · rw [h.is]
    simp
  · rcases List.mem_append.1 he with he | he
    · exact h.ok e he
    · rw [List.mem_singleton.1 he]; exact ⟨ho, by simp⟩
  · exact h.sz
theorem Lv.sync (h : Lv room ss c c1 es r1 i) : ∃ ss' r1', dSync (walNm 1) ss = (0, ss') ∧ Lv room ss' c c [] r1' i := by
  obtain ⟨q1, q2⟩ := h.ls.sync
  refine ⟨_, r1 ++ es.map recE, q1, ?_, h.ls.cont, by simp, h.tr, by simp, h.all⟩
  rw [List.map_nil]
  exact q2
/-- Behind a crash. -/
theorem Lv.crash (h : Lv room ss c c1 es r1 i) (ks : List Int) : ∃ ss' c' r1', wOpen room (crashS ks 0 ss) = (0, ss', some (c', 1)) ∧ Lv room ss' c' c' [] r1' i ∧ c1.es.length ≤ c'.es.length ∧ c'.es.length ≤ c.es.length := by
  obtain ⟨m, c', hm, hc, q1, q2⟩ := h.ls.crash ks
  rw [List.length_map] at hm
  have htk : (es.map recE).take m = (es.take m).map recE := by rw [List.map_take]
  rw [htk] at hc q1 q2
  have hix := h.ls.ix
  have hf : foldR c1 ((es.take m).map recE) = some { c1 with es := c1.es ++ es.take m } := by
    refine fold_ents (es.take m) c1 (fun e he => (h.ok e (List.mem_of_mem_take he)).1) (fun j hj => ?_)
    rw [List.length_take] at hj
    rw [List.getElem_take]
    have h3 := hix (c1.es.length + j) (by rw [h.is]; simp only [List.length_append]; omega)
    have h4 : c.es[c1.es.length + j]'(by rw [h.is]; simp only [List.length_append]; omega) = es[j]'(by omega) := by
      simp only [h.is]
      rw [List.getElem_append_right (by omega)]
      simp
    rw [h4] at h3
    have h5 : c.bi = c1.bi := by rw [h.is]
    omega
  have hc2 := contR_app h.one hf
  rw [hc] at hc2
  have hc3 : c' = { c1 with es := c1.es ++ es.take m } := Option.some.inj hc2
  have hcc : c' = { c with es := c.es.take (c1.es.length + min m es.length) } := by
    rw [hc3, h.is]
    simp only [List.take_append, Wc.mk.injEq, true_and]
    rw [List.take_of_length_le (show c1.es.length ≤ c1.es.length + min m es.length by omega), show c1.es.length + min m es.length - c1.es.length = min m es.length by omega]
    congr 1
    rcases Nat.le_total m es.length with hq | hq
    · rw [Nat.min_eq_left hq]
    · rw [Nat.min_eq_right hq, List.take_of_length_le hq, List.take_length]
  have hlen : c.es.length = c1.es.length + es.length := by rw [h.is]; simp
  have hl' : c'.es.length = c1.es.length + min m es.length := by rw [hcc]; simp only [List.length_take]; omega
  have htr : Tr c' i := by rw [hcc]; exact h.tr.cut
  refine ⟨_, c', r1 ++ (es.take m).map recE, q1, ⟨by rw [List.map_nil]; exact q2, hc, by simp, htr, by simp, ?_⟩, by omega, by omega⟩
  have h7 := one_cat (es.take m) (fun e he => h.ok e (List.mem_of_mem_take he))
  have h8 := h.sz
  rw [List.length_take] at h7
  rw [cat_app, List.length_append]
  omega
end
end Go.Proofs.YtijcpmbfhfppmaaGreatDoor
