/- Heads, in plain words: a head without a host, or with two. -/
import Derived.Test.YtmmiadlmdjfepaaDoorHdu
import Derived.Test.YtmmiadlmdjfepaaDoorHr7
namespace Go.Proofs.YtmmiadlmdjfepaaDoor
set_option linter.unusedVariables false

def lineG (f : Fd) : Tx := f.name ++ 58 :: f.value
def firstG (h : Hd) : Tx := h.method ++ 32 :: (h.path ++ 32 :: versionL)
def nonH (l : List Fd) : List Fd := l.filter (fun f => !(f.name == hostName))
/-- The text of a head without its hosts, up to a field. -/
def sTx (h : Hd) (j : Nat) : Tx := firstG h ++ crlf ++ endedL ((nonH (h.fields.take j)).map lineG)
theorem nonH_step (l : List Fd) (j : Nat) (hj : j < l.length) : nonH (l.take (j + 1)) = if l[j].name == hostName then nonH (l.take j) else nonH (l.take j) ++ [l[j]] := by
  unfold nonH
  rw [List.take_add_one, List.getElem?_eq_getElem hj, Option.toList_some, List.filter_append, List.filter_cons, List.filter_nil]
  cases l[j].name == hostName <;> simp
theorem sTx_host (h : Hd) (j : Nat) (hj : j < h.fields.length) (hn : (h.fields[j].name == hostName) = true) : sTx h (j + 1) = sTx h j := by
  unfold sTx
  rw [nonH_step _ _ hj, hn]
  rfl
theorem sTx_other (h : Hd) (j : Nat) (hj : j < h.fields.length) (hn : (h.fields[j].name == hostName) = false) : sTx h (j + 1) = sTx h j ++ (lineG h.fields[j] ++ crlf) := by
  unfold sTx
  rw [nonH_step _ _ hj, hn]
  simp [endedL, List.append_assoc]
theorem hosts_nonH (l : List Fd) : hostsOf (nonH l) = [] := by
  unfold hostsOf nonH
  rw [List.filter_filter, List.filter_eq_nil_iff]
  intro f _ h
  simp at h
theorem none_bad (h : Hd) (m p q x : Tx) (fs : List Fd) (hh : hostOfL fs = none) : writeL ⟨m, p, q, x, fs⟩ = .bad 4 := by
  unfold writeL mayBeL
  simp only
  rw [hh]
  simp
theorem hostOf_none (l : List Fd) : hostOfL (nonH l) = none := by unfold hostOfL; rw [hosts_nonH]
theorem hostOf_two (l : List Fd) (f : Fd) (h : hostsOf l = [f]) : hostOfL (l ++ hostsOf l) = none := by
  have hf : f ∈ hostsOf l := by rw [h]; simp
  have hn : f.name = hostName := eq_of_beq (List.mem_filter.1 hf).2
  unfold hostOfL
  rw [hosts_app, h, hosts_cons f [] hn]
  rfl
theorem one_of {l : List Fd} {x : Tx} (h : hostOfL l = some x) : ∃ f, hostsOf l = [f] := by
  unfold hostOfL at h
  split at h
  · rename_i f hf; exact ⟨f, hf⟩
  · cases h
theorem field_lineG {f : Fd} (h : fdOk f = true) : fieldL (lineG f) = some f := by
  obtain ⟨h1, hv⟩ := Bool.and_eq_true_iff.1 h
  obtain ⟨ht, hl⟩ := Bool.and_eq_true_iff.1 h1
  have hc : cutL [58] (lineG f) = (f.name, some f.value) := cut1_app (token_not ht (c := 58) (by decide)) _
  have htr : trimB f.value = f.value := (eq_of_beq (Bool.and_eq_true_iff.1 hv).2).symm
  unfold fieldL behindL
  rw [hc]
  simp only [Option.isSome_some, Option.getD_some, htr, ht, hv]
  rw [← eq_of_beq hl]
  rfl
theorem fields_linesG : ∀ (l : List Fd), l.all fdOk = true → fieldsOf (l.map lineG) = some l
  | [], _ => rfl
  | f :: t, h => by
    rw [List.all_cons, Bool.and_eq_true] at h
    rw [List.map_cons, fieldsOf, field_lineG h.1, fields_linesG t h.2]
    rfl
theorem parse_ended (a : Tx) (t : List Tx) (h13 : ∀ x ∈ a :: t, (13 : UInt8) ∉ x) (hne : ∀ x ∈ t, x ≠ []) (hl : (endedL (a :: t) ++ crlf).length ≤ 2048) (hr : readLines a t = none) : parseL (endedL (a :: t) ++ crlf) = .bad 4 := by
  have c := cut4_join (a :: t) (by simp) h13 hne []
  rw [List.append_nil] at c
  have e : endedL (a :: t) ++ crlf = joinL (a :: t) ++ (crlf ++ crlf) := by rw [← joinL_ended (a :: t) (by simp), List.append_assoc]
  have ht : (endedL (a :: t) ++ crlf).take 2048 = endedL (a :: t) ++ crlf := List.take_of_length_le hl
  unfold parseL
  rw [ht, e, c]
  simp only
  rw [joinL_ended (a :: t) (by simp), read_ended a t h13, hr]
  rfl
theorem request_G {h : Hd} (hm : isTokenL h.method = true) (hp : isPathL h.path = true) : requestL (firstG h) = some (h.method, h.path, [], []) := by
  have := request_line (h := ⟨h.method, h.path, [], h.host, h.fields⟩) hm hp rfl
  exact this
theorem nonH_all {l : List Fd} (h : l.all fdOk = true) : (nonH l).all fdOk = true := List.all_eq_true.2 fun f hf => List.all_eq_true.1 h f (List.mem_filter.1 hf).1
theorem lineG_13 {f : Fd} (h : fdOk f = true) : (13 : UInt8) ∉ lineG f ∧ lineG f ≠ [] := by
  unfold fdOk at h
  simp only [Bool.and_eq_true] at h
  refine ⟨fun e2 => ?_, by unfold lineG; simp⟩
  unfold lineG at e2
  simp only [List.mem_append, List.mem_cons, token_not h.1.1 (c := 13) (by decide), value_not h.2 (c := 13) (by decide), or_false, false_or] at e2
  revert e2; decide
theorem firstG_13 {h : Hd} (hm : isTokenL h.method = true) (hp : isPathL h.path = true) : (13 : UInt8) ∉ firstG h := by
  unfold firstG
  intro e2
  simp only [List.mem_append, List.mem_cons, token_not hm (c := 13) (by decide), esc_not (Bool.and_eq_true_iff.1 hp).2 (c := 13) (by decide) (by decide), false_or] at e2
  revert e2; decide
theorem sTx_ended (h : Hd) (j : Nat) : sTx h j = endedL (firstG h :: (nonH (h.fields.take j)).map lineG) := by unfold sTx; simp [endedL]
theorem sTx_le (h : Hd) (j : Nat) : (sTx h j).length + 2 ≤ (writtenL h).length := by
  have h1 : ∀ (l : List Fd) (j : Nat), (endedL ((nonH (l.take j)).map lineG)).length ≤ (endedL (l.map lineF)).length := fun l j => by
    have g1 : ∀ l : List Fd, (endedL ((nonH l).map lineG)).length ≤ (endedL (l.map lineF)).length := fun l => by
      induction l with
      | nil => exact Nat.le_refl _
      | cons f t ih =>
        have e2 : endedL ((f :: t).map lineF) = (lineF f ++ crlf) ++ endedL (t.map lineF) := by simp [endedL]
        rw [e2, List.length_append]
        unfold nonH at ih ⊢
        rw [List.filter_cons]
        split
        · have e3 : ∀ l, endedL ((f :: l).map lineG) = (lineG f ++ crlf) ++ endedL (l.map lineG) := fun l => by simp [endedL]
          rw [e3, List.length_append]
          have : (lineG f ++ crlf).length ≤ (lineF f ++ crlf).length := by simp [lineG, lineF]
          omega
        · omega
    have g2 : (endedL ((l.take j).map lineF)).length ≤ (endedL (l.map lineF)).length := by
      have e : endedL (l.map lineF) = endedL ((l.take j).map lineF) ++ endedL ((l.drop j).map lineF) := by
        unfold endedL
        rw [← List.flatMap_append, ← List.map_append, List.take_append_drop]
      rw [e, List.length_append]; omega
    exact Nat.le_trans (g1 _) g2
  have h2 := h1 h.fields j
  have e : writtenL h = line0 h ++ crlf ++ endedL (h.fields.map lineF) ++ crlf := by unfold writtenL linesH; simp [endedL]
  have e3 : (firstG h).length ≤ (line0 h).length := by
    unfold firstG line0 targL
    split
    · exact Nat.le_refl _
    · simp; omega
  rw [e]
  unfold sTx
  simp only [List.length_append, crlf, List.length_cons, List.length_nil] at h2 ⊢
  omega
theorem without_bad {h : Hd} (e : MayB h) (hl : (writtenL h).length ≤ 2048) (j : Nat) (hj : h.fields.length ≤ j) : parseL (sTx h j ++ crlf) = .bad 4 := by
  have hle := sTx_le h j
  rw [sTx_ended] at hle ⊢
  rw [List.take_of_length_le hj] at hle ⊢
  have ha := nonH_all e.f
  refine parse_ended _ _ (fun x hx => ?_) (fun x hx => ?_) (by rw [List.length_append]; have : crlf.length = 2 := rfl; omega) ?_
  · rcases List.mem_cons.1 hx with rfl | hx
    · exact firstG_13 e.m e.p
    · obtain ⟨f, hf, rfl⟩ := List.mem_map.1 hx
      exact (lineG_13 (List.all_eq_true.1 ha f hf)).1
  · obtain ⟨f, hf, rfl⟩ := List.mem_map.1 hx
    exact (lineG_13 (List.all_eq_true.1 ha f hf)).2
  · unfold readLines
    rw [request_G e.m e.p]
    simp only
    rw [fields_linesG _ ha]
    simp only
    rw [hostOf_none]
def twoHosts : Tx := [72, 111, 115, 116, 58, 32, 97, 13, 10, 104, 111, 115, 116, 58, 32, 97, 13, 10, 13, 10]
theorem two_bad {h : Hd} (e : MayB h) (j : Nat) (hj : h.fields.length ≤ j) (hl : (sTx h j).length + 60 ≤ 2048) : parseL (sTx h j ++ twoHosts) = .bad 4 := by
  have ha := nonH_all e.f
  have e1 : sTx h j ++ twoHosts = endedL (firstG h :: ((nonH h.fields).map lineG ++ [[72, 111, 115, 116, 58, 32, 97], [104, 111, 115, 116, 58, 32, 97]])) ++ crlf := by
    rw [sTx_ended, List.take_of_length_le hj]
    simp [endedL, twoHosts, crlf, List.append_assoc]
  have hlen := congrArg List.length e1
  rw [List.length_append] at hlen
  have ht : twoHosts.length = 20 := rfl
  rw [e1]
  refine parse_ended _ _ (fun x hx => ?_) (fun x hx => ?_) (by omega) ?_
  · rcases List.mem_cons.1 hx with rfl | hx
    · exact firstG_13 e.m e.p
    · rcases List.mem_append.1 hx with hx | hx
      · obtain ⟨f, hf, rfl⟩ := List.mem_map.1 hx
        exact (lineG_13 (List.all_eq_true.1 ha f hf)).1
      · simp only [List.mem_cons, List.not_mem_nil, or_false] at hx
        rcases hx with rfl | rfl <;> decide
  · rcases List.mem_append.1 hx with hx | hx
    · obtain ⟨f, hf, rfl⟩ := List.mem_map.1 hx
      exact (lineG_13 (List.all_eq_true.1 ha f hf)).2
    · simp only [List.mem_cons, List.not_mem_nil, or_false] at hx
      rcases hx with rfl | rfl <;> simp
  · unfold readLines
    rw [request_G e.m e.p]
    simp only
    rw [fieldsOf_app _ _ _ (fields_linesG _ ha)]
    have e2 : fieldsOf [[72, 111, 115, 116, 58, 32, 97], [104, 111, 115, 116, 58, 32, 97]] = some [⟨hostName, [97]⟩, ⟨hostName, [97]⟩] := by decide +kernel
    rw [e2]
    simp only [Option.map_some]
    have e3 : hostOfL (nonH h.fields ++ [⟨hostName, [97]⟩, ⟨hostName, [97]⟩]) = none := by
      unfold hostOfL
      rw [hosts_app, hosts_nonH]
      rfl
    rw [e3]
end Go.Proofs.YtmmiadlmdjfepaaDoor
