/- The document's heads: Write. -/
import Derived.Test.YtmmiadlmdjfepaaDoorHr4
import Derived.Test.YtmmiadlmdjfepaaDoorHdu
import Derived.Test.YtmmiadlmdjfepaaDoorHr7
namespace Go.Proofs.YtmmiadlmdjfepaaDoor
open Go.ChangeShapes Go.WideShapes Go.ChangeAt Go.RowKit
set_option linter.unusedVariables false

/-- What the loop over fields holds: the first j of them may be written, and each host is the head's. -/
structure WSo (h : Hd) (j : Nat) : Prop where
  ok : (h.fields.take j).all fdOk = true
  hs : ∀ f ∈ hostsOf (h.fields.take j), hostL f.value = some h.host
theorem wso0 (h : Hd) : WSo h 0 := ⟨rfl, fun f hf => by cases hf⟩
theorem may_split (h : Hd) (j : Nat) (hj : j < h.fields.length) : h.fields = h.fields.take j ++ h.fields[j] :: h.fields.drop (j + 1) := by
  rw [← List.drop_eq_getElem_cons hj, List.take_append_drop]
theorem may_bad (h : Hd) (j : Nat) (hj : j < h.fields.length) (hb : fdOk h.fields[j] = false) : mayBeL h = false := by
  unfold mayBeL
  have : h.fields.all fdOk = false := by rw [List.all_eq_false]; exact ⟨_, List.getElem_mem hj, by rw [hb]; decide⟩
  rw [this]
  simp
theorem may_host (h : Hd) (j : Nat) (hj : j < h.fields.length) (hn : h.fields[j].name = hostName) (hb : ¬ hostL h.fields[j].value = some h.host) : mayBeL h = false := by
  unfold mayBeL
  have : (hostOfL h.fields == some h.host) = false := by
    rw [beq_eq_false_iff_ne]
    intro e
    rw [may_split h j hj] at e
    unfold hostOfL at e
    rw [hosts_app, hosts_cons _ _ hn] at e
    cases hh : hostsOf (h.fields.take j) with
    | nil =>
      rw [hh] at e
      cases hd : hostsOf (h.fields.drop (j + 1)) with
      | nil => rw [hd] at e; exact hb e
      | cons g u => rw [hd] at e; cases e
    | cons g u => rw [hh] at e; cases u <;> cases e
  rw [this]
  simp
theorem take_hosts (h : Hd) (j : Nat) (hj : j < h.fields.length) : hostsOf (h.fields.take (j + 1)) = hostsOf (h.fields.take j) ++ hostsOf [h.fields[j]] := by
  rw [List.take_add_one, List.getElem?_eq_getElem hj, Option.toList_some, hosts_app]
theorem take_all (h : Hd) (j : Nat) (hj : j < h.fields.length) (h1 : (h.fields.take j).all fdOk = true) (h2 : fdOk h.fields[j] = true) : (h.fields.take (j + 1)).all fdOk = true := by
  rw [List.take_add_one, List.getElem?_eq_getElem hj, Option.toList_some, List.all_append, h1]
  simp [h2]
theorem may_end (h : Hd) (hm : isTokenL h.method = true) (hp : isPathL h.path = true) (hq : isQueryL h.query = true) (ha : h.fields.all fdOk = true) : mayBeL h = (hostOfL h.fields == some h.host) := by
  unfold mayBeL
  rw [hm, hp, hq, ha]
  rfl
theorem WSo.skip {h : Hd} {j : Nat} (w : WSo h j) (hj : j < h.fields.length) (h2 : fdOk h.fields[j] = true) (hn : ¬ h.fields[j].name = hostName) : WSo h (j + 1) ∧ (hostsOf (h.fields.take (j + 1))).length = (hostsOf (h.fields.take j)).length := by
  have e : hostsOf (h.fields.take (j + 1)) = hostsOf (h.fields.take j) := by rw [take_hosts h j hj, hosts_skip _ _ hn]; exact List.append_nil _
  exact ⟨⟨take_all h j hj w.ok h2, by rw [e]; exact w.hs⟩, by rw [e]⟩
theorem WSo.host {h : Hd} {j : Nat} (w : WSo h j) (hj : j < h.fields.length) (h2 : fdOk h.fields[j] = true) (hn : h.fields[j].name = hostName) (hv : hostL h.fields[j].value = some h.host) : WSo h (j + 1) ∧ (hostsOf (h.fields.take (j + 1))).length = (hostsOf (h.fields.take j)).length + 1 := by
  have e : hostsOf (h.fields.take (j + 1)) = hostsOf (h.fields.take j) ++ [h.fields[j]] := by rw [take_hosts h j hj, hosts_cons _ _ hn]; rfl
  refine ⟨⟨take_all h j hj w.ok h2, fun f hf => ?_⟩, by rw [e, List.length_append]; rfl⟩
  rw [e] at hf
  rcases List.mem_append.1 hf with hf | hf
  · exact w.hs f hf
  · rw [List.mem_singleton.1 hf]; exact hv
theorem WSo.done {h : Hd} {j : Nat} (w : WSo h j) (hj : h.fields.length ≤ j) (hm : isTokenL h.method = true) (hp : isPathL h.path = true) (hq : isQueryL h.query = true) : mayBeL h = decide ((hostsOf (h.fields.take j)).length = 1) := by
  have e : h.fields.take j = h.fields := List.take_of_length_le hj
  have w1 := w.ok
  have w2 := w.hs
  rw [e] at w1 w2 ⊢
  rw [may_end h hm hp hq w1]
  unfold hostOfL
  cases hh : hostsOf h.fields with
  | nil => rfl
  | cons f t =>
    cases t with
    | nil =>
      have := w2 f (by rw [hh]; simp)
      simp only
      rw [this]
      simp
    | cons g u => simp
theorem stS_app (a b : Tx) : stS a ++ stS b = stS (a ++ b) := by
  rw [← stS_self (stS a ++ stS b)]
  congr 1
end Go.Proofs.YtmmiadlmdjfepaaDoor
