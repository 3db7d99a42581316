/- The document's heads, in plain words: where a head ends, and what its lines say. -/
import Derived.Test.YtcmiappiocfbiaaGreatDoorHr0
import Derived.Test.YtcmiappiocfbiaaGreatDoorHda
namespace Go.Proofs.YtcmiappiocfbiaaGreatDoor
set_option linter.unusedVariables false

/-- Does a text stand at a place? -/
def sepAt (sep l : Tx) (p : Nat) : Bool := sep.isPrefixOf (l.drop p)
theorem cutS_at (sep : Tx) (hs : sep ≠ []) : ∀ (l : Tx) (k : Nat), (∀ p, p < k → sepAt sep l p = false) → sepAt sep l k = true → cutL sep l = (l.take k, some (l.drop (k + sep.length)))
  | [], k, _, h => by
    unfold sepAt at h; rw [List.drop_nil] at h
    cases sep with
    | nil => exact absurd rfl hs
    | cons a b => cases h
  | c :: t, 0, _, h => by
    have h' : sep.isPrefixOf (c :: t) = true := h
    rw [cutL, if_pos h', Nat.zero_add]
    rfl
  | c :: t, k + 1, hn, h => by
    have h0' : sep.isPrefixOf (c :: t) = false := hn 0 (by omega)
    have ih := cutS_at sep hs t k (fun p hp => hn (p + 1) (by omega)) h
    rw [cutL, if_neg (by rw [h0']; decide), ih]
    simp only [List.take_succ_cons, Prod.mk.injEq, Option.some.injEq, true_and]
    rw [show k + 1 + sep.length = (k + sep.length) + 1 by omega, List.drop_succ_cons]
theorem cutS_none (sep : Tx) : ∀ (l : Tx), (∀ p, sepAt sep l p = false) → (cutL sep l).2 = none
  | [], _ => rfl
  | c :: t, h => by
    have h0 : sep.isPrefixOf (c :: t) = false := h 0
    have ih := cutS_none sep t (fun p => h (p + 1))
    rw [cutL, if_neg (by rw [h0]; decide)]
    exact ih
theorem sepAt_len {sep l : Tx} {p : Nat} (h : sepAt sep l p = true) : sep = [] ∨ p + sep.length ≤ l.length := by
  have := (List.isPrefixOf_iff_prefix.1 h).length_le
  rw [List.length_drop] at this
  cases sep with
  | nil => exact .inl rfl
  | cons a b => right; simp only [List.length_cons] at this ⊢; omega
theorem fieldsOf_app : ∀ (a b : List Tx) (fs : List Fd), fieldsOf a = some fs → fieldsOf (a ++ b) = (fieldsOf b).map (fs ++ ·)
  | [], b, fs, h => by
    cases h
    rw [List.nil_append]
    cases fieldsOf b <;> rfl
  | x :: t, b, fs, h => by
    rw [fieldsOf] at h
    rw [List.cons_append, fieldsOf]
    cases hf : fieldL x with
    | none => rw [hf] at h; cases h
    | some f =>
      rw [hf] at h
      simp only at h ⊢
      cases hr : fieldsOf t with
      | none => rw [hr] at h; cases h
      | some gs =>
        rw [hr] at h
        cases h
        rw [fieldsOf_app t b gs hr]
        cases fieldsOf b <;> rfl
theorem hosts_app (a b : List Fd) : hostsOf (a ++ b) = hostsOf a ++ hostsOf b := List.filter_append ..
theorem hosts_cons (f : Fd) (r : List Fd) (h : f.name = hostName) : hostsOf (f :: r) = f :: hostsOf r := by unfold hostsOf; rw [List.filter_cons, if_pos (by rw [h]; exact beq_self_eq_true _)]
theorem hosts_skip (f : Fd) (r : List Fd) (h : ¬ f.name = hostName) : hostsOf (f :: r) = hostsOf r := by unfold hostsOf; rw [List.filter_cons, if_neg (fun e => h (eq_of_beq e))]
theorem hostOf_bad1 (fs r : List Fd) (f : Fd) (h : f.name = hostName) (hv : hostL f.value = none) : hostOfL (fs ++ f :: r) = none := by
  unfold hostOfL
  rw [hosts_app, hosts_cons f r h]
  cases hostsOf fs with
  | nil =>
    cases hostsOf r with
    | nil => exact hv
    | cons g u => rfl
  | cons g u => cases u <;> rfl
theorem hostOf_bad2 (fs r : List Fd) (f : Fd) (h : f.name = hostName) (hv : hostsOf fs ≠ []) : hostOfL (fs ++ f :: r) = none := by
  unfold hostOfL
  rw [hosts_app, hosts_cons f r h]
  cases hh : hostsOf fs with
  | nil => exact absurd hh hv
  | cons g u => cases u <;> rfl
/-- The host by what was read so far. -/
def curH (ht : Tx) (fs : List Fd) : Tx := match hostsOf fs with
  | [f] => if ht = [] then (hostL f.value).getD [] else ht
  | _ => ht
/-- What was read so far, of lines. -/
structure SoFar (t : List Tx) (k : Nat) (fs : List Fd) : Prop where
  got : fieldsOf (t.take k) = some fs
  len : fs.length = k
  one : hostsOf fs = [] ∨ ∃ f x, hostsOf fs = [f] ∧ hostL f.value = some x
theorem soFar0 (t : List Tx) : SoFar t 0 [] := ⟨rfl, rfl, .inl rfl⟩
theorem split_at (t : List Tx) (k : Nat) (h : k < t.length) : t = t.take k ++ t[k] :: t.drop (k + 1) := by
  rw [← List.drop_eq_getElem_cons h, List.take_append_drop]
theorem SoFar.bad {t : List Tx} {k : Nat} {fs : List Fd} (h : SoFar t k fs) (hk : k < t.length) (hf : fieldL t[k] = none) : fieldsOf t = none := by
  rw [split_at t k hk, fieldsOf_app _ _ _ h.got, fieldsOf, hf]
  rfl
theorem SoFar.take_succ {t : List Tx} {k : Nat} {fs : List Fd} (h : SoFar t k fs) (hk : k < t.length) {f : Fd} (hf : fieldL t[k] = some f) : fieldsOf (t.take (k + 1)) = some (fs ++ [f]) := by
  rw [List.take_add_one, List.getElem?_eq_getElem hk, Option.toList_some, fieldsOf_app _ _ _ h.got, fieldsOf, hf]
  rfl
theorem SoFar.rest {t : List Tx} {k : Nat} {fs : List Fd} (h : SoFar t k fs) (hk : k < t.length) {f : Fd} (hf : fieldL t[k] = some f) (hb : ∀ r, hostOfL (fs ++ f :: r) = none) (a m p q x : Tx) (ha : requestL a = some (m, p, q, x)) : readLines a t = none := by
  unfold readLines
  rw [ha]
  simp only
  have e : fieldsOf t = (fieldsOf (t.drop (k + 1))).map ((fs ++ [f]) ++ ·) := by
    conv => lhs; rw [← List.take_append_drop (k + 1) t]
    exact fieldsOf_app _ _ _ (h.take_succ hk hf)
  rw [e]
  cases fieldsOf (t.drop (k + 1)) with
  | none => rfl
  | some gs =>
    simp only [Option.map_some]
    rw [List.append_assoc]
    show (match hostOfL (fs ++ f :: gs) with | none => none | some x => _) = none
    rw [hb gs]
theorem SoFar.plain {t : List Tx} {k : Nat} {fs : List Fd} (h : SoFar t k fs) (hk : k < t.length) {f : Fd} (hf : fieldL t[k] = some f) (hn : ¬ f.name = hostName) (ht : Tx) : SoFar t (k + 1) (fs ++ [f]) ∧ curH ht (fs ++ [f]) = curH ht fs ∧ hostsOf (fs ++ [f]) = hostsOf fs := by
  have e : hostsOf (fs ++ [f]) = hostsOf fs := by rw [hosts_app, hosts_skip f [] hn]; exact List.append_nil _
  refine ⟨⟨h.take_succ hk hf, by rw [List.length_append, h.len]; rfl, by rw [e]; exact h.one⟩, ?_, e⟩
  unfold curH
  rw [e]
theorem SoFar.host {t : List Tx} {k : Nat} {fs : List Fd} (h : SoFar t k fs) (hk : k < t.length) {f : Fd} (hf : fieldL t[k] = some f) (hn : f.name = hostName) (h0 : hostsOf fs = []) {x : Tx} (hx : hostL f.value = some x) (ht : Tx) : SoFar t (k + 1) (fs ++ [f]) ∧ curH ht (fs ++ [f]) = (if ht = [] then x else ht) ∧ curH ht fs = ht ∧ hostsOf (fs ++ [f]) = [f] := by
  have e : hostsOf (fs ++ [f]) = [f] := by rw [hosts_app, h0, hosts_cons f [] hn]; rfl
  refine ⟨⟨h.take_succ hk hf, by rw [List.length_append, h.len]; rfl, .inr ⟨f, x, e, hx⟩⟩, ?_, ?_, e⟩
  · unfold curH
    rw [e]
    simp only [hx, Option.getD_some]
  · unfold curH
    rw [h0]
theorem SoFar.done {t : List Tx} {k : Nat} {fs : List Fd} (h : SoFar t k fs) (hk : ¬ k < t.length) (a m p q x : Tx) (ha : requestL a = some (m, p, q, x)) : readLines a t = if (hostsOf fs).length = 1 then some ⟨m, p, q, curH x fs, fs⟩ else none := by
  have e : fieldsOf t = some fs := by have := h.got; rwa [List.take_of_length_le (by omega)] at this
  unfold readLines
  rw [ha]
  simp only
  rw [e]
  simp only
  rcases h.one with h0 | ⟨f, y, h1, hy⟩
  · rw [show hostOfL fs = none by unfold hostOfL; rw [h0], h0]
    rfl
  · rw [show hostOfL fs = some y by unfold hostOfL; rw [h1]; exact hy]
    have e2 : curH x fs = if x = [] then y else x := by unfold curH; rw [h1]; simp only [hy, Option.getD_some]
    rw [e2, h1]
    rfl
theorem read_none (a : Tx) (t : List Tx) (h : requestL a = none) : readLines a t = none := by unfold readLines; rw [h]
theorem read_bad (a m p q x : Tx) (t : List Tx) (ha : requestL a = some (m, p, q, x)) (h : fieldsOf t = none) : readLines a t = none := by unfold readLines; rw [ha]; simp only; rw [h]
theorem lines_ne (l : Tx) : ∃ a t, linesL l = a :: t := by
  unfold linesL
  cases hn : l.length with
  | zero => exact ⟨_, _, rfl⟩
  | succ n =>
    rw [linesN]
    cases (cutL crlf l).2 with
    | none => exact ⟨_, _, rfl⟩
    | some b => exact ⟨_, _, rfl⟩
theorem lines_len : ∀ (n : Nat) (l : Tx), (linesN n l).length ≤ l.length + 1 ∧ ∀ a ∈ linesN n l, a.length ≤ l.length
  | 0, l => ⟨by simp [linesN], fun a ha => by simp [linesN] at ha; rw [ha]; exact Nat.le_refl _⟩
  | n + 1, l => by
    unfold linesN
    cases h : (cutL crlf l).2 with
    | none => exact ⟨by simp, fun a ha => by simp at ha; rw [ha]; exact Nat.le_refl _⟩
    | some b =>
      have hlen := congrArg List.length (cutL_some h)
      simp only [List.length_append, crlf, List.length_cons, List.length_nil] at hlen
      obtain ⟨h1, h2⟩ := lines_len n b
      refine ⟨by simp only [List.length_cons]; omega, fun a ha => ?_⟩
      rcases List.mem_cons.1 ha with rfl | ha
      · simp only [crlf]; omega
      · have := h2 a ha; omega
end Go.Proofs.YtcmiappiocfbiaaGreatDoor
