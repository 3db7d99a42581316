/- Heads, in plain words: what is parsed. -/
import Derived.Test.YtcmiappiocfbiaaGreatDoorHdn
import Derived.Test.YtcmiappiocfbiaaGreatDoorHdp
import Derived.Test.YtcmiappiocfbiaaGreatDoorHdc
namespace Go.Proofs.YtcmiappiocfbiaaGreatDoor
set_option linter.unusedVariables false

theorem low_token {l : Tx} (h : isTokenL l = true) : isTokenL (lowL l) = true := by
  obtain ⟨h1, h2⟩ := Bool.and_eq_true_iff.1 h
  refine Bool.and_eq_true_iff.2 ⟨?_, List.all_eq_true.2 fun c hc => ?_⟩
  · cases l with
    | nil => cases h1
    | cons x t => rfl
  · obtain ⟨d, hd, rfl⟩ := List.mem_map.1 hc
    have h3 := List.all_eq_true.1 h2 d hd
    have h4 := each8 (p := fun c => !isK 8 c || isK 8 (Lib.lowerB c)) (by decide +kernel) d
    rw [show isK 8 d = true from h3] at h4
    simpa using h4
theorem low_low (l : Tx) : lowL (lowL l) = lowL l := by
  unfold lowL Lib.toLowerA
  rw [List.map_map]
  refine List.map_congr_left fun c _ => ?_
  have h4 := each8 (p := fun c => Lib.lowerB (Lib.lowerB c) == Lib.lowerB c) (by decide +kernel) c
  exact eq_of_beq h4
theorem field_ok {line : Tx} {f : Fd} (h : fieldL line = some f) : fdOk f = true := by
  unfold fieldL at h
  split at h
  · rename_i hc
    cases h
    simp only [Bool.and_eq_true] at hc
    unfold fdOk
    simp only [low_token hc.1.2, hc.2, low_low, beq_self_eq_true, Bool.and_self]
  · cases h
theorem fields_ok : ∀ (n : Nat) (rest : Tx) (fs : List Fd), fieldsL n rest = some fs → fs.all fdOk = true ∧ ∀ f ∈ fs, f.name.length ≤ rest.length ∧ f.value.length ≤ rest.length
  | 0, rest, fs, h => by cases h; exact ⟨rfl, by simp⟩
  | n + 1, rest, fs, h => by
    unfold fieldsL at h
    split at h
    · cases h; exact ⟨rfl, by simp⟩
    · cases hf : fieldL (cutL crlf rest).1 with
      | none => rw [hf] at h; cases h
      | some f =>
        rw [hf] at h
        simp only at h
        cases hr : fieldsL n (behindL crlf rest) with
        | none => rw [hr] at h; cases h
        | some gs =>
          rw [hr] at h
          cases h
          obtain ⟨h1, h2⟩ := fields_ok n _ gs hr
          refine ⟨by rw [List.all_cons, field_ok hf, h1]; rfl, fun g hg => ?_⟩
          rcases List.mem_cons.1 hg with rfl | hg
          · have h3 := fieldL_len hf
            have h4 := cutL_len (sep := crlf) (l := rest)
            omega
          · have h3 := h2 g hg
            have h4 := behindL_len (sep := crlf) (l := rest)
            omega
theorem target_ok {t p q h : Tx} (ht : targetL t = some (p, q, h)) : isPathL p = true ∧ isQueryL q = true ∧ p.length ≤ t.length + 1 ∧ q.length ≤ t.length := by
  have hq : isQueryL (behindL [63] t) = true := by
    cases hq : isQueryL (behindL [63] t) with
    | true => rfl
    | false => rw [targetL_0 hq] at ht; cases ht
  have l1 := cutL_len (sep := [63]) (l := t)
  have l2 := behindL_len (sep := [63]) (l := t)
  cases hp : httpL.isPrefixOf (cutL [63] t).1 with
  | false =>
    rw [targetL_1 hq hp] at ht
    split at ht
    · rename_i h1
      cases ht
      exact ⟨h1, hq, by omega, l2⟩
    · cases ht
  | true =>
    rw [targetL_2 hq hp] at ht
    split at ht
    · cases ht
    · split at ht
      · rename_i h1
        cases ht
        refine ⟨h1, hq, ?_, l2⟩
        have l3 : ((cutL [63] t).1.drop 7).length ≤ (cutL [63] t).1.length := by simp
        unfold pathOf
        cases hc : (cutL [47] ((cutL [63] t).1.drop 7)).2 with
        | none => simp
        | some b =>
          have l4 := congrArg List.length (cutL_some hc)
          simp only [List.length_append, List.length_cons, List.length_nil] at l4
          simp only [List.length_cons]
          omega
      · cases ht
theorem request_ok {t m p q h : Tx} (ht : requestL t = some (m, p, q, h)) : isTokenL m = true ∧ isPathL p = true ∧ isQueryL q = true ∧ m.length ≤ t.length ∧ p.length ≤ t.length + 1 ∧ q.length ≤ t.length := by
  unfold requestL at ht
  split at ht
  · cases ht
  · rename_i p' q' h' hT
    split at ht
    · rename_i hc
      cases ht
      have h1 := target_ok hT
      have l1 := cutL_len (sep := [32]) (l := t)
      have l2 := behindL_len (sep := [32]) (l := t)
      have l3 := cutL_len (sep := [32]) (l := behindL [32] t)
      exact ⟨(Bool.and_eq_true_iff.1 hc).1, h1.1, h1.2.1, l1, by omega, by omega⟩
    · cases ht
structure Rd (t : Tx) (h : Hd) : Prop where
  m : isTokenL h.method = true
  p : isPathL h.path = true
  q : isQueryL h.query = true
  f : h.fields.all fdOk = true
  x : ∃ x, hostOfL h.fields = some x
  le : h.method.length ≤ t.length ∧ h.path.length ≤ t.length + 1 ∧ h.query.length ≤ t.length ∧ h.host.length ≤ 64
  fl : ∀ f ∈ h.fields, f.name.length ≤ t.length ∧ f.value.length ≤ t.length
theorem hostOf_len {l : List Fd} {x : Tx} (h : hostOfL l = some x) : x.length ≤ 64 := by
  unfold hostOfL at h
  split at h
  · exact hostL_len h
  · cases h
theorem read_ok {t : Tx} {h : Hd} (hr : readL t = some h) : Rd t h := by
  unfold readL at hr
  split at hr
  · cases hr
  · rename_i m p q ht hq
    split at hr
    · cases hr
    · rename_i fs hf
      split at hr
      · cases hr
      · rename_i x hx
        cases hr
        have h1 := request_ok hq
        have h2 := fields_ok _ _ _ hf
        have l1 := cutL_len (sep := crlf) (l := t)
        have l2 := behindL_len (sep := crlf) (l := t)
        refine ⟨h1.1, h1.2.1, h1.2.2.1, h2.1, ⟨x, hx⟩, ⟨by simp only; omega, by simp only; omega, by simp only; omega, ?_⟩, fun f hf => ?_⟩
        · simp only
          split
          · exact hostOf_len hx
          · exact requestL_len hq
        · have := h2.2 f hf
          omega
theorem parse_ok {b : Tx} {h : Hd} {k : Nat} (hp : parseL b = .ok h k) : 4 ≤ k ∧ k ≤ b.length ∧ k ≤ 2048 ∧ h.fields.length ≤ 32 ∧ Rd (b.take 2048) h := by
  unfold parseL at hp
  split at hp
  · split at hp <;> cases hp
  · rename_i d hd
    split at hp
    · cases hp
    · rename_i g hg
      split at hp
      · cases hp
      · rename_i hf
        cases hp
        have l1 := congrArg List.length (cutL_some hd)
        simp only [List.length_append, List.length_take, crlf, List.length_cons, List.length_nil] at l1
        have hr := read_ok hg
        refine ⟨by omega, by simp only [crlf] at l1 ⊢; omega, by simp only [crlf] at l1 ⊢; omega, by omega, ⟨hr.m, hr.p, hr.q, hr.f, hr.x, ?_, fun f hf => ?_⟩⟩
        · have := hr.le
          simp only [List.length_append, List.length_take, crlf, List.length_cons, List.length_nil] at this l1 ⊢
          omega
        · have := hr.fl f hf
          simp only [List.length_append, List.length_take, crlf, List.length_cons, List.length_nil] at this l1 ⊢
          omega
theorem parse_le {b : Tx} {h : Hd} {k : Nat} (hp : parseL b = .ok h k) : HdLe 4096 h := by
  obtain ⟨_, _, _, h4, hr⟩ := parse_ok hp
  have h1 := hr.le
  simp only [List.length_take] at h1
  refine ⟨by omega, by omega, by omega, by omega, by omega, fun f hf => ?_⟩
  have h2 := hr.fl f hf
  simp only [List.length_take] at h2
  omega
theorem parse_bad_is {b : Tx} {n : Nat} (hp : parseL b = .bad n) : n = 3 ∨ n = 6 ∨ n = 4 := by
  unfold parseL at hp
  split at hp
  · split at hp
    · cases hp; exact .inl rfl
    · cases hp; exact .inr (.inl rfl)
  · split at hp
    · cases hp; exact .inr (.inr rfl)
    · split at hp
      · cases hp; exact .inr (.inl rfl)
      · cases hp
/-- What is parsed may be written, or has another host than its field. -/
theorem again_bad {b : Tx} {h : Hd} {k n : Nat} (hp : parseL b = .ok h k) (hw : writeL h = .bad n) : n = 6 ∨ (n = 4 ∧ ∃ x, hostOfL h.fields = some x ∧ ¬ x = h.host) := by
  obtain ⟨_, _, _, h4, hr⟩ := parse_ok hp
  unfold writeL at hw
  split at hw
  · split at hw
    · cases hw; exact .inl rfl
    · split at hw
      · cases hw; exact .inl rfl
      · cases hw
  · rename_i hm
    cases hw
    refine .inr ⟨rfl, ?_⟩
    obtain ⟨x, hx⟩ := hr.x
    refine ⟨x, hx, fun e => hm ?_⟩
    unfold mayBeL
    rw [hr.m, hr.p, hr.q, hr.f, hx, e]
    simp
end Go.Proofs.YtcmiappiocfbiaaGreatDoor
