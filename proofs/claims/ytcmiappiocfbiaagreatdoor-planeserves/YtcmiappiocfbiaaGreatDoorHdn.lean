/- Heads, in plain words: lines, what is written, and that it is parsed as it was. -/
import Derived.Test.YtcmiappiocfbiaaGreatDoorHdl
namespace Go.Proofs.YtcmiappiocfbiaaGreatDoor
set_option linter.unusedVariables false

/-- Lines, each with its end. -/
def endedL (ls : List Tx) : Tx := ls.flatMap (· ++ crlf)
/-- Lines, the last one without its end. -/
def joinL : List Tx → Tx
  | [] => []
  | [a] => a
  | a :: b :: t => a ++ (crlf ++ joinL (b :: t))
theorem joinL_ended : ∀ (ls : List Tx), ls ≠ [] → joinL ls ++ crlf = endedL ls
  | [], h => absurd rfl h
  | [a], _ => by simp [joinL, endedL]
  | a :: b :: t, _ => by
    have ih := joinL_ended (b :: t) (by simp)
    rw [joinL, List.append_assoc, List.append_assoc, ih]
    simp [endedL, List.append_assoc]
theorem cut4_join : ∀ (ls : List Tx), ls ≠ [] → (∀ a ∈ ls, (13 : UInt8) ∉ a) → (∀ a ∈ ls.tail, a ≠ []) → ∀ b, cutL (crlf ++ crlf) (joinL ls ++ (crlf ++ (crlf ++ b))) = (joinL ls, some b)
  | [], h, _, _, _ => absurd rfl h
  | [a], _, h13, _, b => cut4_end (h13 a (by simp)) b
  | a :: c :: t, _, h13, hne, b => by
    have ih := cut4_join (c :: t) (by simp) (fun x hx => h13 x (List.mem_cons_of_mem _ hx)) (fun x hx => hne x (by simp; exact .inr hx)) b
    have hc : c ≠ [] := hne c (by simp)
    have hc13 := h13 c (by simp)
    cases c with
    | nil => exact absurd rfl hc
    | cons x c' =>
      have hx : x ≠ 13 := fun e => hc13 (by simp [e])
      obtain ⟨r, hr⟩ : ∃ r, joinL ((x :: c') :: t) ++ (crlf ++ (crlf ++ b)) = x :: r := by
        cases t with
        | nil => exact ⟨_, rfl⟩
        | cons d u => exact ⟨_, rfl⟩
      rw [joinL, List.append_assoc, List.append_assoc, hr, cut4_step (h13 a (by simp)) x r hx, ← hr, ih]
/-- Fields, line by line. -/
def fieldsOf : List Tx → Option (List Fd)
  | [] => some []
  | a :: t => match fieldL a with
    | none => none
    | some f => (fieldsOf t).map (f :: ·)
theorem fields_ended : ∀ (ls : List Tx) (n : Nat), ls.length ≤ n → (∀ a ∈ ls, (13 : UInt8) ∉ a) → fieldsL n (endedL ls) = fieldsOf ls
  | [], n, _, _ => by cases n <;> rfl
  | a :: t, 0, h, _ => by simp at h
  | a :: t, n + 1, h, h13 => by
    have ih := fields_ended t n (by simpa using h) (fun x hx => h13 x (List.mem_cons_of_mem _ hx))
    have e : endedL (a :: t) = a ++ (crlf ++ endedL t) := by simp [endedL, List.append_assoc]
    have c := cut2_app (h13 a (by simp)) (endedL t)
    have hn : ¬ a ++ (crlf ++ endedL t) = [] := by simp [crlf]
    rw [e, fieldsL, if_neg hn, c, fieldsOf]
    cases hf : fieldL a with
    | none => simp only
    | some f => simp only [behindL, c, Option.getD_some, ih]
theorem ended_len : ∀ (ls : List Tx), ls.length ≤ (endedL ls).length
  | [] => Nat.le_refl _
  | a :: t => by
    have := ended_len t
    simp only [endedL, List.flatMap_cons, List.length_append, List.length_cons] at this ⊢
    simp only [crlf, List.length_cons, List.length_nil] at this ⊢
    omega
def readLines (a : Tx) (t : List Tx) : Option Hd :=
  match requestL a with
  | none => none
  | some (m, p, q, h) => match fieldsOf t with
    | none => none
    | some fs => match hostOfL fs with
      | none => none
      | some x => some ⟨m, p, q, if h = [] then x else h, fs⟩
theorem read_ended (a : Tx) (t : List Tx) (h13 : ∀ x ∈ a :: t, (13 : UInt8) ∉ x) : readL (endedL (a :: t)) = readLines a t := by
  have e : endedL (a :: t) = a ++ (crlf ++ endedL t) := by simp [endedL, List.append_assoc]
  have c := cut2_app (h13 a (by simp)) (endedL t)
  have hf := fields_ended t (a ++ (crlf ++ endedL t)).length (by have := ended_len t; simp only [List.length_append]; omega) (fun x hx => h13 x (List.mem_cons_of_mem _ hx))
  unfold readL readLines
  rw [e, c]
  simp only [behindL, c, Option.getD_some, hf]
  rfl

/-- What is written. -/
def fdOk (f : Fd) : Bool := isTokenL f.name && (f.name == lowL f.name) && isValueL f.value
def mayBeL (h : Hd) : Bool := isTokenL h.method && isPathL h.path && isQueryL h.query && h.fields.all fdOk && (hostOfL h.fields == some h.host)
def targL (h : Hd) : Tx := if h.query = [] then h.path else h.path ++ 63 :: h.query
def line0 (h : Hd) : Tx := h.method ++ 32 :: (targL h ++ 32 :: versionL)
def lineF (f : Fd) : Tx := f.name ++ 58 :: 32 :: f.value
def linesH (h : Hd) : List Tx := line0 h :: h.fields.map lineF
def writtenL (h : Hd) : Tx := endedL (linesH h) ++ crlf
inductive Wrt where
  | ok (b : Tx)
  | bad (e : Nat)
def writeL (h : Hd) : Wrt := if mayBeL h then (if 32 < h.fields.length then .bad 6 else if 2048 < (writtenL h).length then .bad 6 else .ok (writtenL h)) else .bad 4
theorem token_not {l : Tx} (h : isTokenL l = true) {c : UInt8} (hc : isK 8 c = false) : c ∉ l := fun e => by
  have h1 := (Bool.and_eq_true_iff.1 h).2
  have := List.all_eq_true.1 h1 c e
  rw [hc] at this; cases this
theorem value_not {l : Tx} (h : isValueL l = true) {c : UInt8} (hc : isK 64 c = false) : c ∉ l := fun e => by
  have h1 := (Bool.and_eq_true_iff.1 h).1
  have := List.all_eq_true.1 h1 c e
  rw [hc] at this; cases this
theorem trim_lead (c : UInt8) (hc : [9, 32].contains c = true) (l : Tx) : trimB (c :: l) = trimB l := by
  unfold trimB Lib.trimS Lib.trimLeftS Lib.trimRightS
  rw [List.reverse_cons, List.dropWhile_append]
  by_cases h : (l.reverse.dropWhile ([9, 32].contains ·)).isEmpty = true
  · rw [if_pos h, List.isEmpty_iff.1 h, List.dropWhile_cons, if_pos hc]
    rfl
  · rw [if_neg h, List.reverse_append]
    show List.dropWhile _ (c :: _) = _
    rw [List.dropWhile_cons, if_pos hc]
    rfl
theorem field_line {f : Fd} (h : fdOk f = true) : fieldL (lineF f) = some f := by
  obtain ⟨h1, hv⟩ := Bool.and_eq_true_iff.1 h
  obtain ⟨ht, hl⟩ := Bool.and_eq_true_iff.1 h1
  have hc : cutL [58] (lineF f) = (f.name, some (32 :: f.value)) := cut1_app (token_not ht (c := 58) (by decide)) _
  have htr : trimB (32 :: f.value) = f.value := by rw [trim_lead 32 (by decide)]; exact (eq_of_beq (Bool.and_eq_true_iff.1 hv).2).symm
  unfold fieldL behindL
  rw [hc]
  simp only [Option.isSome_some, Option.getD_some, htr, ht, hv]
  rw [← eq_of_beq hl]
  rfl
theorem fields_lines : ∀ (l : List Fd), l.all fdOk = true → fieldsOf (l.map lineF) = some l
  | [], _ => rfl
  | f :: t, h => by
    rw [List.all_cons, Bool.and_eq_true] at h
    rw [List.map_cons, fieldsOf, field_line h.1, fields_lines t h.2]
    rfl
theorem targ_is {h : Hd} (hp : isPathL h.path = true) (hq : isQueryL h.query = true) : targetL (targL h) = some (h.path, h.query, []) := by
  unfold targL
  by_cases he : h.query = []
  · rw [if_pos he, he]; exact tgt3 hp
  · rw [if_neg he]
    obtain ⟨hp1, hp2⟩ := Bool.and_eq_true_iff.1 hp
    obtain ⟨r, hr⟩ := List.isPrefixOf_iff_prefix.1 hp1
    have c0 := cut1_app (esc_not hp2 (c := 63) (by decide) (by decide)) h.query
    have hpr : httpL.isPrefixOf h.path = false := by rw [← hr]; rfl
    unfold targetL behindL
    simp only [c0, Option.getD_some, hq, hpr, hp]
    rfl
theorem targ_not {h : Hd} (hp : isPathL h.path = true) (hq : isQueryL h.query = true) {c : UInt8} (h1 : ¬ c = 37) (h2 : isK 16 c = false) (h3 : isK 32 c = false) (h4 : ¬ c = 63) : c ∉ targL h := fun e => by
  have n1 := esc_not (Bool.and_eq_true_iff.1 hp).2 h1 h2
  have n2 := esc_not (k := 32) hq h1 h3
  unfold targL at e
  split at e
  · exact n1 e
  · simp only [List.mem_append, List.mem_cons, n1, n2, or_false, false_or] at e
    exact h4 e
theorem request_line {h : Hd} (hm : isTokenL h.method = true) (hp : isPathL h.path = true) (hq : isQueryL h.query = true) : requestL (line0 h) = some (h.method, h.path, h.query, []) := by
  have c0 : cutL [32] (line0 h) = (h.method, some (targL h ++ 32 :: versionL)) := cut1_app (token_not hm (c := 32) (by decide)) _
  have c1 : cutL [32] (targL h ++ 32 :: versionL) = (targL h, some versionL) := cut1_app (targ_not hp hq (by decide) (by decide) (by decide) (by decide)) _
  unfold requestL behindL
  simp only [c0, Option.getD_some, c1, targ_is hp hq, hm, beq_self_eq_true, Bool.and_self]
  rfl
structure MayB (h : Hd) : Prop where
  m : isTokenL h.method = true
  p : isPathL h.path = true
  q : isQueryL h.query = true
  f : h.fields.all fdOk = true
  x : hostOfL h.fields = some h.host
theorem mayB {h : Hd} (e : mayBeL h = true) : MayB h := by
  unfold mayBeL at e
  simp only [Bool.and_eq_true] at e
  exact ⟨e.1.1.1.1, e.1.1.1.2, e.1.1.2, e.1.2, eq_of_beq e.2⟩
theorem lines_13 {h : Hd} (e : MayB h) : (∀ a ∈ linesH h, (13 : UInt8) ∉ a) ∧ ∀ a ∈ (linesH h).tail, a ≠ [] := by
  refine ⟨fun a ha => ?_, fun a ha => ?_⟩
  · unfold linesH at ha
    rcases List.mem_cons.1 ha with rfl | ha
    · unfold line0
      intro e2
      simp only [List.mem_append, List.mem_cons, token_not e.m (c := 13) (by decide), targ_not e.p e.q (c := 13) (by decide) (by decide) (by decide) (by decide), false_or] at e2
      revert e2; decide
    · obtain ⟨f, hf, rfl⟩ := List.mem_map.1 ha
      have h1 := List.all_eq_true.1 e.f f hf
      unfold fdOk at h1
      simp only [Bool.and_eq_true] at h1
      intro e2
      unfold lineF at e2
      simp only [List.mem_append, List.mem_cons, token_not h1.1.1 (c := 13) (by decide), value_not h1.2 (c := 13) (by decide), or_false, false_or] at e2
      revert e2; decide
  · obtain ⟨f, hf, rfl⟩ := List.mem_map.1 ha
    unfold lineF
    simp
theorem written_cut {h : Hd} (e : MayB h) (b : Tx) : cutL (crlf ++ crlf) (writtenL h ++ b) = (joinL (linesH h), some b) := by
  have hl := lines_13 e
  have := cut4_join (linesH h) (by simp [linesH]) hl.1 hl.2 b
  unfold writtenL
  rwa [← joinL_ended (linesH h) (by simp [linesH]), List.append_assoc, List.append_assoc]
theorem written_read {h : Hd} (e : MayB h) : readL (joinL (linesH h) ++ crlf) = some h := by
  rw [joinL_ended (linesH h) (by simp [linesH])]
  have := read_ended (line0 h) (h.fields.map lineF) (lines_13 e).1
  unfold linesH
  rw [this]
  unfold readLines
  simp only [request_line e.m e.p e.q, fields_lines _ e.f, e.x, if_true]
theorem written_len (h : Hd) : (writtenL h).length = (joinL (linesH h)).length + 4 := by
  unfold writtenL
  rw [← joinL_ended (linesH h) (by simp [linesH])]
  simp [crlf]
/-- What is written is parsed as it was, whatever stands behind it. -/
theorem back_parse {h : Hd} (e : MayB h) (hf : h.fields.length ≤ 32) (hl : (writtenL h).length ≤ 2048) (b : Tx) : parseL (writtenL h ++ b) = .ok h (writtenL h).length := by
  have ht : (writtenL h ++ b).take 2048 = writtenL h ++ b.take (2048 - (writtenL h).length) := by rw [List.take_append, List.take_of_length_le hl]
  unfold parseL
  rw [ht, written_cut e]
  simp only [written_read e]
  rw [if_neg (by omega), ← written_len]
theorem write_ok {h : Hd} {a : Tx} (e : writeL h = .ok a) : MayB h ∧ h.fields.length ≤ 32 ∧ (writtenL h).length ≤ 2048 ∧ a = writtenL h := by
  unfold writeL at e
  split at e
  · rename_i h1
    split at e
    · cases e
    · split at e
      · cases e
      · cases e
        exact ⟨mayB h1, by omega, by omega, rfl⟩
  · cases e
theorem write_back {h : Hd} {a : Tx} (e : writeL h = .ok a) (b : Tx) : parseL (a ++ b) = .ok h a.length := by
  obtain ⟨h1, h2, h3, rfl⟩ := write_ok e
  exact back_parse h1 h2 h3 b
theorem cutL_more {sep : Tx} : ∀ {l b : Tx} (r : Tx), (cutL sep l).2 = some b → cutL sep (l ++ r) = ((cutL sep l).1, some (b ++ r))
  | [], b, r, h => by cases h
  | c :: t, b, r, h => by
    unfold cutL at h
    split at h
    · rename_i hp
      simp only [Option.some.injEq] at h
      obtain ⟨u, hu⟩ := List.isPrefixOf_iff_prefix.1 hp
      have hp2 : sep.isPrefixOf (c :: (t ++ r)) = true := List.isPrefixOf_iff_prefix.2 ⟨u ++ r, by rw [← List.append_assoc, hu]; rfl⟩
      rw [List.cons_append, cutL, if_pos hp2, cutL, if_pos hp, ← h, ← List.cons_append, List.drop_append_of_le_length (by rw [← hu]; simp)]
    · rename_i hp
      simp only at h
      have ih := cutL_more r h
      have hp2 : ¬ sep.isPrefixOf (c :: (t ++ r)) = true := fun e2 => by
        have hl := congrArg List.length (cutL_some h)
        simp only [List.length_append] at hl
        obtain ⟨u, hu⟩ := List.isPrefixOf_iff_prefix.1 e2
        refine hp (List.isPrefixOf_iff_prefix.2 ?_)
        refine (List.prefix_of_prefix_length_le (l₃ := c :: (t ++ r)) ⟨u, hu⟩ ⟨r, rfl⟩ ?_)
        simp only [List.length_cons]; omega
      rw [List.cons_append, cutL, if_neg hp2, ih, cutL, if_neg hp]
/-- A head that is cut short. -/
theorem cut_short {h : Hd} {a : Tx} (e : writeL h = .ok a) (j : Nat) (hj : j < a.length) : parseL (a.take j) = .bad 3 := by
  obtain ⟨h1, h2, h3, rfl⟩ := write_ok e
  have hlen : ((writtenL h).take j).length = j := by rw [List.length_take]; omega
  have ht : ((writtenL h).take j).take 2048 = (writtenL h).take j := List.take_of_length_le (by omega)
  have hc : (cutL (crlf ++ crlf) ((writtenL h).take j)).2 = none := by
    cases hx : (cutL (crlf ++ crlf) ((writtenL h).take j)).2 with
    | none => rfl
    | some b =>
      have h4 := cutL_more ((writtenL h).drop j) hx
      rw [List.take_append_drop] at h4
      have h5 := written_cut h1 []
      rw [List.append_nil, h4] at h5
      have h6 := congrArg (fun p => (p.2.getD []).length) h5
      simp only [Option.getD_some, List.length_append, List.length_drop, List.length_nil] at h6
      omega
  unfold parseL
  rw [ht, hc]
  simp only
  rw [if_pos (by omega)]
  rfl
theorem low_len (l : Tx) : (lowL l).length = l.length := by simp [lowL, Lib.toLowerA]
end Go.Proofs.YtcmiappiocfbiaaGreatDoor
