/- Heads, in plain words: lines, what is written, and that it is parsed as it was. -/
import Derived.Test.YtcmiappiocfbiaaGreatDoorB20
import Derived.Test.YtcmiappiocfbiaaGreatDoorB09
section
namespace Go.Proofs.YtcmiappiocfbiaaGreatDoor
set_option linter.unusedVariables false

/-- Lines, each with its end. -/
def endedL (ls : List Tx) : Tx := ls.flatMap (· ++ crlf)
/-- Lines, the last one without its end. -/
def joinL : List Tx → Tx
  | [] => []
  | [a] => a
  | a :: b :: t => a ++ (crlf ++ joinL (b :: t))
theorem joinL_ended : ∀ (ls : List Tx), ls ≠ [] → joinL ls ++ crlf = endedL ls
  | [], h => absurd rfl h
  | [a], _ => by simp [joinL, endedL]
  | a :: b :: t, _ => by
    have ih := joinL_ended (b :: t) (by simp)
    rw [joinL, List.append_assoc, List.append_assoc, ih]
    simp [endedL, List.append_assoc]
theorem cut4_join : ∀ (ls : List Tx), ls ≠ [] → (∀ a ∈ ls, (13 : UInt8) ∉ a) → (∀ a ∈ ls.tail, a ≠ []) → ∀ b, cutL (crlf ++ crlf) (joinL ls ++ (crlf ++ (crlf ++ b))) = (joinL ls, some b)
  | [], h, _, _, _ => absurd rfl h
  | [a], _, h13, _, b => cut4_end (h13 a (by simp)) b
  | a :: c :: t, _, h13, hne, b => by
    have ih := cut4_join (c :: t) (by simp) (fun x hx => h13 x (List.mem_cons_of_mem _ hx)) (fun x hx => hne x (by simp; exact .inr hx)) b
    have hc : c ≠ [] := hne c (by simp)
    have hc13 := h13 c (by simp)
    cases c with
    | nil => exact absurd rfl hc
    | cons x c' =>
      have hx : x ≠ 13 := fun e => hc13 (by simp [e])
      obtain ⟨r, hr⟩ : ∃ r, joinL ((x :: c') :: t) ++ (crlf ++ (crlf ++ b)) = x :: r := by
        cases t with
        | nil => exact ⟨_, rfl⟩
        | cons d u => exact ⟨_, rfl⟩
      rw [joinL, List.append_assoc, List.append_assoc, hr, cut4_step (h13 a (by simp)) x r hx, ← hr, ih]
/-- Fields, line by line. -/
def fieldsOf : List Tx → Option (List Fd)
  | [] => some []
  | a :: t => match fieldL a with
    | none => none
    | some f => (fieldsOf t).map (f :: ·)
theorem fields_ended : ∀ (ls : List Tx) (n : Nat), ls.length ≤ n → (∀ a ∈ ls, (13 : UInt8) ∉ a) → fieldsL n (endedL ls) = fieldsOf ls
  | [], n, _, _ => by cases n <;> rfl
  | a :: t, 0, h, _ => by simp at h
  | a :: t, n + 1, h, h13 => by
    have ih := fields_ended t n (by simpa using h) (fun x hx => h13 x (List.mem_cons_of_mem _ hx))
    have e : endedL (a :: t) = a ++ (crlf ++ endedL t) := by simp [endedL, List.append_assoc]
    have c := cut2_app (h13 a (by simp)) (endedL t)
    have hn : ¬ a ++ (crlf ++ endedL t) = [] := by simp [crlf]
    rw [e, fieldsL, if_neg hn, c, fieldsOf]
    cases hf : fieldL a with
    | none => simp only
    | some f => simp only [behindL, c, Option.getD_some, ih]
theorem ended_len : ∀ (ls : List Tx), ls.length ≤ (endedL ls).length
  | [] => Nat.le_refl _
  | a :: t => by
    have := ended_len t
    simp only [endedL, List.flatMap_cons, List.length_append, List.length_cons] at this ⊢
    simp only [crlf, List.length_cons, List.length_nil] at this ⊢
    omega
def readLines (a : Tx) (t : List Tx) : Option Hd :=
  match requestL a with
  | none => none
  | some (m, p, q, h) => match fieldsOf t with
    | none => none
    | some fs => match hostOfL fs with
      | none => none
      | some x => some ⟨m, p, q, if h = [] then x else h, fs⟩
theorem read_ended (a : Tx) (t : List Tx) (h13 : ∀ x ∈ a :: t, (13 : UInt8) ∉ x) : readL (endedL (a :: t)) = readLines a t := by
  have e : endedL (a :: t) = a ++ (crlf ++ endedL t) := by simp [endedL, List.append_assoc]
  have c := cut2_app (h13 a (by simp)) (endedL t)
  have hf := fields_ended t (a ++ (crlf ++ endedL t)).length (by have := ended_len t; simp only [List.length_append]; omega) (fun x hx => h13 x (List.mem_cons_of_mem _ hx))
  unfold readL readLines
  rw [e, c]
  simp only [behindL, c, Option.getD_some, hf]
  rfl

/-- What is written. -/
def fdOk (f : Fd) : Bool := isTokenL f.name && (f.name == lowL f.name) && isValueL f.value
def mayBeL (h : Hd) : Bool := isTokenL h.method && isPathL h.path && isQueryL h.query && h.fields.all fdOk && (hostOfL h.fields == some h.host)
def targL (h : Hd) : Tx := if h.query = [] then h.path else h.path ++ 63 :: h.query
def line0 (h : Hd) : Tx := h.method ++ 32 :: (targL h ++ 32 :: versionL)
def lineF (f : Fd) : Tx := f.name ++ 58 :: 32 :: f.value
def linesH (h : Hd) : List Tx := line0 h :: h.fields.map lineF
def writtenL (h : Hd) : Tx := endedL (linesH h) ++ crlf
inductive Wrt where
  | ok (b : Tx)
  | bad (e : Nat)
def writeL (h : Hd) : Wrt := if mayBeL h then (if 32 < h.fields.length then .bad 6 else if 2048 < (writtenL h).length then .bad 6 else .ok (writtenL h)) else .bad 4
theorem token_not {l : Tx} (h : isTokenL l = true) {c : UInt8} (hc : isK 8 c = false) : c ∉ l := fun e => by
  have h1 := (Bool.and_eq_true_iff.1 h).2
  have := List.all_eq_true.1 h1 c e
  rw [hc] at this; cases this
theorem value_not {l : Tx} (h : isValueL l = true) {c : UInt8} (hc : isK 64 c = false) : c ∉ l := fun e => by
  have h1 := (Bool.and_eq_true_iff.1 h).1
  have := List.all_eq_true.1 h1 c e
  rw [hc] at this; cases this
theorem trim_lead (c : UInt8) (hc : [9, 32].contains c = true) (l : Tx) : trimB (c :: l) = trimB l := by
  unfold trimB Lib.trimS Lib.trimLeftS Lib.trimRightS
  rw [List.reverse_cons, List.dropWhile_append]
  by_cases h : (l.reverse.dropWhile ([9, 32].contains ·)).isEmpty = true
  · rw [if_pos h, List.isEmpty_iff.1 h, List.dropWhile_cons, if_pos hc]
    rfl
  · rw [if_neg h, List.reverse_append]
    show List.dropWhile _ (c :: _) = _
    rw [List.dropWhile_cons, if_pos hc]
    rfl
theorem field_line {f : Fd} (h : fdOk f = true) : fieldL (lineF f) = some f := by
  obtain ⟨h1, hv⟩ := Bool.and_eq_true_iff.1 h
  obtain ⟨ht, hl⟩ := Bool.and_eq_true_iff.1 h1
  have hc : cutL [58] (lineF f) = (f.name, some (32 :: f.value)) := cut1_app (token_not ht (c := 58) (by decide)) _
  have htr : trimB (32 :: f.value) = f.value := by rw [trim_lead 32 (by decide)]; exact (eq_of_beq (Bool.and_eq_true_iff.1 hv).2).symm
  unfold fieldL behindL
  rw [hc]
  simp only [Option.isSome_some, Option.getD_some, htr, ht, hv]
  rw [← eq_of_beq hl]
  rfl
theorem fields_lines : ∀ (l : List Fd), l.all fdOk = true → fieldsOf (l.map lineF) = some l
  | [], _ => rfl
  | f :: t, h => by
    rw [List.all_cons, Bool.and_eq_true] at h
    rw [List.map_cons, fieldsOf, field_line h.1, fields_lines t h.2]
    rfl
theorem targ_is {h : Hd} (hp : isPathL h.path = true) (hq : isQueryL h.query = true) : targetL (targL h) = some (h.path, h.query, []) := by
  unfold targL
  by_cases he : h.query = []
  · rw [if_pos he, he]; exact tgt3 hp
  · rw [if_neg he]
    obtain ⟨hp1, hp2⟩ := Bool.and_eq_true_iff.1 hp
    obtain ⟨r, hr⟩ := List.isPrefixOf_iff_prefix.1 hp1
    have c0 := cut1_app (esc_not hp2 (c := 63) (by decide) (by decide)) h.query
    have hpr : httpL.isPrefixOf h.path = false := by rw [← hr]; rfl
    unfold targetL behindL
    simp only [c0, Option.getD_some, hq, hpr, hp]
    rfl
theorem targ_not {h : Hd} (hp : isPathL h.path = true) (hq : isQueryL h.query = true) {c : UInt8} (h1 : ¬ c = 37) (h2 : isK 16 c = false) (h3 : isK 32 c = false) (h4 : ¬ c = 63) : c ∉ targL h := fun e => by
  have n1 := esc_not (Bool.and_eq_true_iff.1 hp).2 h1 h2
  have n2 := esc_not (k := 32) hq h1 h3
  unfold targL at e
  split at e
  · exact n1 e
  · simp only [List.mem_append, List.mem_cons, n1, n2, or_false, false_or] at e
    exact h4 e
theorem request_line {h : Hd} (hm : isTokenL h.method = true) (hp : isPathL h.path = true) (hq : isQueryL h.query = true) : requestL (line0 h) = some (h.method, h.path, h.query, []) := by
  have c0 : cutL [32] (line0 h) = (h.method, some (targL h ++ 32 :: versionL)) := cut1_app (token_not hm (c := 32) (by decide)) _
  have c1 : cutL [32] (targL h ++ 32 :: versionL) = (targL h, some versionL) := cut1_app (targ_not hp hq (by decide) (by decide) (by decide) (by decide)) _
  unfold requestL behindL
  simp only [c0, Option.getD_some, c1, targ_is hp hq, hm, beq_self_eq_true, Bool.and_self]
  rfl
structure MayB (h : Hd) : Prop where
  m : isTokenL h.method = true
  p : isPathL h.path = true
  q : isQueryL h.query = true
  f : h.fields.all fdOk = true
  x : hostOfL h.fields = some h.host
theorem mayB {h : Hd} (e : mayBeL h = true) : MayB h := by
  unfold mayBeL at e
  simp only [Bool.and_eq_true] at e
  exact ⟨e.1.1.1.1, e.1.1.1.2, e.1.1.2, e.1.2, eq_of_beq e.2⟩
theorem lines_13 {h : Hd} (e : MayB h) : (∀ a ∈ linesH h, (13 : UInt8) ∉ a) ∧ ∀ a ∈ (linesH h).tail, a ≠ [] := by
  refine ⟨fun a ha => ?_, fun a ha => ?_⟩
  · unfold linesH at ha
    rcases List.mem_cons.1 ha with rfl | ha
    · unfold line0
      intro e2
      simp only [List.mem_append, List.mem_cons, token_not e.m (c := 13) (by decide), targ_not e.p e.q (c := 13) (by decide) (by decide) (by decide) (by decide), false_or] at e2
      revert e2; decide
    · obtain ⟨f, hf, rfl⟩ := List.mem_map.1 ha
      have h1 := List.all_eq_true.1 e.f f hf
      unfold fdOk at h1
      simp only [Bool.and_eq_true] at h1
      intro e2
      unfold lineF at e2
      simp only [List.mem_append, List.mem_cons, token_not h1.1.1 (c := 13) (by decide), value_not h1.2 (c := 13) (by decide), or_false, false_or] at e2
      revert e2; decide
  · obtain ⟨f, hf, rfl⟩ := List.mem_map.1 ha
    unfold lineF
    simp
theorem written_cut {h : Hd} (e : MayB h) (b : Tx) : cutL (crlf ++ crlf) (writtenL h ++ b) = (joinL (linesH h), some b) := by
  have hl := lines_13 e
  have := cut4_join (linesH h) (by simp [linesH]) hl.1 hl.2 b
  unfold writtenL
  rwa [← joinL_ended (linesH h) (by simp [linesH]), List.append_assoc, List.append_assoc]
theorem written_read {h : Hd} (e : MayB h) : readL (joinL (linesH h) ++ crlf) = some h := by
  rw [joinL_ended (linesH h) (by simp [linesH])]
  have := read_ended (line0 h) (h.fields.map lineF) (lines_13 e).1
  unfold linesH
  rw [this]
  unfold readLines
  simp only [request_line e.m e.p e.q, fields_lines _ e.f, e.x, if_true]
theorem written_len (h : Hd) : (writtenL h).length = (joinL (linesH h)).length + 4 := by
  unfold writtenL
  rw [← joinL_ended (linesH h) (by simp [linesH])]
  simp [crlf]
/-- What is written is parsed as it was, whatever stands behind it. -/
theorem back_parse {h : Hd} (e : MayB h) (hf : h.fields.length ≤ 32) (hl : (writtenL h).length ≤ 2048) (b : Tx) : parseL (writtenL h ++ b) = .ok h (writtenL h).length := by
  have ht : (writtenL h ++ b).take 2048 = writtenL h ++ b.take (2048 - (writtenL h).length) := by rw [List.take_append, List.take_of_length_le hl]
  unfold parseL
  rw [ht, written_cut e]
  simp only [written_read e]
  rw [if_neg (by omega), ← written_len]
theorem write_ok {h : Hd} {a : Tx} (e : writeL h = .ok a) : MayB h ∧ h.fields.length ≤ 32 ∧ (writtenL h).length ≤ 2048 ∧ a = writtenL h := by
  unfold writeL at e
  split at e
  · rename_i h1
    split at e
    · cases e
    · split at e
      · cases e
      · cases e
        exact ⟨mayB h1, by omega, by omega, rfl⟩
  · cases e
theorem cutL_more {sep : Tx} : ∀ {l b : Tx} (r : Tx), (cutL sep l).2 = some b → cutL sep (l ++ r) = ((cutL sep l).1, some (b ++ r))
  | [], b, r, h => by cases h
  | c :: t, b, r, h => by
    unfold cutL at h
    split at h
    · rename_i hp
      simp only [Option.some.injEq] at h
      obtain ⟨u, hu⟩ := List.isPrefixOf_iff_prefix.1 hp
      have hp2 : sep.isPrefixOf (c :: (t ++ r)) = true := List.isPrefixOf_iff_prefix.2 ⟨u ++ r, by rw [← List.append_assoc, hu]; rfl⟩
      rw [List.cons_append, cutL, if_pos hp2, cutL, if_pos hp, ← h, ← List.cons_append, List.drop_append_of_le_length (by rw [← hu]; simp)]
    · rename_i hp
      simp only at h
      have ih := cutL_more r h
      have hp2 : ¬ sep.isPrefixOf (c :: (t ++ r)) = true := fun e2 => by
        have hl := congrArg List.length (cutL_some h)
        simp only [List.length_append] at hl
        obtain ⟨u, hu⟩ := List.isPrefixOf_iff_prefix.1 e2
        refine hp (List.isPrefixOf_iff_prefix.2 ?_)
        refine (List.prefix_of_prefix_length_le (l₃ := c :: (t ++ r)) ⟨u, hu⟩ ⟨r, rfl⟩ ?_)
        simp only [List.length_cons]; omega
      rw [List.cons_append, cutL, if_neg hp2, ih, cutL, if_neg hp]
/-- A head that is cut short. -/
theorem cut_short {h : Hd} {a : Tx} (e : writeL h = .ok a) (j : Nat) (hj : j < a.length) : parseL (a.take j) = .bad 3 := by
  obtain ⟨h1, h2, h3, rfl⟩ := write_ok e
  have hlen : ((writtenL h).take j).length = j := by rw [List.length_take]; omega
  have ht : ((writtenL h).take j).take 2048 = (writtenL h).take j := List.take_of_length_le (by omega)
  have hc : (cutL (crlf ++ crlf) ((writtenL h).take j)).2 = none := by
    cases hx : (cutL (crlf ++ crlf) ((writtenL h).take j)).2 with
    | none => rfl
    | some b =>
      have h4 := cutL_more ((writtenL h).drop j) hx
      rw [List.take_append_drop] at h4
      have h5 := written_cut h1 []
      rw [List.append_nil, h4] at h5
      have h6 := congrArg (fun p => (p.2.getD []).length) h5
      simp only [Option.getD_some, List.length_append, List.length_drop, List.length_nil] at h6
      omega
  unfold parseL
  rw [ht, hc]
  simp only
  rw [if_pos (by omega)]
  rfl
theorem low_len (l : Tx) : (lowL l).length = l.length := by simp [lowL, Lib.toLowerA]
end Go.Proofs.YtcmiappiocfbiaaGreatDoor
end
/- The document's words of heads, in plain words, are those of Hd0. -/
section
namespace Go.Proofs.YtcmiappiocfbiaaGreatDoor
set_option linter.unusedVariables false

def blank (c : UInt8) : Bool := [9, 32].contains c
theorem drop_id {p : UInt8 → Bool} {l : Tx} (h : ∀ c, l.head? = some c → p c = false) : l.dropWhile p = l := by
  cases l with
  | nil => rfl
  | cons c t => rw [List.dropWhile_cons, if_neg (by rw [h c rfl]; decide)]
theorem drop_len (p : UInt8 → Bool) (l : Tx) : (l.dropWhile p).length ≤ l.length := (List.dropWhile_sublist _).length_le
theorem drop_full {p : UInt8 → Bool} {l : Tx} (h : (l.dropWhile p).length = l.length) : ∀ c, l.head? = some c → p c = false := by
  intro c hc
  cases l with
  | nil => cases hc
  | cons x t =>
    obtain rfl : x = c := Option.some.inj hc
    cases hp : p x with
    | false => rfl
    | true =>
      rw [List.dropWhile_cons, if_pos hp] at h
      have := drop_len p t
      simp only [List.length_cons] at h
      omega
theorem trimB_is (l : Tx) : trimB l = ((l.reverse.dropWhile blank).reverse).dropWhile blank := rfl
/-- Trimmed from the left, then from the right. -/
def trimR (l : Tx) : Tx := ((l.dropWhile blank).reverse.dropWhile blank).reverse
theorem trimR_is : ∀ (l : Tx), trimR l = trimB l
  | [] => rfl
  | c :: t => by
    cases hc : blank c with
    | true =>
      have e : trimR (c :: t) = trimR t := by unfold trimR; rw [List.dropWhile_cons, if_pos hc]
      rw [e, trimR_is t, trim_lead c hc]
    | false =>
      have e1 : (c :: t).dropWhile blank = c :: t := by rw [List.dropWhile_cons, if_neg (by rw [hc]; decide)]
      have e2 : ∃ r, ((c :: t).reverse.dropWhile blank).reverse = c :: r := by
        rw [List.reverse_cons, List.dropWhile_append]
        by_cases h : (t.reverse.dropWhile blank).isEmpty = true
        · rw [if_pos h, List.dropWhile_cons, if_neg (by rw [hc]; decide)]
          exact ⟨[], rfl⟩
        · rw [if_neg h, List.reverse_append]
          exact ⟨_, rfl⟩
      obtain ⟨r, hr⟩ := e2
      unfold trimR
      rw [e1, trimB_is, hr, List.dropWhile_cons, if_neg (by rw [hc]; decide)]
theorem trim_same (l : Tx) : (l == trimB l) = (l.head?.all (!blank ·) && l.getLast?.all (!blank ·)) := by
  rw [Bool.eq_iff_iff, beq_iff_eq, Bool.and_eq_true, trimB_is]
  constructor
  · intro h
    have l1 := drop_len blank l.reverse
    have l2 := drop_len blank (l.reverse.dropWhile blank).reverse
    have l3 := congrArg List.length h
    rw [List.length_reverse] at l1 l2
    have f1 := drop_full (p := blank) (l := l.reverse) (by rw [List.length_reverse]; omega)
    have e1 : l.reverse.dropWhile blank = l.reverse := drop_id f1
    rw [e1, List.reverse_reverse] at h
    have f2 := drop_full (p := blank) (l := l) (by rw [← h])
    refine ⟨?_, ?_⟩
    · cases hh : l.head? with
      | none => rfl
      | some c => rw [Option.all_some, f2 c hh]; rfl
    · cases hh : l.getLast? with
      | none => rfl
      | some c => rw [Option.all_some, f1 c (by rw [List.head?_reverse, hh])]; rfl
  · rintro ⟨h1, h2⟩
    have e1 : l.reverse.dropWhile blank = l.reverse := drop_id fun c hc => by
      rw [List.head?_reverse] at hc
      rw [hc, Option.all_some] at h2
      simpa using h2
    rw [e1, List.reverse_reverse, drop_id fun c hc => by rw [hc, Option.all_some] at h1; simpa using h1]
/-- A value, byte by byte; b: it is the first one. -/
def okV (b : Bool) (c : UInt8) (t : Tx) : Bool := if c = 9 ∨ c = 32 then !(b || t.isEmpty) else !(decide (c < 32) || decide (c = 127))
def valR : Bool → Tx → Bool
  | _, [] => true
  | b, c :: t => okV b c t && valR false t
theorem okV_is (b : Bool) (c : UInt8) (t : Tx) : okV b c t = (isK 64 c && (!blank c || !(b || t.isEmpty))) := by
  unfold okV
  have h := each8 (p := fun c => (if c = 9 ∨ c = 32 then isK 64 c && blank c else (isK 64 c == !(decide (c < 32) || decide (c = 127))) && !blank c)) (by decide +kernel) c
  by_cases hc : c = 9 ∨ c = 32
  · rw [if_pos hc] at h ⊢
    obtain ⟨h1, h2⟩ := Bool.and_eq_true_iff.1 h
    rw [h1, h2]
    simp
  · rw [if_neg hc] at h ⊢
    obtain ⟨h1, h2⟩ := Bool.and_eq_true_iff.1 h
    rw [eq_of_beq h1, h2]
    simp
theorem valR_false : ∀ (l : Tx), valR false l = (allK 64 l && l.getLast?.all (!blank ·))
  | [] => rfl
  | [c] => by
    show (okV false c [] && true) = _
    rw [okV_is]
    simp [allK]
  | c :: d :: t => by
    have ih := valR_false (d :: t)
    show (okV false c (d :: t) && valR false (d :: t)) = _
    rw [okV_is, ih, List.getLast?_cons_cons]
    simp only [allK, List.all_cons, List.isEmpty_cons, Bool.or_false, Bool.not_false, Bool.or_true, Bool.and_true]
    simp only [Bool.and_assoc]
theorem valR_is (l : Tx) : valR true l = isValueL l := by
  unfold isValueL
  rw [trim_same]
  cases l with
  | nil => rfl
  | cons c t =>
    show (okV true c t && valR false t) = _
    rw [okV_is, valR_false, List.head?_cons, Option.all_some]
    cases t with
    | nil => simp [allK]
    | cons d u =>
      rw [List.getLast?_cons_cons]
      simp only [allK, List.all_cons, Bool.true_or, Bool.not_true, Bool.or_false]
      cases isK 64 c <;> cases blank c <;> simp
/-- Dots, byte by byte; p: ahead of it is a dot, or nothing. -/
def okD (p : Bool) (c : UInt8) (t : Tx) : Bool := if c = 46 then !(p || t.isEmpty) else true
def dotsR : Bool → Tx → Bool
  | _, [] => true
  | p, c :: t => okD p c t && dotsR (decide (c = 46)) t
def inHost (c : UInt8) : Bool := isK 4 c || decide (c = 46)
theorem hostGo_is : ∀ (b : Bool) (l : Tx), hostGo b l = ((b || !l.isEmpty) && l.all inHost && dotsR (!b) l)
  | b, [] => by cases b <;> rfl
  | b, c :: t => by
    unfold hostGo
    by_cases hc : c = 46
    · rw [if_pos hc, hostGo_is false t]
      have e : inHost c = true := by rw [hc]; decide
      simp only [dotsR, okD, if_pos hc, List.all_cons, e, List.isEmpty_cons, decide_eq_true hc]
      cases b <;> cases t.isEmpty <;> cases t.all inHost <;> simp
    · rw [if_neg hc, hostGo_is true t]
      have e : inHost c = isK 4 c := by unfold inHost; rw [decide_eq_false hc, Bool.or_false]
      simp only [dotsR, okD, if_neg hc, List.all_cons, e, List.isEmpty_cons, decide_eq_false hc]
      cases b <;> cases isK 4 c <;> cases t.all inHost <;> simp
/-- A host, as the document says it. -/
theorem hostL_is (s : Tx) : hostL s = if (decide ((cutL [58] s).1.length < 1) || decide (64 < (cutL [58] s).1.length) || decide (5 < (behindL [58] s).length) || !allK 1 (behindL [58] s) || !(cutL [58] s).1.all inHost) || !dotsR true (cutL [58] s).1 then none else some (lowL (cutL [58] s).1) := by
  unfold hostL isHostL
  rw [hostGo_is]
  generalize (cutL [58] s).1 = h
  generalize behindL [58] s = p
  have e1 : decide (h.length < 1) = h.isEmpty := by cases h <;> simp
  rw [e1]
  have e2 : decide (64 < h.length) = !decide (h.length ≤ 64) := by rw [Bool.eq_iff_iff]; simp
  rw [e2, show (!false) = true from rfl]
  cases h.isEmpty <;> cases decide (h.length ≤ 64) <;> cases decide (5 < p.length) <;> cases allK 1 p <;> cases h.all inHost <;> cases dotsR true h <;> rfl
/-- Lines of a text. -/
def linesN : Nat → Tx → List Tx
  | 0, l => [l]
  | n + 1, l => match (cutL crlf l).2 with
    | none => [l]
    | some b => (cutL crlf l).1 :: linesN n b
def linesL (l : Tx) : List Tx := linesN l.length l
theorem cut2_end : ∀ (A : Tx), cutL crlf (A ++ crlf) = match (cutL crlf A).2 with
    | none => (A, some [])
    | some b => ((cutL crlf A).1, some (b ++ crlf))
  | [] => by decide
  | c :: t => by
    have ih := cut2_end t
    have e : crlf.isPrefixOf (c :: (t ++ crlf)) = crlf.isPrefixOf (c :: t) := by
      cases t with
      | nil => simp [crlf, List.isPrefixOf]
      | cons d u => simp [crlf, List.isPrefixOf]
    by_cases hp : crlf.isPrefixOf (c :: t) = true
    · have e2 : (cutL crlf (c :: t)) = ([], some ((c :: t).drop crlf.length)) := by rw [cutL, if_pos hp]
      have hl : crlf.length ≤ (c :: t).length := (List.isPrefixOf_iff_prefix.1 hp).length_le
      rw [e2]
      simp only
      rw [List.cons_append, cutL, if_pos (by rw [e]; exact hp), ← List.cons_append, List.drop_append_of_le_length hl]
    · have e2 : (cutL crlf (c :: t)) = (c :: (cutL crlf t).1, (cutL crlf t).2) := by rw [cutL, if_neg hp]
      rw [e2, List.cons_append, cutL, if_neg (by rw [e]; exact hp), ih]
      cases h : (cutL crlf t).2 with
      | none => simp only
      | some b => simp only
theorem lines_fields : ∀ (n : Nat) (l : Tx) (m : Nat), l.length ≤ n → l.length + 2 ≤ m → fieldsL m (l ++ crlf) = fieldsOf (linesN n l)
  | n, l, 0, h1, h2 => by omega
  | 0, l, m + 1, h1, h2 => by
    have hl : l = [] := List.length_eq_zero_iff.1 (by omega)
    subst hl
    have c : cutL crlf ([] ++ crlf) = ([], some []) := rfl
    rw [fieldsL, if_neg (by simp [crlf]), c]
    have hf : fieldL [] = none := by decide
    simp only [hf, linesN, fieldsOf]
  | n + 1, l, m + 1, h1, h2 => by
    have c := cut2_end l
    rw [fieldsL, if_neg (by simp [crlf]), linesN]
    cases h : (cutL crlf l).2 with
    | none =>
      rw [h] at c
      simp only at c
      rw [c]
      simp only [behindL, c, Option.getD_some, fieldsOf]
      cases hf : fieldL l with
      | none => rfl
      | some f => simp only; cases m <;> rfl
    | some b =>
      rw [h] at c
      simp only at c
      have hlen := congrArg List.length (cutL_some h)
      simp only [List.length_append, crlf, List.length_cons, List.length_nil] at hlen
      rw [c]
      simp only [behindL, c, Option.getD_some, fieldsOf]
      cases hf : fieldL (cutL crlf l).1 with
      | none => rfl
      | some f =>
        simp only
        rw [lines_fields n b m (by omega) (by omega)]
/-- What lines say. -/
def readLs : List Tx → Option Hd
  | [] => none
  | a :: t => readLines a t
theorem read_lines (A : Tx) : readL (A ++ crlf) = readLs (linesL A) := by
  have c := cut2_end A
  unfold readL linesL
  cases h : (cutL crlf A).2 with
  | none =>
    rw [h] at c
    simp only at c
    have e : linesN A.length A = [A] := by
      cases hn : A.length with
      | zero => rfl
      | succ n => rw [linesN, h]
    rw [e, c]
    simp only [behindL, c, Option.getD_some, readLs, readLines, fieldsOf]
    have hz : ∀ k, fieldsL k [] = some [] := fun k => by cases k <;> rfl
    rw [hz]
    rfl
  | some b =>
    rw [h] at c
    simp only at c
    have hlen := congrArg List.length (cutL_some h)
    simp only [List.length_append, crlf, List.length_cons, List.length_nil] at hlen
    have e : linesN A.length A = (cutL crlf A).1 :: linesN (A.length - 1) b := by
      obtain ⟨n, hn⟩ : ∃ n, A.length = n + 1 := ⟨A.length - 1, by omega⟩
      rw [hn, linesN, h]
      rfl
    rw [e, c]
    simp only [behindL, c, Option.getD_some, readLs, readLines]
    rw [lines_fields (A.length - 1) b _ (by omega) (by simp [crlf]; omega)]
    rfl
end Go.Proofs.YtcmiappiocfbiaaGreatDoor
end
/- The document's paths and queries (tollgateref09: in, such, Path, Query) are those of the plain words. -/
section
namespace Go.Proofs.YtcmiappiocfbiaaGreatDoor
open Go.ChangeShapes Go.WideShapes Go.ChangeAt Go.RowKit
set_option linter.unusedVariables false

theorem byte_eq (x c : UInt8) : (((x.toNat : Nat) : Int) == ((c.toNat : Nat) : Int)) = decide (x = c) := by
  rw [Bool.eq_iff_iff, beq_iff_eq, decide_eq_true_eq, ← UInt8.toNat_inj]
  omega
def hasL (c : UInt8) (l : Tx) : Bool := l.contains c
theorem has_cons (c x : UInt8) (t : Tx) : hasL c (x :: t) = (decide (x = c) || hasL c t) := by
  unfold hasL
  rw [List.contains_cons]
  by_cases h : x = c
  · subst h; simp
  · have : ¬ c = x := fun e => h e.symm
    simp [h, this]
set_option maxHeartbeats 2000000 in
theorem in_calls (c : UInt8) (s : ByteArray) (hs : s.size ≤ maxLen) (w : World) : Calls Tryz.prog 71 #[.int .u8 (c.toNat : Int), .string s] w fun e w' => e = .returned (.bool (hasL c s.data.toList)) ∧ w' = w := by
  simp only [maxLen] at hs
  go_enter Tryz.func71, Tryz.ntmps71
  go_wp2
  go_loopw [5] (fun i wr => ∃ j : Nat, i = .int .i64 (j : Int) ∧ j ≤ s.size ∧ Hid (hasL c (s.data.toList.drop j) = hasL c s.data.toList) ∧ Hid (wr = w)) (fun i _ => s.size - (intOf i).toNat)
  case atStart => exact ⟨0, rfl, by omega, hide rfl, hide rfl⟩
  case round =>
    obtain ⟨j, rfl, hj, hE, hB⟩ := hrel
    by_cases h : j < s.size
    · have hE2 := hide (show hasL c (s.data.toList.drop j) = (decide ((s[j]'h) = c) || hasL c (s.data.toList.drop (j + 1))) by rw [drop_at s j h, has_cons])
      generalize hx : (s[j]'h) = x at *
      have hx2 : ∀ hh, (s[j]'hh) = x := fun _ => hx
      have hw : IntKind.i64.wrap ((j : Int) + 1) = ((j + 1 : Nat) : Int) := by rw [IntKind.wrap_i64]; omega
      have hlt : (j : Int) < (s.size : Int) := by omega
      have hq := byte_eq x c
      cases hi : decide (x = c) with
      | false =>
        have hE3 := hide (show hasL c (s.data.toList.drop (j + 1)) = hasL c s.data.toList by rw [← unhide hE, unhide hE2, hi]; rfl)
        rw [hi] at hq
        clear hi
        go_wp2
        go_roundw
        case rel => exact ⟨j + 1, by first | rfl | (rw [hw]), by omega, hE3, hB⟩
        case measure => simp [intOf]; omega
      | true =>
        have hE3 := hide (show hasL c s.data.toList = true by rw [← unhide hE, unhide hE2, hi]; rfl)
        rw [hi] at hq
        clear hi
        go_wp2
        go_ret
        exact ⟨by rw [unhide hE3]; rfl, unhide hB⟩
    · have hE3 := hide (show hasL c s.data.toList = false by rw [← unhide hE, drop_end s j h]; rfl)
      have hlt : ¬ (j : Int) < (s.size : Int) := by omega
      go_wp2
      go_ret
      exact ⟨by rw [unhide hE3]; rfl, unhide hB⟩
set_option quotPrecheck false
local notation "hex22" => (⟨#[48, 49, 50, 51, 52, 53, 54, 55, 56, 57, 97, 98, 99, 100, 101, 102, 65, 66, 67, 68, 69, 70]⟩ : ByteArray)
local notation "set80" => (⟨(List.append [97, 98, 99, 100, 101, 102, 103, 104, 105, 106, 107, 108, 109, 110, 111, 112, 113, 114, 115, 116, 117, 118, 119, 120, 121, 122, 65, 66, 67, 68, 69, 70, 71, 72, 73, 74, 75, 76, 77, 78] [79, 80, 81, 82, 83, 84, 85, 86, 87, 88, 89, 90, 48, 49, 50, 51, 52, 53, 54, 55, 56, 57, 47, 45, 46, 95, 126, 33, 36, 38, 39, 40, 41, 42, 43, 44, 59, 61, 58, 64]).toArray⟩ : ByteArray)
theorem each_byte {p q : UInt8 → Bool} (h : (List.range 256).all (fun n => p (UInt8.ofNat n) == q (UInt8.ofNat n)) = true) (x : UInt8) : p x = q x := by
  have h1 := List.all_eq_true.1 h x.toNat (List.mem_range.2 x.toNat_lt)
  rw [show UInt8.ofNat x.toNat = x from UInt8.ofNat_toNat] at h1
  exact eq_of_beq h1
theorem hex_is (x : UInt8) : hasL x (hex22).data.toList = isK 2 x := each_byte (p := fun x => hasL x (hex22).data.toList) (q := isK 2) (by decide +kernel) x
theorem set_is16 (x : UInt8) : hasL x (set80 ++ (⟨#[]⟩ : ByteArray)).data.toList = isK 16 x := each_byte (p := fun x => hasL x (set80 ++ (⟨#[]⟩ : ByteArray)).data.toList) (q := isK 16) (by decide +kernel) x
theorem set_is32 (x : UInt8) : hasL x (set80 ++ (⟨#[63]⟩ : ByteArray)).data.toList = isK 32 x := each_byte (p := fun x => hasL x (set80 ++ (⟨#[63]⟩ : ByteArray)).data.toList) (q := isK 32) (by decide +kernel) x
theorem hex16 (x : UInt8) (h : isK 2 x = true) : isK 16 x = true ∧ isK 32 x = true ∧ ¬ x = 37 := by
  have h1 := each_byte (p := fun x => isK 2 x && !(isK 16 x && isK 32 x && x != 37)) (q := fun _ => false) (by decide +kernel) x
  simp only [h, Bool.true_and, Bool.not_eq_false', Bool.and_eq_true, bne_iff_ne] at h1
  exact ⟨h1.1.1, h1.1.2, h1.2⟩
theorem allEsc_hex {k : Nat} (hk : ∀ x, isK 2 x = true → isK k x = true) (a b : UInt8) (t : Tx) (ha : isK 2 a = true) (hb : isK 2 b = true) : allEsc k (a :: b :: t) = allEsc k t := by
  show (okAt k a (b :: t) && (okAt k b t && allEsc k t)) = _
  unfold okAt
  rw [if_neg (hex16 a ha).2.2, if_neg (hex16 b hb).2.2, hk a ha, hk b hb]
  rfl
set_option maxHeartbeats 4000000 in
theorem such_calls (s more : ByteArray) (k : Nat) (hs : s.size ≤ 140737488355328) (hm : more.size ≤ 1) (hset : ∀ x, hasL x (set80 ++ more).data.toList = isK k x) (hk : ∀ x, isK 2 x = true → isK k x = true) (w : World) : Calls Tryz.prog 70 #[.string s, .string more] w fun e w' => e = .returned (.bool (allEsc k s.data.toList)) ∧ w' = w := by
  have hz0 : (set80).size = 80 := rfl
  have hz1 : (set80 ++ more).size = 80 + more.size := by rw [ByteArray.size_append, hz0]
  have I1 := hide (fun x W => show Calls Tryz.prog 71 #[.int .u8 (x.toNat : Int), .string (set80 ++ more)] W fun e w' => e = .returned (.bool (isK k x)) ∧ w' = W from by
    have := in_calls x (set80 ++ more) (by rw [hz1]; simp [maxLen]; omega) W
    rwa [hset x] at this)
  have I2 := hide (fun x W => show Calls Tryz.prog 71 #[.int .u8 (x.toNat : Int), .string hex22] W fun e w' => e = .returned (.bool (isK 2 x)) ∧ w' = W from by
    have := in_calls x hex22 (show 22 ≤ maxLen by simp [maxLen]) W
    rwa [hex_is x] at this)
  have HK := hide hk
  clear hk hset
  go_enter Tryz.func70, Tryz.ntmps70
  go_wp2
  go_loopw [5] (fun i wr => ∃ j : Nat, i = .int .i64 (j : Int) ∧ j ≤ s.size ∧ Hid (allEsc k (s.data.toList.drop j) = allEsc k s.data.toList) ∧ Hid (wr = w)) (fun i _ => s.size - (intOf i).toNat)
  case atStart => exact ⟨0, rfl, by omega, hide rfl, hide rfl⟩
  case round =>
    obtain ⟨j, rfl, hj, hE, hB⟩ := hrel
    by_cases h : j < s.size
    · have hE2 := hide (show allEsc k (s.data.toList.drop j) = (okAt k (s[j]'h) (s.data.toList.drop (j + 1)) && allEsc k (s.data.toList.drop (j + 1))) by rw [drop_at s j h]; rfl)
      generalize hx : (s[j]'h) = x at *
      have hx2 : ∀ hh, (s[j]'hh) = x := fun _ => hx
      have hw : IntKind.i64.wrap ((j : Int) + 1) = (j : Int) + 1 := by rw [IntKind.wrap_i64]; omega
      have hlt : (j : Int) < (s.size : Int) := by omega
      by_cases h37 : x = 37
      · have h37b : (((x.toNat : Nat) : Int) == 37) = true := by rw [byte37, decide_eq_true h37]
        have hok := hide (show okAt k x (s.data.toList.drop (j + 1)) = escL (s.data.toList.drop (j + 1)) by unfold okAt; rw [if_pos h37])
        clear h37
        have hw2 : IntKind.i64.wrap ((j : Int) + 2) = (j : Int) + 2 := by rw [IntKind.wrap_i64]; omega
        have hw3 : IntKind.i64.wrap ((j : Int) + 2 + 1) = (j : Int) + 3 := by rw [IntKind.wrap_i64]; omega
        by_cases h2 : j + 2 < s.size
        · have h1 : j + 1 < s.size := by omega
          have hd := hide (show s.data.toList.drop (j + 1) = (s[j + 1]'h1) :: (s[j + 2]'h2) :: s.data.toList.drop (j + 3) by rw [drop_at s (j + 1) h1, drop_at s (j + 1 + 1) h2])
          generalize hxa : (s[j + 1]'h1) = a at *
          generalize hxb : (s[j + 2]'h2) = b at *
          have hxa2 : ∀ hh, (s[j + 1]'hh) = a := fun _ => hxa
          have hxb2 : ∀ hh, (s[j + 2]'hh) = b := fun _ => hxb
          have q0 : ¬ (s.size : Int) ≤ (j : Int) + 2 := by omega
          have q1 : (j : Int) + 1 < (s.size : Int) := by omega
          have q2 : (j : Int) + 2 < (s.size : Int) := by omega
          have q3 : (0 : Int) ≤ (j : Int) + 1 := by omega
          have q4 : (0 : Int) ≤ (j : Int) + 2 := by omega
          have t1 : ((j : Int) + 1).toNat = j + 1 := by omega
          have t2 : ((j : Int) + 2).toNat = j + 2 := by omega
          have he := hide (show escL (s.data.toList.drop (j + 1)) = (isK 2 a && isK 2 b) by rw [unhide hd]; rfl)
          cases ha : isK 2 a with
          | false =>
            have hE3 := hide (show allEsc k s.data.toList = false by rw [← unhide hE, unhide hE2, unhide hok, unhide he, ha]; rfl)
            go_wp2_with (go_at_call 71; refine (unhide I2 _ _).mono ?_; rintro e w' ⟨rfl, hb2⟩; rw [ha]; rw [hb2]; clear hb2)
            go_ret
            exact ⟨by rw [unhide hE3]; rfl, unhide hB⟩
          | true =>
            cases hb : isK 2 b with
            | false =>
              have hE3 := hide (show allEsc k s.data.toList = false by rw [← unhide hE, unhide hE2, unhide hok, unhide he, ha, hb]; rfl)
              go_wp2_with (go_at_call 71; refine (unhide I2 _ _).mono ?_; rintro e w' ⟨rfl, hb2⟩; first | rw [ha] | rw [hb]; rw [hb2]; clear hb2)
              go_ret
              exact ⟨by rw [unhide hE3]; rfl, unhide hB⟩
            | true =>
              have hE3 := hide (show allEsc k (s.data.toList.drop (j + 3)) = allEsc k s.data.toList by rw [← unhide hE, unhide hE2, unhide hok, unhide he, ha, hb, unhide hd, allEsc_hex (unhide HK) a b _ ha hb]; rfl)
              go_wp2_with (go_at_call 71; refine (unhide I2 _ _).mono ?_; rintro e w' ⟨rfl, hb2⟩; first | rw [ha] | rw [hb]; rw [hb2]; clear hb2)
              go_roundw
              case rel => exact ⟨j + 3, by first | rfl | (rw [hw3]; rfl), by omega, hE3, hB⟩
              case measure => simp [intOf]; omega
        · have q0 : (s.size : Int) ≤ (j : Int) + 2 := by omega
          have he := hide (show escL (s.data.toList.drop (j + 1)) = false by
            have hl : (s.data.toList.drop (j + 1)).length < 2 := by simp; omega
            rw [two_or, decide_eq_false (by omega)]; rfl)
          have hE3 := hide (show allEsc k s.data.toList = false by rw [← unhide hE, unhide hE2, unhide hok, unhide he]; rfl)
          go_wp2
          go_ret
          exact ⟨by rw [unhide hE3]; rfl, unhide hB⟩
      · have h37b : (((x.toNat : Nat) : Int) == 37) = false := by rw [byte37, decide_eq_false h37]
        have hok := hide (show okAt k x (s.data.toList.drop (j + 1)) = isK k x by unfold okAt; rw [if_neg h37])
        clear h37
        cases hi : isK k x with
        | true =>
          have hE3 := hide (show allEsc k (s.data.toList.drop (j + 1)) = allEsc k s.data.toList by rw [← unhide hE, unhide hE2, unhide hok, hi]; rfl)
          go_wp2_with (go_at_call 71; refine (unhide I1 _ _).mono ?_; rintro e w' ⟨rfl, hb2⟩; rw [hi]; rw [hb2]; clear hb2)
          go_roundw
          case rel => exact ⟨j + 1, by first | rfl | (rw [hw]; rfl), by omega, hE3, hB⟩
          case measure => simp [intOf]; omega
        | false =>
          have hE3 := hide (show allEsc k s.data.toList = false by rw [← unhide hE, unhide hE2, unhide hok, hi]; rfl)
          go_wp2_with (go_at_call 71; refine (unhide I1 _ _).mono ?_; rintro e w' ⟨rfl, hb2⟩; rw [hi]; rw [hb2]; clear hb2)
          go_ret
          exact ⟨by rw [unhide hE3]; rfl, unhide hB⟩
    · have hE3 := hide (show allEsc k s.data.toList = true by rw [← unhide hE, drop_end s j h]; rfl)
      have hlt : ¬ (j : Int) < (s.size : Int) := by omega
      go_wp2
      go_ret
      exact ⟨by rw [unhide hE3]; rfl, unhide hB⟩
theorem pathR_is (s : ByteArray) (h : ¬ s.data.toList = []) : ∃ h0 : 0 < s.size, isPathL s.data.toList = (decide ((s[0]'h0) = 47) && allEsc 16 s.data.toList) := by
  have h0 : 0 < s.size := by
    have : 0 < s.data.toList.length := List.length_pos_iff.2 h
    simpa using this
  refine ⟨h0, ?_⟩
  have e := drop_at s 0 h0
  rw [List.drop_zero] at e
  unfold isPathL
  have e2 : [47].isPrefixOf s.data.toList = decide ((s[0]'h0) = 47) := by
    rw [e]
    by_cases hq : (s[0]'h0) = 47
    · simp [List.isPrefixOf, hq]
    · simp only [List.isPrefixOf, hq, decide_false, Bool.and_eq_false_iff, beq_eq_false_iff_ne, ne_eq]
      exact .inl fun e => hq e.symm
  rw [e2]
set_option maxHeartbeats 1000000 in
theorem pathR_calls (s : ByteArray) (hs : s.size ≤ 140737488355328) (w : World) : Calls Tryz.prog 53 #[.string s] w fun e w' => e = .returned (.bool (isPathL s.data.toList)) ∧ w' = w := by
  have SC := hide (fun W => such_calls s ⟨#[]⟩ 16 hs (by decide) set_is16 (fun x h => (hex16 x h).1) W)
  have hn := str_nil s
  have hnil : (⟨#[]⟩ : ByteArray).toList = [] := by rw [ByteArray.toList_eq]
  cases h : s.data.toList.isEmpty with
  | true =>
    rw [h] at hn
    have hE3 := hide (show isPathL s.data.toList = false by rw [List.isEmpty_iff.1 h]; rfl)
    clear h
    go_enter Tryz.func53, Tryz.ntmps53
    go_wp2
    go_ret
    exact ⟨by rw [unhide hE3]; rfl, rfl⟩
  | false =>
    rw [h] at hn
    obtain ⟨h0, hE⟩ := pathR_is s (fun e => by rw [e] at h; cases h)
    have HE := hide hE
    clear h hE
    generalize hx : (s[0]'h0) = x at *
    have hx2 : ∀ hh, (s[0]'hh) = x := fun _ => hx
    have hlt : (0 : Int) < (s.size : Int) := by omega
    have hq : (((x.toNat : Nat) : Int) == 47) = decide (x = 47) := byte_eq x 47
    cases hi : decide (x = 47) with
    | false =>
      have hE3 := hide (show isPathL s.data.toList = false by rw [unhide HE, hi]; rfl)
      rw [hi] at hq
      clear hi
      go_enter Tryz.func53, Tryz.ntmps53
      go_wp2
      go_ret
      exact ⟨by rw [unhide hE3]; rfl, rfl⟩
    | true =>
      have hE3 := hide (show isPathL s.data.toList = allEsc 16 s.data.toList by rw [unhide HE, hi]; rfl)
      rw [hi] at hq
      clear hi
      go_enter Tryz.func53, Tryz.ntmps53
      go_wp2_with (go_at_call 70; refine (unhide SC _).mono ?_; rintro e w' ⟨rfl, hb2⟩; rw [hb2]; clear hb2)
      go_ret
      exact ⟨by rw [unhide hE3]; rfl, rfl⟩
theorem queryR_calls (s : ByteArray) (hs : s.size ≤ 140737488355328) (w : World) : Calls Tryz.prog 54 #[.string s] w fun e w' => e = .returned (.bool (isQueryL s.data.toList)) ∧ w' = w := by
  have SC := hide (fun W => such_calls s ⟨#[63]⟩ 32 hs (by decide) set_is32 (fun x h => (hex16 x h).2.1) W)
  go_enter Tryz.func54, Tryz.ntmps54
  go_wp2_with (go_at_call 70; refine (unhide SC _).mono ?_; rintro e w' ⟨rfl, hb2⟩; rw [hb2]; clear hb2)
  go_ret
  exact ⟨rfl, rfl⟩
end Go.Proofs.YtcmiappiocfbiaaGreatDoor
end
