/- The document's words of heads, in plain words, are those of Hd0. -/
import Derived.Test.YtcmiappiocfbiaaGreatDoorHdn
namespace Go.Proofs.YtcmiappiocfbiaaGreatDoor
set_option linter.unusedVariables false

def blank (c : UInt8) : Bool := [9, 32].contains c
theorem drop_id {p : UInt8 → Bool} {l : Tx} (h : ∀ c, l.head? = some c → p c = false) : l.dropWhile p = l := by
  cases l with
  | nil => rfl
  | cons c t => rw [List.dropWhile_cons, if_neg (by rw [h c rfl]; decide)]
theorem drop_len (p : UInt8 → Bool) (l : Tx) : (l.dropWhile p).length ≤ l.length := (List.dropWhile_sublist _).length_le
theorem drop_full {p : UInt8 → Bool} {l : Tx} (h : (l.dropWhile p).length = l.length) : ∀ c, l.head? = some c → p c = false := by
  intro c hc
  cases l with
  | nil => cases hc
  | cons x t =>
    obtain rfl : x = c := Option.some.inj hc
    cases hp : p x with
    | false => rfl
    | true =>
      rw [List.dropWhile_cons, if_pos hp] at h
      have := drop_len p t
      simp only [List.length_cons] at h
      omega
theorem trimB_is (l : Tx) : trimB l = ((l.reverse.dropWhile blank).reverse).dropWhile blank := rfl
/-- Trimmed from the left, then from the right. -/
def trimR (l : Tx) : Tx := ((l.dropWhile blank).reverse.dropWhile blank).reverse
theorem trimR_is : ∀ (l : Tx), trimR l = trimB l
  | [] => rfl
  | c :: t => by
    cases hc : blank c with
    | true =>
      have e : trimR (c :: t) = trimR t := by unfold trimR; rw [List.dropWhile_cons, if_pos hc]
      rw [e, trimR_is t, trim_lead c hc]
    | false =>
      have e1 : (c :: t).dropWhile blank = c :: t := by rw [List.dropWhile_cons, if_neg (by rw [hc]; decide)]
      have e2 : ∃ r, ((c :: t).reverse.dropWhile blank).reverse = c :: r := by
        rw [List.reverse_cons, List.dropWhile_append]
        by_cases h : (t.reverse.dropWhile blank).isEmpty = true
        · rw [if_pos h, List.dropWhile_cons, if_neg (by rw [hc]; decide)]
          exact ⟨[], rfl⟩
        · rw [if_neg h, List.reverse_append]
          exact ⟨_, rfl⟩
      obtain ⟨r, hr⟩ := e2
      unfold trimR
      rw [e1, trimB_is, hr, List.dropWhile_cons, if_neg (by rw [hc]; decide)]
theorem trim_same (l : Tx) : (l == trimB l) = (l.head?.all (!blank ·) && l.getLast?.all (!blank ·)) := by
  rw [Bool.eq_iff_iff, beq_iff_eq, Bool.and_eq_true, trimB_is]
  constructor
  · intro h
    have l1 := drop_len blank l.reverse
    have l2 := drop_len blank (l.reverse.dropWhile blank).reverse
    have l3 := congrArg List.length h
    rw [List.length_reverse] at l1 l2
    have f1 := drop_full (p := blank) (l := l.reverse) (by rw [List.length_reverse]; omega)
    have e1 : l.reverse.dropWhile blank = l.reverse := drop_id f1
    rw [e1, List.reverse_reverse] at h
    have f2 := drop_full (p := blank) (l := l) (by rw [← h])
    refine ⟨?_, ?_⟩
    · cases hh : l.head? with
      | none => rfl
      | some c => rw [Option.all_some, f2 c hh]; rfl
    · cases hh : l.getLast? with
      | none => rfl
      | some c => rw [Option.all_some, f1 c (by rw [List.head?_reverse, hh])]; rfl
  · rintro ⟨h1, h2⟩
    have e1 : l.reverse.dropWhile blank = l.reverse := drop_id fun c hc => by
      rw [List.head?_reverse] at hc
      rw [hc, Option.all_some] at h2
      simpa using h2
    rw [e1, List.reverse_reverse, drop_id fun c hc => by rw [hc, Option.all_some] at h1; simpa using h1]
/-- A value, byte by byte; b: it is the first one. -/
def okV (b : Bool) (c : UInt8) (t : Tx) : Bool := if c = 9 ∨ c = 32 then !(b || t.isEmpty) else !(decide (c < 32) || decide (c = 127))
def valR : Bool → Tx → Bool
  | _, [] => true
  | b, c :: t => okV b c t && valR false t
theorem okV_is (b : Bool) (c : UInt8) (t : Tx) : okV b c t = (isK 64 c && (!blank c || !(b || t.isEmpty))) := by
  unfold okV
  have h := each8 (p := fun c => (if c = 9 ∨ c = 32 then isK 64 c && blank c else (isK 64 c == !(decide (c < 32) || decide (c = 127))) && !blank c)) (by decide +kernel) c
  by_cases hc : c = 9 ∨ c = 32
  · rw [if_pos hc] at h ⊢
    obtain ⟨h1, h2⟩ := Bool.and_eq_true_iff.1 h
    rw [h1, h2]
    simp
  · rw [if_neg hc] at h ⊢
    obtain ⟨h1, h2⟩ := Bool.and_eq_true_iff.1 h
    rw [eq_of_beq h1, h2]
    simp
theorem valR_false : ∀ (l : Tx), valR false l = (allK 64 l && l.getLast?.all (!blank ·))
  | [] => rfl
  | [c] => by
    show (okV false c [] && true) = _
    rw [okV_is]
    simp [allK]
  | c :: d :: t => by
    have ih := valR_false (d :: t)
    show (okV false c (d :: t) && valR false (d :: t)) = _
    rw [okV_is, ih, List.getLast?_cons_cons]
    simp only [allK, List.all_cons, List.isEmpty_cons, Bool.or_false, Bool.not_false, Bool.or_true, Bool.and_true]
    simp only [Bool.and_assoc]
theorem valR_is (l : Tx) : valR true l = isValueL l := by
  unfold isValueL
  rw [trim_same]
  cases l with
  | nil => rfl
  | cons c t =>
    show (okV true c t && valR false t) = _
    rw [okV_is, valR_false, List.head?_cons, Option.all_some]
    cases t with
    | nil => simp [allK]
    | cons d u =>
      rw [List.getLast?_cons_cons]
      simp only [allK, List.all_cons, Bool.true_or, Bool.not_true, Bool.or_false]
      cases isK 64 c <;> cases blank c <;> simp
/-- Dots, byte by byte; p: ahead of it is a dot, or nothing. -/
def okD (p : Bool) (c : UInt8) (t : Tx) : Bool := if c = 46 then !(p || t.isEmpty) else true
def dotsR : Bool → Tx → Bool
  | _, [] => true
  | p, c :: t => okD p c t && dotsR (decide (c = 46)) t
def inHost (c : UInt8) : Bool := isK 4 c || decide (c = 46)
theorem hostGo_is : ∀ (b : Bool) (l : Tx), hostGo b l = ((b || !l.isEmpty) && l.all inHost && dotsR (!b) l)
  | b, [] => by cases b <;> rfl
  | b, c :: t => by
    unfold hostGo
    by_cases hc : c = 46
    · rw [if_pos hc, hostGo_is false t]
      have e : inHost c = true := by rw [hc]; decide
      simp only [dotsR, okD, if_pos hc, List.all_cons, e, List.isEmpty_cons, decide_eq_true hc]
      cases b <;> cases t.isEmpty <;> cases t.all inHost <;> simp
    · rw [if_neg hc, hostGo_is true t]
      have e : inHost c = isK 4 c := by unfold inHost; rw [decide_eq_false hc, Bool.or_false]
      simp only [dotsR, okD, if_neg hc, List.all_cons, e, List.isEmpty_cons, decide_eq_false hc]
      cases b <;> cases isK 4 c <;> cases t.all inHost <;> simp
/-- A host, as the document says it. -/
theorem hostL_is (s : Tx) : hostL s = if (decide ((cutL [58] s).1.length < 1) || decide (64 < (cutL [58] s).1.length) || decide (5 < (behindL [58] s).length) || !allK 1 (behindL [58] s) || !(cutL [58] s).1.all inHost) || !dotsR true (cutL [58] s).1 then none else some (lowL (cutL [58] s).1) := by
  unfold hostL isHostL
  rw [hostGo_is]
  generalize (cutL [58] s).1 = h
  generalize behindL [58] s = p
  have e1 : decide (h.length < 1) = h.isEmpty := by cases h <;> simp
  rw [e1]
  have e2 : decide (64 < h.length) = !decide (h.length ≤ 64) := by rw [Bool.eq_iff_iff]; simp
  rw [e2, show (!false) = true from rfl]
  cases h.isEmpty <;> cases decide (h.length ≤ 64) <;> cases decide (5 < p.length) <;> cases allK 1 p <;> cases h.all inHost <;> cases dotsR true h <;> rfl
/-- Lines of a text. -/
def linesN : Nat → Tx → List Tx
  | 0, l => [l]
  | n + 1, l => match (cutL crlf l).2 with
    | none => [l]
    | some b => (cutL crlf l).1 :: linesN n b
def linesL (l : Tx) : List Tx := linesN l.length l
theorem cut2_end : ∀ (A : Tx), cutL crlf (A ++ crlf) = match (cutL crlf A).2 with
    | none => (A, some [])
    | some b => ((cutL crlf A).1, some (b ++ crlf))
  | [] => by decide
  | c :: t => by
    have ih := cut2_end t
    have e : crlf.isPrefixOf (c :: (t ++ crlf)) = crlf.isPrefixOf (c :: t) := by
      cases t with
      | nil => simp [crlf, List.isPrefixOf]
      | cons d u => simp [crlf, List.isPrefixOf]
    by_cases hp : crlf.isPrefixOf (c :: t) = true
    · have e2 : (cutL crlf (c :: t)) = ([], some ((c :: t).drop crlf.length)) := by rw [cutL, if_pos hp]
      have hl : crlf.length ≤ (c :: t).length := (List.isPrefixOf_iff_prefix.1 hp).length_le
      rw [e2]
      simp only
      rw [List.cons_append, cutL, if_pos (by rw [e]; exact hp), ← List.cons_append, List.drop_append_of_le_length hl]
    · have e2 : (cutL crlf (c :: t)) = (c :: (cutL crlf t).1, (cutL crlf t).2) := by rw [cutL, if_neg hp]
      rw [e2, List.cons_append, cutL, if_neg (by rw [e]; exact hp), ih]
      cases h : (cutL crlf t).2 with
      | none => simp only
      | some b => simp only
theorem lines_fields : ∀ (n : Nat) (l : Tx) (m : Nat), l.length ≤ n → l.length + 2 ≤ m → fieldsL m (l ++ crlf) = fieldsOf (linesN n l)
  | n, l, 0, h1, h2 => by omega
  | 0, l, m + 1, h1, h2 => by
    have hl : l = [] := List.length_eq_zero_iff.1 (by omega)
    subst hl
    have c : cutL crlf ([] ++ crlf) = ([], some []) := rfl
    rw [fieldsL, if_neg (by simp [crlf]), c]
    have hf : fieldL [] = none := by decide
    simp only [hf, linesN, fieldsOf]
  | n + 1, l, m + 1, h1, h2 => by
    have c := cut2_end l
    rw [fieldsL, if_neg (by simp [crlf]), linesN]
    cases h : (cutL crlf l).2 with
    | none =>
      rw [h] at c
      simp only at c
      rw [c]
      simp only [behindL, c, Option.getD_some, fieldsOf]
      cases hf : fieldL l with
      | none => rfl
      | some f => simp only; cases m <;> rfl
    | some b =>
      rw [h] at c
      simp only at c
      have hlen := congrArg List.length (cutL_some h)
      simp only [List.length_append, crlf, List.length_cons, List.length_nil] at hlen
      rw [c]
      simp only [behindL, c, Option.getD_some, fieldsOf]
      cases hf : fieldL (cutL crlf l).1 with
      | none => rfl
      | some f =>
        simp only
        rw [lines_fields n b m (by omega) (by omega)]
/-- What lines say. -/
def readLs : List Tx → Option Hd
  | [] => none
  | a :: t => readLines a t
theorem read_lines (A : Tx) : readL (A ++ crlf) = readLs (linesL A) := by
  have c := cut2_end A
  unfold readL linesL
  cases h : (cutL crlf A).2 with
  | none =>
    rw [h] at c
    simp only at c
    have e : linesN A.length A = [A] := by
      cases hn : A.length with
      | zero => rfl
      | succ n => rw [linesN, h]
    rw [e, c]
    simp only [behindL, c, Option.getD_some, readLs, readLines, fieldsOf]
    have hz : ∀ k, fieldsL k [] = some [] := fun k => by cases k <;> rfl
    rw [hz]
    rfl
  | some b =>
    rw [h] at c
    simp only at c
    have hlen := congrArg List.length (cutL_some h)
    simp only [List.length_append, crlf, List.length_cons, List.length_nil] at hlen
    have e : linesN A.length A = (cutL crlf A).1 :: linesN (A.length - 1) b := by
      obtain ⟨n, hn⟩ : ∃ n, A.length = n + 1 := ⟨A.length - 1, by omega⟩
      rw [hn, linesN, h]
      rfl
    rw [e, c]
    simp only [behindL, c, Option.getD_some, readLs, readLines]
    rw [lines_fields (A.length - 1) b _ (by omega) (by simp [crlf]; omega)]
    rfl
end Go.Proofs.YtcmiappiocfbiaaGreatDoor
