/- Heads: texts all of whose letters are of a kind, tokens, escapes, paths, queries. -/
import Derived.Test.YtcmiappiocfbiaaGreatDoorB08
import Derived.Lib.OthersKept
import Derived.Shelf.Strings.Prefix
import Derived.Shelf.Strings.SlTrimAscii
import Derived.Shelf.Strings.CaseAny
import Derived.Lib.SmallJoins
import Derived.Laws.ResultCell
section
namespace Go.Proofs.YtcmiappiocfbiaaGreatDoor
open Go.ChangeShapes Go.WideShapes Go.ChangeAt Go.RowKit
set_option linter.unusedVariables false

theorem chain {B : Nat} {w W W' : World} (h : Hid (Below B w W)) (hb : Below W.heap.size W W') (hB : B ≤ w.heap.size := by exact Nat.le_refl _) : Hid (Below B w W') := hide ((unhide h).trans (hb.mono (Nat.le_trans hB (unhide h).size)))
theorem drop_at (s : ByteArray) (j : Nat) (h : j < s.size) : s.data.toList.drop j = (s[j]'h) :: s.data.toList.drop (j + 1) := by
  rw [List.drop_eq_getElem_cons (by simpa using h)]
  simp
  rfl
theorem drop_end (s : ByteArray) (j : Nat) (h : ¬ j < s.size) : s.data.toList.drop j = [] := List.drop_of_length_le (by simp; omega)
set_option maxHeartbeats 2000000 in
theorem all_calls (s : ByteArray) (k : Nat) (hk : k < 128) (hs : s.size ≤ maxLen) (w : World) : Calls Tryz.prog 89 #[.string s, .int .i64 (k : Int)] w fun e w' => e = .returned (.bool (allK k s.data.toList)) ∧ Below w.heap.size w w' := by
  simp only [maxLen] at hs
  have IS := hide (fun x W => is_calls x k hk W)
  go_enter Tryz.func89, Tryz.ntmps89
  go_wp2
  go_loopw [8] (fun i wr => ∃ j : Nat, i = .int .i64 (j : Int) ∧ j ≤ s.size ∧ Hid (allK k (s.data.toList.drop j) = allK k s.data.toList) ∧ Hid (Below w.heap.size w wr)) (fun i _ => s.size - (intOf i).toNat)
  case atStart => exact ⟨0, rfl, by omega, hide rfl, hide (Below.refl _ _)⟩
  case round =>
    obtain ⟨j, rfl, hj, hE, hB⟩ := hrel
    by_cases h : j < s.size
    · have hE2 := hide (show allK k (s.data.toList.drop j) = (isK k (s[j]'h) && allK k (s.data.toList.drop (j + 1))) by rw [drop_at s j h]; rfl)
      generalize hx : (s[j]'h) = x at *
      have hx2 : ∀ hh, (s[j]'hh) = x := fun _ => hx
      have hw : IntKind.i64.wrap ((j : Int) + 1) = ((j + 1 : Nat) : Int) := by rw [IntKind.wrap_i64]; omega
      have hlt : (j : Int) < (s.size : Int) := by omega
      cases hi : isK k x with
      | true =>
        have hE3 := hide (show allK k (s.data.toList.drop (j + 1)) = allK k s.data.toList by rw [← unhide hE, unhide hE2, hi]; rfl)
        go_wp2_with (go_at_call 109; refine (unhide IS _ _).mono ?_; rintro e w' ⟨rfl, hb⟩; rw [hi]; have HB := chain hB hb)
        go_roundw
        case rel => exact ⟨j + 1, by first | rfl | (rw [hw]), by omega, hE3, HB⟩
        case measure => simp [intOf]; omega
      | false =>
        have hE3 := hide (show allK k s.data.toList = false by rw [← unhide hE, unhide hE2, hi]; rfl)
        go_wp2_with (go_at_call 109; refine (unhide IS _ _).mono ?_; rintro e w' ⟨rfl, hb⟩; rw [hi]; have HB := chain hB hb)
        go_ret
        exact ⟨by rw [unhide hE3]; rfl, unhide HB⟩
    · have hE3 := hide (show allK k s.data.toList = true by rw [← unhide hE, drop_end s j h]; rfl)
      have hlt : ¬ (j : Int) < (s.size : Int) := by omega
      go_wp2
      go_ret
      exact ⟨by rw [unhide hE3]; rfl, unhide hB⟩
theorem str_nil (s : ByteArray) : (s.toList == []) = s.data.toList.isEmpty := by
  rw [ByteArray.toList_eq]
  cases s.data.toList <;> rfl
set_option maxHeartbeats 1000000 in
theorem isToken_calls (s : ByteArray) (hs : s.size ≤ maxLen) (w : World) : Calls Tryz.prog 79 #[.string s] w fun e w' => e = .returned (.bool (isTokenL s.data.toList)) ∧ Below w.heap.size w w' := by
  have AC := hide (fun W => all_calls s 8 (by decide) hs W)
  have hn := str_nil s
  have hnil : (⟨#[]⟩ : ByteArray).toList = [] := by rw [ByteArray.toList_eq]
  have hE := hide (show isTokenL s.data.toList = (!s.data.toList.isEmpty && allK 8 s.data.toList) from rfl)
  simp only [maxLen] at hs
  cases h : s.data.toList.isEmpty with
  | true =>
    rw [h] at hn
    have hE3 := hide (show isTokenL s.data.toList = false by rw [unhide hE, h]; rfl)
    clear h
    go_enter Tryz.func79, Tryz.ntmps79
    go_wp2
    go_ret
    exact ⟨by rw [unhide hE3]; rfl, Below.refl _ _⟩
  | false =>
    rw [h] at hn
    have hE3 := hide (show isTokenL s.data.toList = allK 8 s.data.toList by rw [unhide hE, h]; rfl)
    clear h
    go_enter Tryz.func79, Tryz.ntmps79
    go_wp2_with (go_at_call 89; refine (unhide AC _).mono ?_; rintro e w' ⟨rfl, hb⟩)
    go_ret
    exact ⟨by rw [unhide hE3]; rfl, hb⟩
theorem two_or (l : Tx) : escL l = (decide (2 ≤ l.length) && allK 2 (l.take 2)) := by
  match l with
  | [] => simp [escL]
  | [a] => simp [escL]
  | a :: b :: t => simp [escL, allK]
set_option maxHeartbeats 1000000 in
theorem isEscape_calls (s : ByteArray) (hs : s.size ≤ maxLen) (w : World) : Calls Tryz.prog 123 #[.string s] w fun e w' => e = .returned (.bool (escL s.data.toList)) ∧ Below w.heap.size w w' := by
  have AC := hide (fun W => all_calls (s.extract 0 2) 2 (by decide) (by simp [maxLen] at hs ⊢; omega) W)
  have hE := hide (show escL s.data.toList = (decide (2 ≤ s.size) && allK 2 (s.extract 0 2).data.toList) by
    rw [two_or]; simp [ByteArray.data_extract])
  simp only [maxLen] at hs
  by_cases h : 2 ≤ s.size
  · have h2 : (2 : Int) ≤ (s.size : Int) := by omega
    have hE3 := hide (show escL s.data.toList = allK 2 (s.data.toList.take 2) by rw [two_or, decide_eq_true (by simpa using h)]; rfl)
    go_enter Tryz.func123, Tryz.ntmps123
    go_wp2_with (go_at_call 89; refine (unhide AC _).mono ?_; rintro e w' ⟨rfl, hb⟩)
    go_ret
    exact ⟨by rw [unhide hE3]; rfl, hb⟩
  · have h2 : ¬ (2 : Int) ≤ (s.size : Int) := by omega
    have hE3 := hide (show escL s.data.toList = false by rw [unhide hE, decide_eq_false h]; rfl)
    go_enter Tryz.func123, Tryz.ntmps123
    go_wp2
    go_ret
    exact ⟨by rw [unhide hE3]; rfl, Below.refl _ _⟩
theorem ext_drop (s : ByteArray) (j : Nat) : (s.extract j s.size).data.toList = s.data.toList.drop j := by
  simp [ByteArray.data_extract]
  rw [List.take_of_length_le (by simp)]
theorem byte37 (x : UInt8) : (((x.toNat : Nat) : Int) == 37) = decide (x = 37) := by
  rw [Bool.eq_iff_iff, beq_iff_eq, decide_eq_true_eq, ← UInt8.toNat_inj]
  have : (37 : UInt8).toNat = 37 := rfl
  omega
set_option maxHeartbeats 2000000 in
theorem allEsc_calls (s : ByteArray) (k : Nat) (hk : k < 128) (hs : s.size ≤ maxLen) (w : World) : Calls Tryz.prog 107 #[.string s, .int .i64 (k : Int)] w fun e w' => e = .returned (.bool (allEsc k s.data.toList)) ∧ Below w.heap.size w w' := by
  have IS := hide (fun x W => is_calls x k hk W)
  have ES := hide (fun j W => isEscape_calls (s.extract j s.size) (by simp [maxLen] at hs ⊢; omega) W)
  simp only [maxLen] at hs
  go_enter Tryz.func107, Tryz.ntmps107
  go_wp2
  go_loopw [8] (fun i wr => ∃ j : Nat, i = .int .i64 (j : Int) ∧ j ≤ s.size ∧ Hid (allEsc k (s.data.toList.drop j) = allEsc k s.data.toList) ∧ Hid (Below w.heap.size w wr)) (fun i _ => s.size - (intOf i).toNat)
  case atStart => exact ⟨0, rfl, by omega, hide rfl, hide (Below.refl _ _)⟩
  case round =>
    obtain ⟨j, rfl, hj, hE, hB⟩ := hrel
    by_cases h : j < s.size
    · have hE2 := hide (show allEsc k (s.data.toList.drop j) = (okAt k (s[j]'h) (s.data.toList.drop (j + 1)) && allEsc k (s.data.toList.drop (j + 1))) by rw [drop_at s j h]; rfl)
      generalize hx : (s[j]'h) = x at *
      have hx2 : ∀ hh, (s[j]'hh) = x := fun _ => hx
      have hw : IntKind.i64.wrap ((j : Int) + 1) = (j : Int) + 1 := by rw [IntKind.wrap_i64]; omega
      have hlt : (j : Int) < (s.size : Int) := by omega
      have hle : (j : Int) + 1 ≤ (s.size : Int) := by omega
      have hto : ((j : Int) + 1).toNat = j + 1 := by omega
      by_cases h37 : x = 37
      · have h37b : (((x.toNat : Nat) : Int) == 37) = true := by rw [byte37, decide_eq_true h37]
        have h37c : (((x.toNat : Nat) : Int) != 37) = false := by rw [bne, h37b]; rfl
        have hok := hide (show okAt k x (s.data.toList.drop (j + 1)) = escL (s.extract (j + 1) s.size).data.toList by rw [ext_drop]; unfold okAt; rw [if_pos h37])
        clear h37
        cases hi : escL (s.extract (j + 1) s.size).data.toList with
        | true =>
          have hE3 := hide (show allEsc k (s.data.toList.drop (j + 1)) = allEsc k s.data.toList by rw [← unhide hE, unhide hE2, unhide hok, hi]; rfl)
          go_wp2_with (go_at_call 123; refine (unhide ES _ _).mono ?_; rintro e w' ⟨rfl, hb⟩; rw [hi]; have HB := chain hB hb)
          go_roundw
          case rel => exact ⟨j + 1, by first | rfl | (rw [hw]; rfl), by omega, hE3, HB⟩
          case measure => simp [intOf]; omega
        | false =>
          have hE3 := hide (show allEsc k s.data.toList = false by rw [← unhide hE, unhide hE2, unhide hok, hi]; rfl)
          go_wp2_with (go_at_call 123; refine (unhide ES _ _).mono ?_; rintro e w' ⟨rfl, hb⟩; rw [hi]; have HB := chain hB hb)
          go_ret
          exact ⟨by rw [unhide hE3]; rfl, unhide HB⟩
      · have h37b : (((x.toNat : Nat) : Int) == 37) = false := by rw [byte37, decide_eq_false h37]
        have h37c : (((x.toNat : Nat) : Int) != 37) = true := by rw [bne, h37b]; rfl
        have hok := hide (show okAt k x (s.data.toList.drop (j + 1)) = isK k x by unfold okAt; rw [if_neg h37])
        clear h37
        cases hi : isK k x with
        | true =>
          have hE3 := hide (show allEsc k (s.data.toList.drop (j + 1)) = allEsc k s.data.toList by rw [← unhide hE, unhide hE2, unhide hok, hi]; rfl)
          go_wp2_with (go_at_call 109; refine (unhide IS _ _).mono ?_; rintro e w' ⟨rfl, hb⟩; rw [hi]; have HB := chain hB hb)
          go_roundw
          case rel => exact ⟨j + 1, by first | rfl | (rw [hw]; rfl), by omega, hE3, HB⟩
          case measure => simp [intOf]; omega
        | false =>
          have hE3 := hide (show allEsc k s.data.toList = false by rw [← unhide hE, unhide hE2, unhide hok, hi]; rfl)
          go_wp2_with (go_at_call 109; refine (unhide IS _ _).mono ?_; rintro e w' ⟨rfl, hb⟩; rw [hi]; have HB := chain hB hb)
          go_ret
          exact ⟨by rw [unhide hE3]; rfl, unhide HB⟩
    · have hE3 := hide (show allEsc k s.data.toList = true by rw [← unhide hE, drop_end s j h]; rfl)
      have hlt : ¬ (j : Int) < (s.size : Int) := by omega
      go_wp2
      go_ret
      exact ⟨by rw [unhide hE3]; rfl, unhide hB⟩
set_option maxHeartbeats 1000000 in
theorem isPath_calls (s : ByteArray) (hs : s.size ≤ maxLen) (w : World) : Calls Tryz.prog 87 #[.string s] w fun e w' => e = .returned (.bool (isPathL s.data.toList)) ∧ Below w.heap.size w w' := by
  have AC := hide (fun W => allEsc_calls s 16 (by decide) hs W)
  have HP := hide (Tryz.strings_HasPrefix s ⟨#[47]⟩ w)
  have hE := hide (show isPathL s.data.toList = (Lib.hasPrefix s.data.toList [47] && allEsc 16 s.data.toList) from rfl)
  simp only [maxLen] at hs
  cases h : Lib.hasPrefix s.data.toList [47] with
  | true =>
    have hE3 := hide (show isPathL s.data.toList = allEsc 16 s.data.toList by rw [unhide hE, h]; rfl)
    go_enter Tryz.func87, Tryz.ntmps87
    go_wp2_with (first
      | (go_at_call 108; refine (unhide HP).mono ?_; rintro e w' ⟨rfl, rfl⟩; rw [show Lib.hasPrefix s.data.toList (⟨#[47]⟩ : ByteArray).data.toList = true from h])
      | (go_at_call 107; refine (unhide AC _).mono ?_; rintro e w' ⟨rfl, hb⟩))
    go_ret
    exact ⟨by rw [unhide hE3]; rfl, hb⟩
  | false =>
    have hE3 := hide (show isPathL s.data.toList = false by rw [unhide hE, h]; rfl)
    go_enter Tryz.func87, Tryz.ntmps87
    go_wp2_with (go_at_call 108; refine (unhide HP).mono ?_; rintro e w' ⟨rfl, rfl⟩; rw [show Lib.hasPrefix s.data.toList (⟨#[47]⟩ : ByteArray).data.toList = false from h])
    go_ret
    exact ⟨by rw [unhide hE3]; rfl, Below.refl _ _⟩
theorem isQuery_calls (s : ByteArray) (hs : s.size ≤ maxLen) (w : World) : Calls Tryz.prog 86 #[.string s] w fun e w' => e = .returned (.bool (isQueryL s.data.toList)) ∧ Below w.heap.size w w' := by
  have AC := hide (fun W => allEsc_calls s 32 (by decide) hs W)
  simp only [maxLen] at hs
  go_enter Tryz.func86, Tryz.ntmps86
  go_wp2_with (go_at_call 107; refine (unhide AC _).mono ?_; rintro e w' ⟨rfl, hb⟩)
  go_ret
  exact ⟨rfl, hb⟩
end Go.Proofs.YtcmiappiocfbiaaGreatDoor
end
/- Heads: texts cut at a byte, trimmed, in small letters; values. -/
section
namespace Go.Proofs.YtcmiappiocfbiaaGreatDoor
open Go.ChangeShapes Go.WideShapes Go.ChangeAt Go.RowKit
set_option linter.unusedVariables false

def stS (l : Tx) : ByteArray := ⟨l.toArray⟩
theorem stS_list (l : Tx) : (stS l).data.toList = l := rfl
theorem stS_self (s : ByteArray) : stS s.data.toList = s := by cases s; rfl
theorem stS_size (l : Tx) : (stS l).size = l.length := rfl
theorem idxByte_cut (l : Tx) (c : UInt8) : Lib.indexByte l c = match (cutL [c] l).2 with | none => -1 | some _ => ((cutL [c] l).1.length : Int) := by
  induction l with
  | nil => rfl
  | cons b t ih =>
    unfold Lib.indexByte cutL
    have hp : [c].isPrefixOf (b :: t) = (b == c) := by
      rw [List.isPrefixOf, List.isPrefixOf, Bool.and_true, Bool.eq_iff_iff, beq_iff_eq, beq_iff_eq, eq_comm]
    rw [hp]
    cases h : (b == c) with
    | true => simp
    | false =>
      rw [ih]
      cases h2 : (cutL [c] t).2 with
      | none => simp
      | some d => simp
theorem cut1_parts (s : ByteArray) (c : UInt8) (d : Tx) (h : (cutL [c] s.data.toList).2 = some d) :
    s.extract 0 (cutL [c] s.data.toList).1.length = stS (cutL [c] s.data.toList).1 ∧ s.extract ((cutL [c] s.data.toList).1.length + 1) s.size = stS d ∧ (cutL [c] s.data.toList).1.length + 1 ≤ s.size := by
  have hb := cutL_some h
  generalize (cutL [c] s.data.toList).1 = a at *
  have hl : s.size = a.length + 1 + d.length := by have := congrArg List.length hb; simp at this; rw [this]; omega
  refine ⟨?_, ?_, by omega⟩
  · rw [← stS_self (s.extract 0 a.length)]; congr 1
    simp [ByteArray.data_extract]; rw [hb]; simp
  · rw [← stS_self (s.extract (a.length + 1) s.size)]; congr 1
    rw [ext_drop, hb]; simp
theorem trimS_len (l cs : Tx) : (Lib.trimS l cs).length ≤ l.length := by
  unfold Lib.trimS Lib.trimLeftS Lib.trimRightS
  refine Nat.le_trans (List.dropWhile_sublist _).length_le ?_
  rw [List.length_reverse]
  refine Nat.le_trans (List.dropWhile_sublist _).length_le ?_
  rw [List.length_reverse]
  exact Nat.le_refl _
def cutV1 (c : UInt8) (l : Tx) : Value := .tuple #[.string (stS (cutL [c] l).1), .string (stS (behindL [c] l)), .bool (cutL [c] l).2.isSome]
set_option maxHeartbeats 1000000 in
theorem cut10_calls (s : ByteArray) (c : UInt8) (hs : s.size ≤ maxLen) (w : World) : Calls Tryz.prog 77 #[.string s, .string ⟨#[c]⟩] w fun e w' => e = .returned (cutV1 c s.data.toList) ∧ Below w.heap.size w w' := by
  have IX := hide (fun W => Tryz.stringslite_Index_one s c W)
  rw [idxByte_cut] at IX
  simp only [maxLen] at hs
  have h1 : (⟨#[c]⟩ : ByteArray).size = 1 := rfl
  cases h : (cutL [c] s.data.toList).2 with
  | none =>
    have E := hide (show cutV1 c s.data.toList = .tuple #[.string s, .string ⟨#[]⟩, .bool false] by unfold cutV1 behindL; rw [h, cutL_none h, stS_self]; rfl)
    rw [h] at IX
    clear h
    go_enter Tryz.func77, Tryz.ntmps77
    go_wp2_with (go_at_call 85; refine (unhide IX _).mono ?_; rintro e w' ⟨rfl, rfl⟩)
    go_ret3
    exact ⟨by rw [unhide E]; rfl, Below.refl _ _⟩
  | some d =>
    obtain ⟨p1, p2, p3⟩ := cut1_parts s c d h
    have E := hide (show cutV1 c s.data.toList = .tuple #[.string (stS (cutL [c] s.data.toList).1), .string (stS d), .bool true] by unfold cutV1 behindL; rw [h]; rfl)
    rw [h] at IX
    clear h
    generalize hn : (cutL [c] s.data.toList).1.length = n at *
    generalize (cutL [c] s.data.toList).1 = a at *
    have q1 : (0 : Int) ≤ (n : Int) := by omega
    have q2 : (n : Int) ≤ (s.size : Int) := by omega
    have q3 : IntKind.i64.wrap ((n : Int) + 1) = (n : Int) + 1 := by rw [IntKind.wrap_i64]; omega
    have q4 : (n : Int) + 1 ≤ (s.size : Int) := by omega
    have q5 : ((n : Int) + 1).toNat = n + 1 := by omega
    go_enter Tryz.func77, Tryz.ntmps77
    go_wp2_with (go_at_call 85; refine (unhide IX _).mono ?_; rintro e w' ⟨rfl, rfl⟩)
    have hs1 : ∀ W, (Instr.sliceAt 9 (.string s) none (some (.int .i64 (n : Int))) none).run Tryz.prog W = .ok (.string (stS a)) W := fun W => by
      rw [run_sliceAt_string _ _ _ _ _ _ Tryz.underlying9, run_slice_string_h _ _ _ Tryz.underlying9 _ _ (by omega) (by omega), Int.toNat_natCast, p1]
    have hs2 : ∀ W, (Instr.sliceAt 9 (.string s) (some (.int .i64 ((n : Int) + 1))) none none).run Tryz.prog W = .ok (.string (stS d)) W := fun W => by
      rw [run_sliceAt_string _ _ _ _ _ _ Tryz.underlying9, run_slice_string_l _ _ _ Tryz.underlying9 _ _ (by omega) (by omega), q5, p2]
    clear p1 p2
    go_region_held3 (fun w' => True) (trivial) (fail)
    go_wp2_with fail
    go_ret3
    exact ⟨by rw [unhide E]; rfl, (Below.refl _ _).drew⟩
set_option maxHeartbeats 1000000 in
theorem cut1_calls (s : ByteArray) (c : UInt8) (hs : s.size ≤ maxLen) (w : World) : Calls Tryz.prog 66 #[.string s, .string ⟨#[c]⟩] w fun e w' => e = .returned (cutV1 c s.data.toList) ∧ Below w.heap.size w w' := by
  have C0 := hide (fun W => cut10_calls s c hs W)
  simp only [maxLen] at hs
  unfold cutV1 at C0 ⊢
  generalize stS (cutL [c] s.data.toList).1 = a at *
  generalize stS (behindL [c] s.data.toList) = b at *
  generalize (cutL [c] s.data.toList).2.isSome = d at *
  go_enter Tryz.func66, Tryz.ntmps66
  go_wp2_with (go_at_call 77; refine (unhide C0 _).mono ?_; rintro e w' ⟨rfl, hb⟩)
  go_ret3
  exact ⟨rfl, hb⟩
theorem trim_calls (s : ByteArray) (hs : s.size ≤ maxLen) (w : World) : Calls Tryz.prog 80 #[.string s, .string ⟨#[9, 32]⟩] w fun e w' => e = .returned (.string (stS (trimB s.data.toList))) ∧ Below w.heap.size w w' :=
  Any.strings_Trim_laid Tryz.lays160 (by kernel_rfl) s ⟨#[9, 32]⟩ w (by simpa [maxLen] using hs) (by decide) (ascii_of_all (by decide))
theorem lower_calls (s : ByteArray) (hs : s.size ≤ 140737488355328) (ha : ∀ b ∈ s.data.toList, b.toNat < 128) (w : World) : Calls Tryz.prog 81 #[.string s] w fun e w' => e = .returned (.string (stS (lowL s.data.toList))) ∧ Below w.heap.size w w' :=
  Tryz.strings_ToLower_ascii s w hs (fun j b h => ha b (List.mem_of_getElem? h))
theorem str_eq (s t : ByteArray) : (s.toList == t.toList) = (s.data.toList == t.data.toList) := by rw [ByteArray.toList_eq, ByteArray.toList_eq]
set_option maxHeartbeats 1000000 in
theorem isValue_calls (s : ByteArray) (hs : s.size ≤ maxLen) (w : World) : Calls Tryz.prog 82 #[.string s] w fun e w' => e = .returned (.bool (isValueL s.data.toList)) ∧ Below w.heap.size w w' := by
  have AC := hide (fun W => all_calls s 64 (by decide) hs W)
  have TC := hide (fun W => trim_calls s hs W)
  have hE := hide (show isValueL s.data.toList = (allK 64 s.data.toList && (s.data.toList == trimB s.data.toList)) from rfl)
  have hq := str_eq s (stS (trimB s.data.toList))
  rw [stS_list] at hq
  have hmt : (stS (trimB s.data.toList)).size ≤ 9223372036854775807 := by
    have := trimS_len s.data.toList [9, 32]
    rw [stS_size]
    simp [maxLen] at hs
    have h2 : (trimB s.data.toList).length ≤ s.data.toList.length := this
    simp at h2
    omega
  simp only [maxLen] at hs
  have hs' : s.size ≤ 9223372036854775807 := hs
  cases h : allK 64 s.data.toList with
  | true =>
    have hE3 := hide (show isValueL s.data.toList = (s.data.toList == trimB s.data.toList) by rw [unhide hE, h]; rfl)
    generalize stS (trimB s.data.toList) = t at *
    generalize (s.data.toList == trimB s.data.toList) = b at *
    go_enter Tryz.func82, Tryz.ntmps82
    go_wp2_with (first
      | (go_at_call 89; refine (unhide AC _).mono ?_; rintro e W1 ⟨rfl, hb⟩; rw [h]; have H1 := hide hb)
      | (go_at_call 80; refine (unhide TC _).mono ?_; rintro e W2 ⟨rfl, hb2⟩; have H2 := chain H1 hb2))
    go_ret
    exact ⟨by rw [unhide hE3]; rfl, unhide H2⟩
  | false =>
    have hE3 := hide (show isValueL s.data.toList = false by rw [unhide hE, h]; rfl)
    go_enter Tryz.func82, Tryz.ntmps82
    go_wp2_with (go_at_call 89; refine (unhide AC _).mono ?_; rintro e W1 ⟨rfl, hb⟩; rw [h]; have H1 := hide hb)
    go_ret
    exact ⟨by rw [unhide hE3]; rfl, unhide H1⟩
end Go.Proofs.YtcmiappiocfbiaaGreatDoor
end
/- Heads: hosts. -/
section
namespace Go.Proofs.YtcmiappiocfbiaaGreatDoor
open Go.ChangeShapes Go.WideShapes Go.ChangeAt Go.RowKit Go.Lib
set_option linter.unusedVariables false

theorem isK4_high (x : UInt8) (h : 127 < x.toNat) : isK 4 x = false := by unfold isK; rw [kindsN_high _ h]; rfl
theorem hostGo_ascii {b : Bool} {l : Tx} (h : hostGo b l = true) : ∀ x ∈ l, x.toNat < 128 := by
  induction l generalizing b with
  | nil => intro x hx; cases hx
  | cons c t ih =>
    intro x hx
    unfold hostGo at h
    split at h
    · rename_i hc
      rw [Bool.and_eq_true] at h
      rcases List.mem_cons.1 hx with rfl | hx
      · subst hc; decide
      · exact ih h.2 x hx
    · rw [Bool.and_eq_true] at h
      rcases List.mem_cons.1 hx with rfl | hx
      · by_cases h8 : x.toNat < 128
        · exact h8
        · rw [isK4_high x (by omega)] at h; cases h.1
      · exact ih h.2 x hx
theorem byte46 (x : UInt8) : (((x.toNat : Nat) : Int) == 46) = decide (x = 46) := by
  rw [Bool.eq_iff_iff, beq_iff_eq, decide_eq_true_eq, ← UInt8.toNat_inj]
  have : (46 : UInt8).toNat = 46 := rfl
  omega
set_option maxRecDepth 20000 in
set_option maxHeartbeats 4000000 in
theorem isHost_calls (s : ByteArray) (hs : s.size ≤ maxLen) (w : World) : Calls Tryz.prog 103 #[.string s] w fun e w' => e = .returned (.bool (isHostL s.data.toList)) ∧ Below w.heap.size w w' := by
  simp only [maxLen] at hs
  have hE := hide (show isHostL s.data.toList = (decide (s.size ≤ 64) && hostGo false s.data.toList) by unfold isHostL; simp)
  by_cases h64 : s.size ≤ 64
  · have hE1 := hide (show isHostL s.data.toList = hostGo false s.data.toList by rw [unhide hE, decide_eq_true h64]; rfl)
    have g64 : ¬ (64 : Int) < (s.size : Int) := by omega
    have KO := hide (fun c hc W => kindsOf_any c hc W)
    go_enter Tryz.func103, Tryz.ntmps103
    go_wp2
    go_loopw [3] (fun v wr => ∃ (pos : Nat) (b : Bool), v = .bool b ∧ pos ≤ s.size ∧ Hid (wr.heap[w.heap.size]? = some (.stringIter s pos)) ∧ Hid (hostGo b (s.data.toList.drop pos) = hostGo false s.data.toList) ∧ Hid (Below w.heap.size w wr)) (fun _ wr => s.size - wr.iterPos w.heap.size)
    case atStart => exact ⟨0, false, rfl, by omega, hide (World.iter_heap w s 0), hide rfl, hide (below_iter w s 0)⟩
    case round =>
      obtain ⟨pos, b, rfl, hpos, hk, hE2, hB⟩ := hrel
      by_cases hp : pos < s.size
      · have hm0 := hide (show wr.iterPos w.heap.size = pos by unfold World.iterPos; rw [unhide hk])
        by_cases h8 : (s[pos]'hp).toNat < 128
        · have hnx : ∀ ty, (Instr.next (.pointer (some ⟨w.heap.size, 0, none⟩)) true ty).run Tryz.prog wr = _ := fun ty => run_next_ascii_at wr w.heap.size s pos ty (unhide hk) hp h8
          have hk2 := hide (iterAt_heap wr w.heap.size s pos (pos + 1) (unhide hk))
          have hB2 := hide (below_iterAt (unhide hB) (Nat.le_refl _) s (pos + 1))
          have hE3 := hide (show hostGo b (s.data.toList.drop pos) = (if (s[pos]'hp) = 46 then b && hostGo false (s.data.toList.drop (pos + 1)) else isK 4 (s[pos]'hp) && hostGo true (s.data.toList.drop (pos + 1))) by rw [drop_at s pos hp]; rfl)
          generalize hx : (s[pos]'hp) = x at *
          generalize hW : wr.iterAt w.heap.size s (pos + 1) = W1 at *
          by_cases h46 : x = 46
          · have h46b : (((x.toNat : Nat) : Int) == 46) = true := by rw [byte46, decide_eq_true h46]
            rw [if_pos h46] at hE3
            clear h46
            cases b with
            | true =>
              have hE4 := hide (show hostGo false (s.data.toList.drop (pos + 1)) = hostGo false s.data.toList by rw [← unhide hE2, unhide hE3]; rfl)
              go_wp2
              go_roundw
              case rel => exact ⟨pos + 1, false, rfl, by omega, hk2, hE4, hB2⟩
              case measure => rw [unhide hm0, show W1.iterPos w.heap.size = pos + 1 by unfold World.iterPos; rw [unhide hk2]]; omega
            | false =>
              have hE4 := hide (show hostGo false s.data.toList = false by rw [← unhide hE2, unhide hE3]; rfl)
              go_wp2
              go_ret
              exact ⟨by rw [unhide hE1, unhide hE4]; rfl, unhide hB2⟩
          · have h46b : (((x.toNat : Nat) : Int) == 46) = false := by rw [byte46, decide_eq_false h46]
            rw [if_neg h46] at hE3
            clear h46
            have ha : bits .and .i64 (kindsN x.toNat : Int) 4 = ((kindsN x.toNat &&& 4 : Nat) : Int) := and_is (kindsN x.toNat) 4 (kindsN_lt _) (by decide)
            have hb0 : ((((kindsN x.toNat &&& 4 : Nat) : Int)) == 0) = !isK 4 x := by
              unfold isK
              rw [Bool.eq_iff_iff]; simp
            have hxl := x.toNat_lt
            have KO2 := hide (fun W => unhide KO x.toNat (by omega) W)
            cases hi : isK 4 x with
            | true =>
              rw [hi] at hb0
              have hE4 := hide (show hostGo true (s.data.toList.drop (pos + 1)) = hostGo false s.data.toList by rw [← unhide hE2, unhide hE3, hi]; rfl)
              generalize kindsN x.toNat = n at *
              go_wp2_with (go_at_call 120; refine (unhide KO2 _).mono ?_; rintro e w' ⟨rfl, hb⟩; have HB := chain hB2 hb; have HK := hide (later_block hb (unhide hk2)))
              go_roundw
              case rel => exact ⟨pos + 1, true, rfl, by omega, HK, hE4, HB⟩
              case measure => rw [unhide hm0, show w'.iterPos w.heap.size = pos + 1 by unfold World.iterPos; rw [unhide HK]]; omega
            | false =>
              rw [hi] at hb0
              have hE4 := hide (show hostGo false s.data.toList = false by rw [← unhide hE2, unhide hE3, hi]; rfl)
              generalize kindsN x.toNat = n at *
              go_wp2_with (go_at_call 120; refine (unhide KO2 _).mono ?_; rintro e w' ⟨rfl, hb⟩; have HB := chain hB2 hb)
              go_ret
              exact ⟨by rw [unhide hE1, unhide hE4]; rfl, unhide HB⟩
        · have hnx : ∀ ty, (Instr.next (.pointer (some ⟨w.heap.size, 0, none⟩)) true ty).run Tryz.prog wr = _ := fun ty => run_next_any_at wr w.heap.size s pos ty (unhide hk) hp
          have hB2 := hide (below_iterAt (unhide hB) (Nat.le_refl _) s (pos + (Utf8.decode s pos).2))
          have hr1 := (decode_high s pos hp (by omega)).1
          have hr2 := decode_le s pos
          have hE4 := hide (show hostGo false s.data.toList = false by
            rw [← unhide hE2, drop_at s pos hp]
            unfold hostGo
            have hn : ¬ (s[pos]'hp) = 46 := fun e => by rw [e] at h8; exact h8 (by decide)
            rw [if_neg hn, isK4_high _ (by omega)]; rfl)
          generalize (Utf8.decode s pos).1 = r at *
          generalize wr.iterAt w.heap.size s (pos + (Utf8.decode s pos).2) = W1 at *
          have h46b : ((r : Int) == 46) = false := by simp; omega
          have hkr := kindsN_high r (by omega)
          have ha : bits .and .i64 64 4 = 0 := by have := and_is 64 4 (by decide) (by decide); simpa using this
          go_wp2_with (go_at_call 120; refine (unhide KO _ (by omega) _).mono ?_; rintro e w' ⟨rfl, hb⟩; rw [hkr]; have HB := chain hB2 hb)
          go_ret
          exact ⟨by rw [unhide hE1, unhide hE4]; rfl, unhide HB⟩
      · have hnx : ∀ ty, (Instr.next (.pointer (some ⟨w.heap.size, 0, none⟩)) true ty).run Tryz.prog wr = _ := fun ty => run_next_end_at wr w.heap.size s pos ty (unhide hk) hp
        have hE4 := hide (show hostGo false s.data.toList = b by rw [← unhide hE2, drop_end s pos hp]; rfl)
        go_wp2
        go_ret
        exact ⟨by rw [unhide hE1, unhide hE4]; rfl, unhide hB⟩
  · have hE1 := hide (show isHostL s.data.toList = false by rw [unhide hE, decide_eq_false h64]; rfl)
    have g64 : (64 : Int) < (s.size : Int) := by omega
    go_enter Tryz.func103, Tryz.ntmps103
    go_wp2
    go_ret
    exact ⟨by rw [unhide hE1]; rfl, Below.refl _ _⟩
def hostV (s : Tx) : Value := match hostL s with | some h => .tuple #[.string (stS h), .bool true] | none => .tuple #[.string ⟨#[]⟩, .bool false]
set_option maxRecDepth 20000 in
set_option maxHeartbeats 4000000 in
theorem host_calls (s : ByteArray) (hs : s.size ≤ maxLen) (w : World) : Calls Tryz.prog 83 #[.string s] w fun e w' => e = .returned (hostV s.data.toList) ∧ Below w.heap.size w w' := by
  have CC := hide (fun W => cut1_calls s 58 hs W)
  have hl1 : (cutL [58] s.data.toList).1.length ≤ s.size := by have := @cutL_len [58] s.data.toList; simpa using this
  have hl2 : (behindL [58] s.data.toList).length ≤ s.size := by have := @behindL_len [58] s.data.toList; simpa using this
  have hh : hostL s.data.toList = if 5 < (behindL [58] s.data.toList).length || !allK 1 (behindL [58] s.data.toList) || !isHostL (cutL [58] s.data.toList).1 then none else some (lowL (cutL [58] s.data.toList).1) := rfl
  simp only [maxLen] at hs
  unfold cutV1 at CC
  generalize (cutL [58] s.data.toList).1 = a at *
  generalize behindL [58] s.data.toList = b at *
  generalize (cutL [58] s.data.toList).2.isSome = d at *
  have AC := hide (fun W => all_calls (stS b) 1 (by decide) (by simp [maxLen, stS_size]; omega) W)
  have HC := hide (fun W => isHost_calls (stS a) (by simp [maxLen, stS_size]; omega) W)
  have hsz : (stS b).size = b.length := rfl
  rw [stS_list] at AC HC
  by_cases h5 : 5 < b.length
  · have E := hide (show hostV s.data.toList = .tuple #[.string ⟨#[]⟩, .bool false] by unfold hostV; rw [hh, decide_eq_true h5]; rfl)
    have h5i : (5 : Int) < (b.length : Int) := by omega
    clear hh
    generalize stS b = tb at *
    generalize stS a = ta at *
    go_enter Tryz.func83, Tryz.ntmps83
    go_wp2_with (go_at_call 66; refine (unhide CC _).mono ?_; rintro e W1 ⟨rfl, hb⟩; have H1 := hide hb)
    go_ret2
    exact ⟨by rw [unhide E]; rfl, unhide H1⟩
  · have h5i : ¬ (5 : Int) < (b.length : Int) := by omega
    cases ha : allK 1 b with
    | false =>
      have E := hide (show hostV s.data.toList = .tuple #[.string ⟨#[]⟩, .bool false] by unfold hostV; rw [hh, ha]; simp)
      clear hh
      generalize stS b = tb at *
      generalize stS a = ta at *
      go_enter Tryz.func83, Tryz.ntmps83
      go_wp2_with (first
        | (go_at_call 66; refine (unhide CC _).mono ?_; rintro e W1 ⟨rfl, hb⟩; have H1 := hide hb)
        | (go_at_call 89; refine (unhide AC _).mono ?_; rintro e W2 ⟨rfl, hb2⟩; rw [ha]; have H2 := chain H1 hb2))
      go_ret2
      exact ⟨by rw [unhide E]; rfl, unhide H2⟩
    | true =>
      cases hi : isHostL a with
      | false =>
        have E := hide (show hostV s.data.toList = .tuple #[.string ⟨#[]⟩, .bool false] by unfold hostV; rw [hh, ha, hi]; simp)
        clear hh
        generalize stS b = tb at *
        generalize stS a = ta at *
        go_enter Tryz.func83, Tryz.ntmps83
        go_wp2_with (first
          | (go_at_call 66; refine (unhide CC _).mono ?_; rintro e W1 ⟨rfl, hb⟩; have H1 := hide hb)
          | (go_at_call 89; refine (unhide AC _).mono ?_; rintro e W2 ⟨rfl, hb2⟩; rw [ha]; have H2 := chain H1 hb2)
          | (go_at_call 103; refine (unhide HC _).mono ?_; rintro e W3 ⟨rfl, hb3⟩; rw [hi]; have H3 := chain H2 hb3))
        go_ret2
        exact ⟨by rw [unhide E]; rfl, unhide H3⟩
      | true =>
        have hi2 : (decide (a.length ≤ 64) && hostGo false a) = true := hi
        rw [Bool.and_eq_true, decide_eq_true_eq] at hi2
        have LC := hide (fun W => lower_calls (stS a) (by rw [stS_size]; omega) (by rw [stS_list]; exact hostGo_ascii hi2.2) W)
        rw [stS_list] at LC
        have E := hide (show hostV s.data.toList = .tuple #[.string (stS (lowL a)), .bool true] by unfold hostV; rw [hh, ha, hi, decide_eq_false h5]; rfl)
        clear hh hi2
        generalize stS b = tb at *
        generalize stS a = ta at *
        generalize stS (lowL a) = tl at *
        go_enter Tryz.func83, Tryz.ntmps83
        go_wp2_with (first
          | (go_at_call 66; refine (unhide CC _).mono ?_; rintro e W1 ⟨rfl, hb⟩; have H1 := hide hb)
          | (go_at_call 89; refine (unhide AC _).mono ?_; rintro e W2 ⟨rfl, hb2⟩; rw [ha]; have H2 := chain H1 hb2)
          | (go_at_call 103; refine (unhide HC _).mono ?_; rintro e W3 ⟨rfl, hb3⟩; rw [hi]; have H3 := chain H2 hb3)
          | (go_at_call 81; refine (unhide LC _).mono ?_; rintro e W4 ⟨rfl, hb4⟩; have H4 := chain H3 hb4))
        go_ret2
        exact ⟨by rw [unhide E]; rfl, unhide H4⟩
end Go.Proofs.YtcmiappiocfbiaaGreatDoor
end
/- Heads: a field's line. -/
section
namespace Go.Proofs.YtcmiappiocfbiaaGreatDoor
open Go.ChangeShapes Go.WideShapes Go.ChangeAt Go.RowKit Go.Lib
set_option linter.unusedVariables false

/-- Tables of the library's that the walks read. -/
structure Lz (w : World) : Prop where
  mx : ∃ m, w.cell? ⟨Tryz.lays145_ren.g 1, 0, none⟩ = some (.int .i64 m)
  cv : CaseVar (Tryz.lays159_ren.g 13) caseA w
  u8 : Lib.Utf8Tabs (Tryz.lays159_ren.g 3) (Tryz.lays159_ren.g 4) w
theorem Lz.later {w w' : World} (h : Lz w) (hb : Below w.heap.size w w') : Lz w' :=
  ⟨let ⟨m, hm⟩ := h.mx; ⟨m, cell_later hb hm⟩, CaseVar_below h.cv hb, Utf8Tabs_below h.u8 hb⟩
theorem lowAny_calls (s : ByteArray) (hs : s.size < 35184372088832) (w : World) (hz : Lz w) : Calls Tryz.prog 81 #[.string s] w fun e w' => e = .returned (.string (stS (Lib.toLowerD s.data.toList))) ∧ Below w.heap.size w w' :=
  Any.strings_ToLower_any Tryz.lays159 Tryz.Builder_Extra_159 s w hs hz.cv hz.u8
theorem cut2_calls (s sep : ByteArray) (hne : sep.data.toList ≠ []) (hs : s.size < 4294967281) (w : World) (hz : Lz w) : Calls Tryz.prog 66 #[.string s, .string sep] w fun e w' => e = .returned (.tuple #[.string (stS (cutL sep.data.toList s.data.toList).1), .string (stS (behindL sep.data.toList s.data.toList)), .bool (cutL sep.data.toList s.data.toList).2.isSome]) ∧ Below w.heap.size w w' := by
  obtain ⟨m, hm⟩ := hz.mx
  refine (Any.strings_Cut Tryz.lays145 s sep m w hs hm).mono ?_
  rintro e w' ⟨rfl, n, rfl⟩
  rw [cut_is hne]
  exact ⟨rfl, below_drewN (Below.refl _ _) _⟩
/-- A block of one's own, and what lay below. -/
structure RC (B : Nat) (w : World) (g : Nat) (T : TypeId) (cs : Array Value) (W : World) : Prop where
  row : W.heap[g]? = some (.cells cs T (0, 0))
  low : B ≤ g
  base : B ≤ w.heap.size
  bel : Below B w W
section
variable {B : Nat} {w : World} {g : Nat} {T : TypeId} {cs : Array Value} {W W' : World}
theorem RC.new (w : World) (T : TypeId) (cs : Array Value) : RC w.heap.size w w.heap.size T cs (w.alloc (.cells cs T)) := ⟨heap_new _ _, Nat.le_refl _, Nat.le_refl _, (Below.refl _ _).alloc (Nat.le_refl _) _⟩
theorem RC.later (h : RC B w g T cs W) (hb : Below W.heap.size W W') : RC B w g T cs W' := ⟨later_block hb h.row, h.low, h.base, h.bel.trans (hb.mono (Nat.le_trans h.base h.bel.size))⟩
theorem RC.alloc (h : RC B w g T cs W) (o : Obj) : RC B w g T cs (W.alloc o) := h.later ((Below.refl _ _).alloc (Nat.le_refl _) o)
theorem RC.cell (h : RC B w g T cs W) (i : Nat) (v : Value) (hv : cs[i]? = some v) : W.cell? ⟨g, i, none⟩ = some v := box_cell h.row i v hv
theorem RC.froz (h : RC B w g T cs W) (i : Nat) : W.frozen? ⟨g, i, none⟩ = false := by simp [World.frozen?, h.row]
theorem RC.set (h : RC B w g T cs W) (i : Nat) (v : Value) : RC B w g T (cs.setIfInBounds i v) (W.setCell ⟨g, i, none⟩ v) :=
  ⟨heap_setCell_same W g i cs T v h.row, h.low, h.base, h.bel.setCell (p := ⟨g, i, none⟩) h.low v⟩
end
theorem RC.set2 {B : Nat} {w : World} {g : Nat} {T : TypeId} {a b : Value} {W : World} (h : RC B w g T #[a, b] W) (x y : Value) : RC B w g T #[x, y] ((W.setCell ⟨g, 0, none⟩ x).setCell ⟨g, 1, none⟩ y) := (h.set 0 x).set 1 y
theorem RC.set5 {B : Nat} {w : World} {g : Nat} {T : TypeId} {a b c d e : Value} {W : World} (h : RC B w g T #[a, b, c, d, e] W) (x y z u v : Value) : RC B w g T #[x, y, z, u, v] (((((W.setCell ⟨g, 0, none⟩ x).setCell ⟨g, 1, none⟩ y).setCell ⟨g, 2, none⟩ z).setCell ⟨g, 3, none⟩ u).setCell ⟨g, 4, none⟩ v) := ((((h.set 0 x).set 1 y).set 2 z).set 3 u).set 4 v

def fieldOk (line : Tx) : Bool := (cutL [58] line).2.isSome && isTokenL (cutL [58] line).1 && isValueL (trimB (behindL [58] line))
def fieldV (line : Tx) : Value := .tuple #[.agg #[.string (stS (Lib.toLowerD (cutL [58] line).1)), .string (stS (trimB (behindL [58] line)))], .bool (fieldOk line)]
theorem isK8_low (x : UInt8) (h : isK 8 x = true) : x.toNat < 128 := by
  by_cases h8 : x.toNat < 128
  · exact h8
  · unfold isK at h; rw [kindsN_high _ (by omega)] at h; cases h
theorem token_ascii {l : Tx} (h : isTokenL l = true) : ∀ b ∈ l, b.toNat < 128 := by
  unfold isTokenL at h
  rw [Bool.and_eq_true] at h
  exact fun b hb => isK8_low b (List.all_eq_true.1 h.2 b hb)
theorem fieldL_yes {line : Tx} (h : fieldOk line = true) : fieldL line = some ⟨Lib.toLowerD (cutL [58] line).1, trimB (behindL [58] line)⟩ := by
  unfold fieldL
  have h2 : ((cutL [58] line).2.isSome && isTokenL (cutL [58] line).1 && isValueL (trimB (behindL [58] line))) = true := h
  rw [if_pos h2]
  rw [Bool.and_eq_true, Bool.and_eq_true] at h2
  rw [Lib.toLowerD_ascii _ (token_ascii h2.1.2)]
  rfl
theorem fieldL_no {line : Tx} (h : fieldOk line = false) : fieldL line = none := by
  unfold fieldL
  have h2 : ((cutL [58] line).2.isSome && isTokenL (cutL [58] line).1 && isValueL (trimB (behindL [58] line))) = false := h
  rw [h2]; rfl
set_option maxRecDepth 20000 in
set_option maxHeartbeats 4000000 in
theorem readField_calls (s : ByteArray) (hs : s.size ≤ 4096) (w : World) (hz : Lz w) : Calls Tryz.prog 68 #[.string s] w fun e w' => e = .returned (fieldV s.data.toList) ∧ Below w.heap.size w w' := by
  have CC := hide (fun W => cut1_calls s 58 (by simp [maxLen]; omega) W)
  have hl1 : (cutL [58] s.data.toList).1.length ≤ s.size := by have := @cutL_len [58] s.data.toList; simpa using this
  have hl2 : (behindL [58] s.data.toList).length ≤ s.size := by have := @behindL_len [58] s.data.toList; simpa using this
  have hl3 : (trimB (behindL [58] s.data.toList)).length ≤ s.size := Nat.le_trans (trimS_len _ _) hl2
  unfold cutV1 at CC
  unfold fieldV fieldOk
  generalize (cutL [58] s.data.toList).1 = a at *
  generalize behindL [58] s.data.toList = b at *
  generalize (cutL [58] s.data.toList).2.isSome = d at *
  have TC := hide (fun W => trim_calls (stS b) (by simp [maxLen, stS_size]; omega) W)
  rw [stS_list] at TC
  generalize trimB b = v at *
  have LC := hide (fun W hz => lowAny_calls (stS a) (by rw [stS_size]; omega) W hz)
  have KC := hide (fun W => isToken_calls (stS a) (by simp [maxLen, stS_size]; omega) W)
  have VC := hide (fun W => isValue_calls (stS v) (by simp [maxLen, stS_size]; omega) W)
  rw [stS_list] at LC KC VC
  have HZ := hide hz
  have R0 := hide (RC.new w 86 #[.string ⟨#[]⟩, .string ⟨#[]⟩])
  clear hz
  generalize Lib.toLowerD a = la at *
  generalize isTokenL a = t1 at *
  generalize isValueL v = t2 at *
  generalize stS a = sa at *
  generalize stS b = sb at *
  generalize stS v = sv at *
  generalize stS la = sl at *
  clear hs hl1 hl2 hl3
  cases d <;> cases t1 <;> cases t2
  all_goals
    go_enter Tryz.func68, Tryz.ntmps68
    go_wp2_with (first
      | (go_at_call 66; refine (unhide CC _).mono ?_; rintro e W1 ⟨rfl, hb1⟩; have R1 := hide ((unhide R0).later hb1))
      | (go_at_call 80; refine (unhide TC _).mono ?_; rintro e W2 ⟨rfl, hb2⟩; have R2 := hide ((unhide R1).later hb2))
      | (go_at_call 81; refine (unhide LC _ ((unhide HZ).later (unhide R2).bel)).mono ?_; rintro e W3 ⟨rfl, hb3⟩; have R3 := hide ((unhide R2).later hb3)
         have z0 := (unhide R3).cell 0 _ rfl
         have z1 := (unhide R3).cell 1 _ rfl
         have f0 := (unhide R3).froz 0
         have f1 := (unhide R3).froz 1)
      | (go_at_call 79; refine (unhide KC _).mono ?_; rintro e W4 ⟨rfl, hb4⟩; have R3 := hide ((unhide R3).later hb4)
         have z0 := (unhide R3).cell 0 _ rfl
         have z1 := (unhide R3).cell 1 _ rfl
         have f0 := (unhide R3).froz 0
         have f1 := (unhide R3).froz 1)
      | (go_at_call 82; refine (unhide VC _).mono ?_; rintro e W5 ⟨rfl, hb5⟩; have R3 := hide ((unhide R3).later hb5)
         have z0 := (unhide R3).cell 0 _ rfl
         have z1 := (unhide R3).cell 1 _ rfl
         have f0 := (unhide R3).froz 0
         have f1 := (unhide R3).froz 1))
    have R9 := (unhide R3).set2 (.string sl) (.string sv)
    have g0 := R9.cell 0 _ rfl
    have g1 := R9.cell 1 _ rfl
    refine bodyPost_ret (v := .tuple #[.agg #[.string sl, .string sv], .bool _]) ?_ rfl ⟨rfl, R9.bel⟩
    rw [results_cell_tmp rfl]
    go_simp
    try rfl
end Go.Proofs.YtcmiappiocfbiaaGreatDoor
end
