/- Heads: texts all of whose letters are of a kind, tokens, escapes, paths, queries. -/
import Derived.Test.YtcmiappiocfbiaaGreatDoorHd3
import Derived.Lib.OthersKept
import Derived.Shelf.Strings.Prefix
namespace Go.Proofs.YtcmiappiocfbiaaGreatDoor
open Go.ChangeShapes Go.WideShapes Go.ChangeAt Go.RowKit
set_option linter.unusedVariables false

theorem chain {B : Nat} {w W W' : World} (h : Hid (Below B w W)) (hb : Below W.heap.size W W') (hB : B ≤ w.heap.size := by exact Nat.le_refl _) : Hid (Below B w W') := hide ((unhide h).trans (hb.mono (Nat.le_trans hB (unhide h).size)))
theorem drop_at (s : ByteArray) (j : Nat) (h : j < s.size) : s.data.toList.drop j = (s[j]'h) :: s.data.toList.drop (j + 1) := by
  rw [List.drop_eq_getElem_cons (by simpa using h)]
  simp
  rfl
theorem drop_end (s : ByteArray) (j : Nat) (h : ¬ j < s.size) : s.data.toList.drop j = [] := List.drop_of_length_le (by simp; omega)
set_option maxHeartbeats 2000000 in
theorem all_calls (s : ByteArray) (k : Nat) (hk : k < 128) (hs : s.size ≤ maxLen) (w : World) : Calls Tryz.prog 89 #[.string s, .int .i64 (k : Int)] w fun e w' => e = .returned (.bool (allK k s.data.toList)) ∧ Below w.heap.size w w' := by
  simp only [maxLen] at hs
  have IS := hide (fun x W => is_calls x k hk W)
  go_enter Tryz.func89, Tryz.ntmps89
  go_wp2
  go_loopw [8] (fun i wr => ∃ j : Nat, i = .int .i64 (j : Int) ∧ j ≤ s.size ∧ Hid (allK k (s.data.toList.drop j) = allK k s.data.toList) ∧ Hid (Below w.heap.size w wr)) (fun i _ => s.size - (intOf i).toNat)
  case atStart => exact ⟨0, rfl, by omega, hide rfl, hide (Below.refl _ _)⟩
  case round =>
    obtain ⟨j, rfl, hj, hE, hB⟩ := hrel
    by_cases h : j < s.size
    · have hE2 := hide (show allK k (s.data.toList.drop j) = (isK k (s[j]'h) && allK k (s.data.toList.drop (j + 1))) by rw [drop_at s j h]; rfl)
      generalize hx : (s[j]'h) = x at *
      have hx2 : ∀ hh, (s[j]'hh) = x := fun _ => hx
      have hw : IntKind.i64.wrap ((j : Int) + 1) = ((j + 1 : Nat) : Int) := by rw [IntKind.wrap_i64]; omega
      have hlt : (j : Int) < (s.size : Int) := by omega
      cases hi : isK k x with
      | true =>
        have hE3 := hide (show allK k (s.data.toList.drop (j + 1)) = allK k s.data.toList by rw [← unhide hE, unhide hE2, hi]; rfl)
        go_wp2_with (go_at_call 109; refine (unhide IS _ _).mono ?_; rintro e w' ⟨rfl, hb⟩; rw [hi]; have HB := chain hB hb)
        go_roundw
        case rel => exact ⟨j + 1, by first | rfl | (rw [hw]), by omega, hE3, HB⟩
        case measure => simp [intOf]; omega
      | false =>
        have hE3 := hide (show allK k s.data.toList = false by rw [← unhide hE, unhide hE2, hi]; rfl)
        go_wp2_with (go_at_call 109; refine (unhide IS _ _).mono ?_; rintro e w' ⟨rfl, hb⟩; rw [hi]; have HB := chain hB hb)
        go_ret
        exact ⟨by rw [unhide hE3]; rfl, unhide HB⟩
    · have hE3 := hide (show allK k s.data.toList = true by rw [← unhide hE, drop_end s j h]; rfl)
      have hlt : ¬ (j : Int) < (s.size : Int) := by omega
      go_wp2
      go_ret
      exact ⟨by rw [unhide hE3]; rfl, unhide hB⟩
theorem str_nil (s : ByteArray) : (s.toList == []) = s.data.toList.isEmpty := by
  rw [ByteArray.toList_eq]
  cases s.data.toList <;> rfl
set_option maxHeartbeats 1000000 in
theorem isToken_calls (s : ByteArray) (hs : s.size ≤ maxLen) (w : World) : Calls Tryz.prog 79 #[.string s] w fun e w' => e = .returned (.bool (isTokenL s.data.toList)) ∧ Below w.heap.size w w' := by
  have AC := hide (fun W => all_calls s 8 (by decide) hs W)
  have hn := str_nil s
  have hnil : (⟨#[]⟩ : ByteArray).toList = [] := by rw [ByteArray.toList_eq]
  have hE := hide (show isTokenL s.data.toList = (!s.data.toList.isEmpty && allK 8 s.data.toList) from rfl)
  simp only [maxLen] at hs
  cases h : s.data.toList.isEmpty with
  | true =>
    rw [h] at hn
    have hE3 := hide (show isTokenL s.data.toList = false by rw [unhide hE, h]; rfl)
    clear h
    go_enter Tryz.func79, Tryz.ntmps79
    go_wp2
    go_ret
    exact ⟨by rw [unhide hE3]; rfl, Below.refl _ _⟩
  | false =>
    rw [h] at hn
    have hE3 := hide (show isTokenL s.data.toList = allK 8 s.data.toList by rw [unhide hE, h]; rfl)
    clear h
    go_enter Tryz.func79, Tryz.ntmps79
    go_wp2_with (go_at_call 89; refine (unhide AC _).mono ?_; rintro e w' ⟨rfl, hb⟩)
    go_ret
    exact ⟨by rw [unhide hE3]; rfl, hb⟩
theorem two_or (l : Tx) : escL l = (decide (2 ≤ l.length) && allK 2 (l.take 2)) := by
  match l with
  | [] => simp [escL]
  | [a] => simp [escL]
  | a :: b :: t => simp [escL, allK]
set_option maxHeartbeats 1000000 in
theorem isEscape_calls (s : ByteArray) (hs : s.size ≤ maxLen) (w : World) : Calls Tryz.prog 123 #[.string s] w fun e w' => e = .returned (.bool (escL s.data.toList)) ∧ Below w.heap.size w w' := by
  have AC := hide (fun W => all_calls (s.extract 0 2) 2 (by decide) (by simp [maxLen] at hs ⊢; omega) W)
  have hE := hide (show escL s.data.toList = (decide (2 ≤ s.size) && allK 2 (s.extract 0 2).data.toList) by
    rw [two_or]; simp [ByteArray.data_extract])
  simp only [maxLen] at hs
  by_cases h : 2 ≤ s.size
  · have h2 : (2 : Int) ≤ (s.size : Int) := by omega
    have hE3 := hide (show escL s.data.toList = allK 2 (s.data.toList.take 2) by rw [two_or, decide_eq_true (by simpa using h)]; rfl)
    go_enter Tryz.func123, Tryz.ntmps123
    go_wp2_with (go_at_call 89; refine (unhide AC _).mono ?_; rintro e w' ⟨rfl, hb⟩)
    go_ret
    exact ⟨by rw [unhide hE3]; rfl, hb⟩
  · have h2 : ¬ (2 : Int) ≤ (s.size : Int) := by omega
    have hE3 := hide (show escL s.data.toList = false by rw [unhide hE, decide_eq_false h]; rfl)
    go_enter Tryz.func123, Tryz.ntmps123
    go_wp2
    go_ret
    exact ⟨by rw [unhide hE3]; rfl, Below.refl _ _⟩
theorem ext_drop (s : ByteArray) (j : Nat) : (s.extract j s.size).data.toList = s.data.toList.drop j := by
  simp [ByteArray.data_extract]
  rw [List.take_of_length_le (by simp)]
theorem byte37 (x : UInt8) : (((x.toNat : Nat) : Int) == 37) = decide (x = 37) := by
  rw [Bool.eq_iff_iff, beq_iff_eq, decide_eq_true_eq, ← UInt8.toNat_inj]
  have : (37 : UInt8).toNat = 37 := rfl
  omega
set_option maxHeartbeats 2000000 in
theorem allEsc_calls (s : ByteArray) (k : Nat) (hk : k < 128) (hs : s.size ≤ maxLen) (w : World) : Calls Tryz.prog 107 #[.string s, .int .i64 (k : Int)] w fun e w' => e = .returned (.bool (allEsc k s.data.toList)) ∧ Below w.heap.size w w' := by
  have IS := hide (fun x W => is_calls x k hk W)
  have ES := hide (fun j W => isEscape_calls (s.extract j s.size) (by simp [maxLen] at hs ⊢; omega) W)
  simp only [maxLen] at hs
  go_enter Tryz.func107, Tryz.ntmps107
  go_wp2
  go_loopw [8] (fun i wr => ∃ j : Nat, i = .int .i64 (j : Int) ∧ j ≤ s.size ∧ Hid (allEsc k (s.data.toList.drop j) = allEsc k s.data.toList) ∧ Hid (Below w.heap.size w wr)) (fun i _ => s.size - (intOf i).toNat)
  case atStart => exact ⟨0, rfl, by omega, hide rfl, hide (Below.refl _ _)⟩
  case round =>
    obtain ⟨j, rfl, hj, hE, hB⟩ := hrel
    by_cases h : j < s.size
    · have hE2 := hide (show allEsc k (s.data.toList.drop j) = (okAt k (s[j]'h) (s.data.toList.drop (j + 1)) && allEsc k (s.data.toList.drop (j + 1))) by rw [drop_at s j h]; rfl)
      generalize hx : (s[j]'h) = x at *
      have hx2 : ∀ hh, (s[j]'hh) = x := fun _ => hx
      have hw : IntKind.i64.wrap ((j : Int) + 1) = (j : Int) + 1 := by rw [IntKind.wrap_i64]; omega
      have hlt : (j : Int) < (s.size : Int) := by omega
      have hle : (j : Int) + 1 ≤ (s.size : Int) := by omega
      have hto : ((j : Int) + 1).toNat = j + 1 := by omega
      by_cases h37 : x = 37
      · have h37b : (((x.toNat : Nat) : Int) == 37) = true := by rw [byte37, decide_eq_true h37]
        have h37c : (((x.toNat : Nat) : Int) != 37) = false := by rw [bne, h37b]; rfl
        have hok := hide (show okAt k x (s.data.toList.drop (j + 1)) = escL (s.extract (j + 1) s.size).data.toList by rw [ext_drop]; unfold okAt; rw [if_pos h37])
        clear h37
        cases hi : escL (s.extract (j + 1) s.size).data.toList with
        | true =>
          have hE3 := hide (show allEsc k (s.data.toList.drop (j + 1)) = allEsc k s.data.toList by rw [← unhide hE, unhide hE2, unhide hok, hi]; rfl)
          go_wp2_with (go_at_call 123; refine (unhide ES _ _).mono ?_; rintro e w' ⟨rfl, hb⟩; rw [hi]; have HB := chain hB hb)
          go_roundw
          case rel => exact ⟨j + 1, by first | rfl | (rw [hw]; rfl), by omega, hE3, HB⟩
          case measure => simp [intOf]; omega
        | false =>
          have hE3 := hide (show allEsc k s.data.toList = false by rw [← unhide hE, unhide hE2, unhide hok, hi]; rfl)
          go_wp2_with (go_at_call 123; refine (unhide ES _ _).mono ?_; rintro e w' ⟨rfl, hb⟩; rw [hi]; have HB := chain hB hb)
          go_ret
          exact ⟨by rw [unhide hE3]; rfl, unhide HB⟩
      · have h37b : (((x.toNat : Nat) : Int) == 37) = false := by rw [byte37, decide_eq_false h37]
        have h37c : (((x.toNat : Nat) : Int) != 37) = true := by rw [bne, h37b]; rfl
        have hok := hide (show okAt k x (s.data.toList.drop (j + 1)) = isK k x by unfold okAt; rw [if_neg h37])
        clear h37
        cases hi : isK k x with
        | true =>
          have hE3 := hide (show allEsc k (s.data.toList.drop (j + 1)) = allEsc k s.data.toList by rw [← unhide hE, unhide hE2, unhide hok, hi]; rfl)
          go_wp2_with (go_at_call 109; refine (unhide IS _ _).mono ?_; rintro e w' ⟨rfl, hb⟩; rw [hi]; have HB := chain hB hb)
          go_roundw
          case rel => exact ⟨j + 1, by first | rfl | (rw [hw]; rfl), by omega, hE3, HB⟩
          case measure => simp [intOf]; omega
        | false =>
          have hE3 := hide (show allEsc k s.data.toList = false by rw [← unhide hE, unhide hE2, unhide hok, hi]; rfl)
          go_wp2_with (go_at_call 109; refine (unhide IS _ _).mono ?_; rintro e w' ⟨rfl, hb⟩; rw [hi]; have HB := chain hB hb)
          go_ret
          exact ⟨by rw [unhide hE3]; rfl, unhide HB⟩
    · have hE3 := hide (show allEsc k s.data.toList = true by rw [← unhide hE, drop_end s j h]; rfl)
      have hlt : ¬ (j : Int) < (s.size : Int) := by omega
      go_wp2
      go_ret
      exact ⟨by rw [unhide hE3]; rfl, unhide hB⟩
set_option maxHeartbeats 1000000 in
theorem isPath_calls (s : ByteArray) (hs : s.size ≤ maxLen) (w : World) : Calls Tryz.prog 87 #[.string s] w fun e w' => e = .returned (.bool (isPathL s.data.toList)) ∧ Below w.heap.size w w' := by
  have AC := hide (fun W => allEsc_calls s 16 (by decide) hs W)
  have HP := hide (Tryz.strings_HasPrefix s ⟨#[47]⟩ w)
  have hE := hide (show isPathL s.data.toList = (Lib.hasPrefix s.data.toList [47] && allEsc 16 s.data.toList) from rfl)
  simp only [maxLen] at hs
  cases h : Lib.hasPrefix s.data.toList [47] with
  | true =>
    have hE3 := hide (show isPathL s.data.toList = allEsc 16 s.data.toList by rw [unhide hE, h]; rfl)
    go_enter Tryz.func87, Tryz.ntmps87
    go_wp2_with (first
      | (go_at_call 108; refine (unhide HP).mono ?_; rintro e w' ⟨rfl, rfl⟩; rw [show Lib.hasPrefix s.data.toList (⟨#[47]⟩ : ByteArray).data.toList = true from h])
      | (go_at_call 107; refine (unhide AC _).mono ?_; rintro e w' ⟨rfl, hb⟩))
    go_ret
    exact ⟨by rw [unhide hE3]; rfl, hb⟩
  | false =>
    have hE3 := hide (show isPathL s.data.toList = false by rw [unhide hE, h]; rfl)
    go_enter Tryz.func87, Tryz.ntmps87
    go_wp2_with (go_at_call 108; refine (unhide HP).mono ?_; rintro e w' ⟨rfl, rfl⟩; rw [show Lib.hasPrefix s.data.toList (⟨#[47]⟩ : ByteArray).data.toList = false from h])
    go_ret
    exact ⟨by rw [unhide hE3]; rfl, Below.refl _ _⟩
theorem isQuery_calls (s : ByteArray) (hs : s.size ≤ maxLen) (w : World) : Calls Tryz.prog 86 #[.string s] w fun e w' => e = .returned (.bool (isQueryL s.data.toList)) ∧ Below w.heap.size w w' := by
  have AC := hide (fun W => allEsc_calls s 32 (by decide) hs W)
  simp only [maxLen] at hs
  go_enter Tryz.func86, Tryz.ntmps86
  go_wp2_with (go_at_call 107; refine (unhide AC _).mono ?_; rintro e w' ⟨rfl, hb⟩)
  go_ret
  exact ⟨rfl, hb⟩
end Go.Proofs.YtcmiappiocfbiaaGreatDoor
