/- The document's heads: all, Token, Value, Lower, cut, trimmed, begins. -/
import Derived.Test.YtcmiappiocfbiaaGreatDoorHr0
import Derived.Test.YtcmiappiocfbiaaGreatDoorHdk
import Derived.Test.YtcmiappiocfbiaaGreatDoorHd7
import Derived.Test.YtcmiappiocfbiaaGreatDoorApp
namespace Go.Proofs.YtcmiappiocfbiaaGreatDoor
open Go.ChangeShapes Go.WideShapes Go.ChangeAt Go.RowKit
set_option linter.unusedVariables false

set_option quotPrecheck false
local notation "tok77" => (⟨(List.append [97, 98, 99, 100, 101, 102, 103, 104, 105, 106, 107, 108, 109, 110, 111, 112, 113, 114, 115, 116, 117, 118, 119, 120, 121, 122, 65, 66, 67, 68, 69, 70, 71, 72, 73, 74, 75, 76] [77, 78, 79, 80, 81, 82, 83, 84, 85, 86, 87, 88, 89, 90, 48, 49, 50, 51, 52, 53, 54, 55, 56, 57, 33, 35, 36, 37, 38, 39, 42, 43, 45, 46, 94, 95, 96, 124, 126]).toArray⟩ : ByteArray)
local notation "dig10" => (⟨#[48, 49, 50, 51, 52, 53, 54, 55, 56, 57]⟩ : ByteArray)
local notation "hst64" => (⟨#[97, 98, 99, 100, 101, 102, 103, 104, 105, 106, 107, 108, 109, 110, 111, 112, 113, 114, 115, 116, 117, 118, 119, 120, 121, 122, 65, 66, 67, 68, 69, 70, 71, 72, 73, 74, 75, 76, 77, 78, 79, 80, 81, 82, 83, 84, 85, 86, 87, 88, 89, 90, 48, 49, 50, 51, 52, 53, 54, 55, 56, 57, 45, 46]⟩ : ByteArray)
theorem tok_is (x : UInt8) : hasL x (tok77).data.toList = isK 8 x := each_byte (p := fun x => hasL x (tok77).data.toList) (q := isK 8) (by decide +kernel) x
theorem dig_is (x : UInt8) : hasL x (dig10).data.toList = isK 1 x := each_byte (p := fun x => hasL x (dig10).data.toList) (q := isK 1) (by decide +kernel) x
theorem hst_is (x : UInt8) : hasL x (hst64).data.toList = inHost x := each_byte (p := fun x => hasL x (hst64).data.toList) (q := inHost) (by decide +kernel) x
def allQ (q : UInt8 → Bool) (l : Tx) : Bool := l.all q
set_option maxHeartbeats 2000000 in
theorem allR_calls (s such : ByteArray) (q : UInt8 → Bool) (hs : s.size ≤ maxLen) (hm : such.size ≤ maxLen) (hset : ∀ x, hasL x such.data.toList = q x) (w : World) : Calls Tryz.prog 55 #[.string s, .string such] w fun e w' => e = .returned (.bool (allQ q s.data.toList)) ∧ w' = w := by
  have I1 := hide (fun x W => show Calls Tryz.prog 71 #[.int .u8 (x.toNat : Int), .string such] W fun e w' => e = .returned (.bool (q x)) ∧ w' = W from by
    have := in_calls x such hm W
    rwa [hset x] at this)
  simp only [maxLen] at hs
  clear hset hm
  go_enter Tryz.func55, Tryz.ntmps55
  go_wp2
  go_loopw [5] (fun i wr => ∃ j : Nat, i = .int .i64 (j : Int) ∧ j ≤ s.size ∧ Hid (allQ q (s.data.toList.drop j) = allQ q s.data.toList) ∧ Hid (wr = w)) (fun i _ => s.size - (intOf i).toNat)
  case atStart => exact ⟨0, rfl, by omega, hide rfl, hide rfl⟩
  case round =>
    obtain ⟨j, rfl, hj, hE, hB⟩ := hrel
    by_cases h : j < s.size
    · have hE2 := hide (show allQ q (s.data.toList.drop j) = (q (s[j]'h) && allQ q (s.data.toList.drop (j + 1))) by rw [drop_at s j h]; rfl)
      generalize hx : (s[j]'h) = x at *
      have hx2 : ∀ hh, (s[j]'hh) = x := fun _ => hx
      have hw : IntKind.i64.wrap ((j : Int) + 1) = ((j + 1 : Nat) : Int) := by rw [IntKind.wrap_i64]; omega
      have hlt : (j : Int) < (s.size : Int) := by omega
      cases hi : q x with
      | false =>
        have hE3 := hide (show allQ q s.data.toList = false by rw [← unhide hE, unhide hE2, hi]; rfl)
        go_wp2_with (go_at_call 71; refine (unhide I1 _ _).mono ?_; rintro e w' ⟨rfl, hb2⟩; rw [hi]; rw [hb2]; clear hb2)
        go_ret
        exact ⟨by rw [unhide hE3]; rfl, unhide hB⟩
      | true =>
        have hE3 := hide (show allQ q (s.data.toList.drop (j + 1)) = allQ q s.data.toList by rw [← unhide hE, unhide hE2, hi]; rfl)
        go_wp2_with (go_at_call 71; refine (unhide I1 _ _).mono ?_; rintro e w' ⟨rfl, hb2⟩; rw [hi]; rw [hb2]; clear hb2)
        go_roundw
        case rel => exact ⟨j + 1, by first | rfl | (rw [hw]), by omega, hE3, hB⟩
        case measure => simp [intOf]; omega
    · have hE3 := hide (show allQ q s.data.toList = true by rw [← unhide hE, drop_end s j h]; rfl)
      have hlt : ¬ (j : Int) < (s.size : Int) := by omega
      go_wp2
      go_ret
      exact ⟨by rw [unhide hE3]; rfl, unhide hB⟩
theorem tokenR_calls (s : ByteArray) (hs : s.size ≤ maxLen) (w : World) : Calls Tryz.prog 37 #[.string s] w fun e w' => e = .returned (.bool (isTokenL s.data.toList)) ∧ w' = w := by
  have AC := hide (fun W => allR_calls s tok77 (isK 8) hs (show 77 ≤ maxLen by simp [maxLen]) tok_is W)
  have hn := str_nil s
  have hnil : (⟨#[]⟩ : ByteArray).toList = [] := by rw [ByteArray.toList_eq]
  have hE := hide (show isTokenL s.data.toList = (!s.data.toList.isEmpty && allQ (isK 8) s.data.toList) from rfl)
  simp only [maxLen] at hs
  cases h : s.data.toList.isEmpty with
  | true =>
    rw [h] at hn
    have hE3 := hide (show isTokenL s.data.toList = false by rw [unhide hE, h]; rfl)
    clear h
    go_enter Tryz.func37, Tryz.ntmps37
    go_wp2
    go_ret
    exact ⟨by rw [unhide hE3]; rfl, rfl⟩
  | false =>
    rw [h] at hn
    have hE3 := hide (show isTokenL s.data.toList = allQ (isK 8) s.data.toList by rw [unhide hE, h]; rfl)
    clear h
    go_enter Tryz.func37, Tryz.ntmps37
    go_wp2_with (go_at_call 55; refine (unhide AC _).mono ?_; rintro e w' ⟨rfl, hb2⟩; rw [hb2]; clear hb2)
    go_ret
    exact ⟨by rw [unhide hE3]; rfl, rfl⟩
theorem portR_calls (s : ByteArray) (hs : s.size ≤ maxLen) (w : World) : Calls Tryz.prog 55 #[.string s, .string dig10] w fun e w' => e = .returned (.bool (allK 1 s.data.toList)) ∧ w' = w :=
  allR_calls s dig10 (isK 1) hs (show 10 ≤ maxLen by simp [maxLen]) dig_is w
theorem partsR_calls (s : ByteArray) (hs : s.size ≤ maxLen) (w : World) : Calls Tryz.prog 55 #[.string s, .string hst64] w fun e w' => e = .returned (.bool (allQ inHost s.data.toList)) ∧ w' = w :=
  allR_calls s hst64 inHost hs (show 64 ≤ maxLen by simp [maxLen]) hst_is w
theorem byte_lt (x c : UInt8) : decide (((x.toNat : Nat) : Int) < ((c.toNat : Nat) : Int)) = decide (x < c) := by
  rw [Bool.eq_iff_iff, decide_eq_true_eq, decide_eq_true_eq, UInt8.lt_iff_toNat_lt]
  omega
set_option maxHeartbeats 4000000 in
theorem valueR_calls (s : ByteArray) (hs : s.size ≤ maxLen) (w : World) : Calls Tryz.prog 38 #[.string s] w fun e w' => e = .returned (.bool (isValueL s.data.toList)) ∧ w' = w := by
  have HV := hide (valR_is s.data.toList)
  simp only [maxLen] at hs
  go_enter Tryz.func38, Tryz.ntmps38
  go_wp2
  go_loopw [3] (fun i wr => ∃ j : Nat, i = .int .i64 (j : Int) ∧ j ≤ s.size ∧ Hid (valR (j == 0) (s.data.toList.drop j) = isValueL s.data.toList) ∧ Hid (wr = w)) (fun i _ => s.size - (intOf i).toNat)
  case atStart => exact ⟨0, rfl, by omega, HV, hide rfl⟩
  case round =>
    obtain ⟨j, rfl, hj, hE, hB⟩ := hrel
    by_cases h : j < s.size
    · have hE2 := hide (show valR (j == 0) (s.data.toList.drop j) = (okV (j == 0) (s[j]'h) (s.data.toList.drop (j + 1)) && valR ((j + 1) == 0) (s.data.toList.drop (j + 1))) by rw [drop_at s j h]; rfl)
      generalize hx : (s[j]'h) = x at *
      have hx2 : ∀ hh, (s[j]'hh) = x := fun _ => hx
      have hw : IntKind.i64.wrap ((j : Int) + 1) = ((j + 1 : Nat) : Int) := by rw [IntKind.wrap_i64]; omega
      have hw1 : IntKind.i64.wrap ((s.size : Int) - 1) = (s.size : Int) - 1 := by rw [IntKind.wrap_i64]; omega
      have hlt : (j : Int) < (s.size : Int) := by omega
      have hq9 : (((x.toNat : Nat) : Int) == 9) = decide (x = 9) := byte_eq x 9
      have hq32 : (((x.toNat : Nat) : Int) == 32) = decide (x = 32) := byte_eq x 32
      have hq127 : (((x.toNat : Nat) : Int) == 127) = decide (x = 127) := byte_eq x 127
      have hl32 : decide (((x.toNat : Nat) : Int) < 32) = decide (x < 32) := byte_lt x 32
      have hj0 : ((j : Int) == 0) = (j == 0) := by rw [Bool.eq_iff_iff, beq_iff_eq, beq_iff_eq]; omega
      have hjl : ((j : Int) == (s.size : Int) - 1) = (s.data.toList.drop (j + 1)).isEmpty := by
        rw [Bool.eq_iff_iff, beq_iff_eq, List.isEmpty_iff, List.drop_eq_nil_iff]
        simp only [Array.length_toList]
        have : s.data.size = s.size := rfl
        omega
      have HO := hide (show okV (j == 0) x (s.data.toList.drop (j + 1)) = if (decide (x = 9) || decide (x = 32)) = true then !((j == 0) || (s.data.toList.drop (j + 1)).isEmpty) else !(decide (x < 32) || decide (x = 127)) by
        unfold okV
        congr 1
        simp)
      generalize (s.data.toList.drop (j + 1)).isEmpty = last at *
      generalize (j == 0) = first at *
      cases hok : okV first x (s.data.toList.drop (j + 1)) with
      | false =>
        have hE3 := hide (show isValueL s.data.toList = false by rw [← unhide hE, unhide hE2, hok]; rfl)
        rw [hok] at HO
        clear hok
        cases h9 : decide (x = 9) with
        | true =>
          rw [h9] at hq9 HO
          have hfl : (first || last) = true := by have h1 := unhide HO; rw [Bool.true_or, if_pos rfl] at h1; cases first <;> cases last <;> first | rfl | cases h1
          clear h9
          cases first with
          | true =>
            go_wp2
            go_ret
            exact ⟨by rw [unhide hE3]; rfl, unhide hB⟩
          | false =>
            cases last with
            | false => cases hfl
            | true =>
              go_wp2
              go_ret
              exact ⟨by rw [unhide hE3]; rfl, unhide hB⟩
        | false =>
          rw [h9] at hq9 HO
          clear h9
          cases h32 : decide (x = 32) with
          | true =>
            rw [h32] at hq32 HO
            have hfl : (first || last) = true := by have h1 := unhide HO; rw [Bool.false_or, if_pos rfl] at h1; cases first <;> cases last <;> first | rfl | cases h1
            clear h32
            cases first with
            | true =>
              go_wp2
              go_ret
              exact ⟨by rw [unhide hE3]; rfl, unhide hB⟩
            | false =>
              cases last with
              | false => cases hfl
              | true =>
                go_wp2
                go_ret
                exact ⟨by rw [unhide hE3]; rfl, unhide hB⟩
          | false =>
            rw [h32] at hq32 HO
            clear h32
            have hfl : (decide (x < 32) || decide (x = 127)) = true := by have := unhide HO; revert this; cases decide (x < 32) <;> cases decide (x = 127) <;> simp
            cases hl : decide (x < 32) with
            | true =>
              rw [hl] at hl32
              have hl33 : ((x.toNat : Nat) : Int) < 32 := of_decide_eq_true hl32
              clear hl HO hfl
              cases first <;> cases last
              all_goals
                go_wp2
                go_ret
                exact ⟨by rw [unhide hE3]; rfl, unhide hB⟩
            | false =>
              rw [hl] at hl32 hfl
              have hl33 : ¬ ((x.toNat : Nat) : Int) < 32 := of_decide_eq_false hl32
              rw [show decide (x = 127) = true from hfl] at hq127
              clear hl HO hfl
              cases first <;> cases last
              all_goals
                go_wp2
                go_ret
                exact ⟨by rw [unhide hE3]; rfl, unhide hB⟩
      | true =>
        have hE3 := hide (show valR ((j + 1) == 0) (s.data.toList.drop (j + 1)) = isValueL s.data.toList by rw [← unhide hE, unhide hE2, hok]; rfl)
        rw [hok] at HO
        clear hok
        cases h9 : decide (x = 9) with
        | true =>
          rw [h9] at hq9 HO
          have hfl : first = false ∧ last = false := by have h1 := unhide HO; rw [Bool.true_or, if_pos rfl] at h1; cases first <;> cases last <;> first | exact ⟨rfl, rfl⟩ | cases h1
          obtain ⟨rfl, rfl⟩ := hfl
          clear h9
          go_wp2
          go_roundw
          case rel => exact ⟨j + 1, by first | rfl | (rw [hw]), by omega, hE3, hB⟩
          case measure => simp [intOf]; omega
        | false =>
          rw [h9] at hq9 HO
          clear h9
          cases h32 : decide (x = 32) with
          | true =>
            rw [h32] at hq32 HO
            have hfl : first = false ∧ last = false := by have h1 := unhide HO; rw [Bool.false_or, if_pos rfl] at h1; cases first <;> cases last <;> first | exact ⟨rfl, rfl⟩ | cases h1
            obtain ⟨rfl, rfl⟩ := hfl
            clear h32
            go_wp2
            go_roundw
            case rel => exact ⟨j + 1, by first | rfl | (rw [hw]), by omega, hE3, hB⟩
            case measure => simp [intOf]; omega
          | false =>
            rw [h32] at hq32 HO
            clear h32
            have hfl : decide (x < 32) = false ∧ decide (x = 127) = false := by have := unhide HO; revert this; cases decide (x < 32) <;> cases decide (x = 127) <;> simp
            rw [hfl.1] at hl32
            rw [hfl.2] at hq127
            have hl33 : ¬ ((x.toNat : Nat) : Int) < 32 := of_decide_eq_false hl32
            clear HO hfl
            cases first <;> cases last
            all_goals
              go_wp2
              go_roundw
              case rel => exact ⟨j + 1, by first | rfl | (rw [hw]), by omega, hE3, hB⟩
              case measure => simp [intOf]; omega
    · have hE3 := hide (show isValueL s.data.toList = true by rw [← unhide hE, drop_end s j h]; rfl)
      have hlt : ¬ (j : Int) < (s.size : Int) := by omega
      go_wp2
      go_ret
      exact ⟨by rw [unhide hE3]; rfl, unhide hB⟩
end Go.Proofs.YtcmiappiocfbiaaGreatDoor
