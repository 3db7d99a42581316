/- The document's heads: all, Token, Value, Lower, cut, trimmed, begins. -/
import Derived.Test.YtcmiappiocfbiaaGreatDoorB21
import Derived.Test.YtcmiappiocfbiaaGreatDoorB09
import Derived.Test.YtcmiappiocfbiaaGreatDoorB05
import Derived.Test.YtcmiappiocfbiaaGreatDoorB14
import Derived.Test.YtcmiappiocfbiaaGreatDoorB19
import Derived.Lib.AppendStr
import Derived.Lib.FrozenHead
import Derived.Test.YtcmiappiocfbiaaGreatDoorB13
section
namespace Go.Proofs.YtcmiappiocfbiaaGreatDoor
open Go.ChangeShapes Go.WideShapes Go.ChangeAt Go.RowKit
set_option linter.unusedVariables false

set_option quotPrecheck false
local notation "tok77" => (⟨(List.append [97, 98, 99, 100, 101, 102, 103, 104, 105, 106, 107, 108, 109, 110, 111, 112, 113, 114, 115, 116, 117, 118, 119, 120, 121, 122, 65, 66, 67, 68, 69, 70, 71, 72, 73, 74, 75, 76] [77, 78, 79, 80, 81, 82, 83, 84, 85, 86, 87, 88, 89, 90, 48, 49, 50, 51, 52, 53, 54, 55, 56, 57, 33, 35, 36, 37, 38, 39, 42, 43, 45, 46, 94, 95, 96, 124, 126]).toArray⟩ : ByteArray)
local notation "dig10" => (⟨#[48, 49, 50, 51, 52, 53, 54, 55, 56, 57]⟩ : ByteArray)
local notation "hst64" => (⟨#[97, 98, 99, 100, 101, 102, 103, 104, 105, 106, 107, 108, 109, 110, 111, 112, 113, 114, 115, 116, 117, 118, 119, 120, 121, 122, 65, 66, 67, 68, 69, 70, 71, 72, 73, 74, 75, 76, 77, 78, 79, 80, 81, 82, 83, 84, 85, 86, 87, 88, 89, 90, 48, 49, 50, 51, 52, 53, 54, 55, 56, 57, 45, 46]⟩ : ByteArray)
theorem tok_is (x : UInt8) : hasL x (tok77).data.toList = isK 8 x := each_byte (p := fun x => hasL x (tok77).data.toList) (q := isK 8) (by decide +kernel) x
theorem dig_is (x : UInt8) : hasL x (dig10).data.toList = isK 1 x := each_byte (p := fun x => hasL x (dig10).data.toList) (q := isK 1) (by decide +kernel) x
theorem hst_is (x : UInt8) : hasL x (hst64).data.toList = inHost x := each_byte (p := fun x => hasL x (hst64).data.toList) (q := inHost) (by decide +kernel) x
def allQ (q : UInt8 → Bool) (l : Tx) : Bool := l.all q
set_option maxHeartbeats 2000000 in
theorem allR_calls (s such : ByteArray) (q : UInt8 → Bool) (hs : s.size ≤ maxLen) (hm : such.size ≤ maxLen) (hset : ∀ x, hasL x such.data.toList = q x) (w : World) : Calls Tryz.prog 55 #[.string s, .string such] w fun e w' => e = .returned (.bool (allQ q s.data.toList)) ∧ w' = w := by
  have I1 := hide (fun x W => show Calls Tryz.prog 71 #[.int .u8 (x.toNat : Int), .string such] W fun e w' => e = .returned (.bool (q x)) ∧ w' = W from by
    have := in_calls x such hm W
    rwa [hset x] at this)
  simp only [maxLen] at hs
  clear hset hm
  go_enter Tryz.func55, Tryz.ntmps55
  go_wp2
  go_loopw [5] (fun i wr => ∃ j : Nat, i = .int .i64 (j : Int) ∧ j ≤ s.size ∧ Hid (allQ q (s.data.toList.drop j) = allQ q s.data.toList) ∧ Hid (wr = w)) (fun i _ => s.size - (intOf i).toNat)
  case atStart => exact ⟨0, rfl, by omega, hide rfl, hide rfl⟩
  case round =>
    obtain ⟨j, rfl, hj, hE, hB⟩ := hrel
    by_cases h : j < s.size
    · have hE2 := hide (show allQ q (s.data.toList.drop j) = (q (s[j]'h) && allQ q (s.data.toList.drop (j + 1))) by rw [drop_at s j h]; rfl)
      generalize hx : (s[j]'h) = x at *
      have hx2 : ∀ hh, (s[j]'hh) = x := fun _ => hx
      have hw : IntKind.i64.wrap ((j : Int) + 1) = ((j + 1 : Nat) : Int) := by rw [IntKind.wrap_i64]; omega
      have hlt : (j : Int) < (s.size : Int) := by omega
      cases hi : q x with
      | false =>
        have hE3 := hide (show allQ q s.data.toList = false by rw [← unhide hE, unhide hE2, hi]; rfl)
        go_wp2_with (go_at_call 71; refine (unhide I1 _ _).mono ?_; rintro e w' ⟨rfl, hb2⟩; rw [hi]; rw [hb2]; clear hb2)
        go_ret
        exact ⟨by rw [unhide hE3]; rfl, unhide hB⟩
      | true =>
        have hE3 := hide (show allQ q (s.data.toList.drop (j + 1)) = allQ q s.data.toList by rw [← unhide hE, unhide hE2, hi]; rfl)
        go_wp2_with (go_at_call 71; refine (unhide I1 _ _).mono ?_; rintro e w' ⟨rfl, hb2⟩; rw [hi]; rw [hb2]; clear hb2)
        go_roundw
        case rel => exact ⟨j + 1, by first | rfl | (rw [hw]), by omega, hE3, hB⟩
        case measure => simp [intOf]; omega
    · have hE3 := hide (show allQ q s.data.toList = true by rw [← unhide hE, drop_end s j h]; rfl)
      have hlt : ¬ (j : Int) < (s.size : Int) := by omega
      go_wp2
      go_ret
      exact ⟨by rw [unhide hE3]; rfl, unhide hB⟩
theorem tokenR_calls (s : ByteArray) (hs : s.size ≤ maxLen) (w : World) : Calls Tryz.prog 37 #[.string s] w fun e w' => e = .returned (.bool (isTokenL s.data.toList)) ∧ w' = w := by
  have AC := hide (fun W => allR_calls s tok77 (isK 8) hs (show 77 ≤ maxLen by simp [maxLen]) tok_is W)
  have hn := str_nil s
  have hnil : (⟨#[]⟩ : ByteArray).toList = [] := by rw [ByteArray.toList_eq]
  have hE := hide (show isTokenL s.data.toList = (!s.data.toList.isEmpty && allQ (isK 8) s.data.toList) from rfl)
  simp only [maxLen] at hs
  cases h : s.data.toList.isEmpty with
  | true =>
    rw [h] at hn
    have hE3 := hide (show isTokenL s.data.toList = false by rw [unhide hE, h]; rfl)
    clear h
    go_enter Tryz.func37, Tryz.ntmps37
    go_wp2
    go_ret
    exact ⟨by rw [unhide hE3]; rfl, rfl⟩
  | false =>
    rw [h] at hn
    have hE3 := hide (show isTokenL s.data.toList = allQ (isK 8) s.data.toList by rw [unhide hE, h]; rfl)
    clear h
    go_enter Tryz.func37, Tryz.ntmps37
    go_wp2_with (go_at_call 55; refine (unhide AC _).mono ?_; rintro e w' ⟨rfl, hb2⟩; rw [hb2]; clear hb2)
    go_ret
    exact ⟨by rw [unhide hE3]; rfl, rfl⟩
theorem portR_calls (s : ByteArray) (hs : s.size ≤ maxLen) (w : World) : Calls Tryz.prog 55 #[.string s, .string dig10] w fun e w' => e = .returned (.bool (allK 1 s.data.toList)) ∧ w' = w :=
  allR_calls s dig10 (isK 1) hs (show 10 ≤ maxLen by simp [maxLen]) dig_is w
theorem partsR_calls (s : ByteArray) (hs : s.size ≤ maxLen) (w : World) : Calls Tryz.prog 55 #[.string s, .string hst64] w fun e w' => e = .returned (.bool (allQ inHost s.data.toList)) ∧ w' = w :=
  allR_calls s hst64 inHost hs (show 64 ≤ maxLen by simp [maxLen]) hst_is w
theorem byte_lt (x c : UInt8) : decide (((x.toNat : Nat) : Int) < ((c.toNat : Nat) : Int)) = decide (x < c) := by
  rw [Bool.eq_iff_iff, decide_eq_true_eq, decide_eq_true_eq, UInt8.lt_iff_toNat_lt]
  omega
set_option maxHeartbeats 4000000 in
theorem valueR_calls (s : ByteArray) (hs : s.size ≤ maxLen) (w : World) : Calls Tryz.prog 38 #[.string s] w fun e w' => e = .returned (.bool (isValueL s.data.toList)) ∧ w' = w := by
  have HV := hide (valR_is s.data.toList)
  simp only [maxLen] at hs
  go_enter Tryz.func38, Tryz.ntmps38
  go_wp2
  go_loopw [3] (fun i wr => ∃ j : Nat, i = .int .i64 (j : Int) ∧ j ≤ s.size ∧ Hid (valR (j == 0) (s.data.toList.drop j) = isValueL s.data.toList) ∧ Hid (wr = w)) (fun i _ => s.size - (intOf i).toNat)
  case atStart => exact ⟨0, rfl, by omega, HV, hide rfl⟩
  case round =>
    obtain ⟨j, rfl, hj, hE, hB⟩ := hrel
    by_cases h : j < s.size
    · have hE2 := hide (show valR (j == 0) (s.data.toList.drop j) = (okV (j == 0) (s[j]'h) (s.data.toList.drop (j + 1)) && valR ((j + 1) == 0) (s.data.toList.drop (j + 1))) by rw [drop_at s j h]; rfl)
      generalize hx : (s[j]'h) = x at *
      have hx2 : ∀ hh, (s[j]'hh) = x := fun _ => hx
      have hw : IntKind.i64.wrap ((j : Int) + 1) = ((j + 1 : Nat) : Int) := by rw [IntKind.wrap_i64]; omega
      have hw1 : IntKind.i64.wrap ((s.size : Int) - 1) = (s.size : Int) - 1 := by rw [IntKind.wrap_i64]; omega
      have hlt : (j : Int) < (s.size : Int) := by omega
      have hq9 : (((x.toNat : Nat) : Int) == 9) = decide (x = 9) := byte_eq x 9
      have hq32 : (((x.toNat : Nat) : Int) == 32) = decide (x = 32) := byte_eq x 32
      have hq127 : (((x.toNat : Nat) : Int) == 127) = decide (x = 127) := byte_eq x 127
      have hl32 : decide (((x.toNat : Nat) : Int) < 32) = decide (x < 32) := byte_lt x 32
      have hj0 : ((j : Int) == 0) = (j == 0) := by rw [Bool.eq_iff_iff, beq_iff_eq, beq_iff_eq]; omega
      have hjl : ((j : Int) == (s.size : Int) - 1) = (s.data.toList.drop (j + 1)).isEmpty := by
        rw [Bool.eq_iff_iff, beq_iff_eq, List.isEmpty_iff, List.drop_eq_nil_iff]
        simp only [Array.length_toList]
        have : s.data.size = s.size := rfl
        omega
      have HO := hide (show okV (j == 0) x (s.data.toList.drop (j + 1)) = if (decide (x = 9) || decide (x = 32)) = true then !((j == 0) || (s.data.toList.drop (j + 1)).isEmpty) else !(decide (x < 32) || decide (x = 127)) by
        unfold okV
        congr 1
        simp)
      generalize (s.data.toList.drop (j + 1)).isEmpty = last at *
      generalize (j == 0) = first at *
      cases hok : okV first x (s.data.toList.drop (j + 1)) with
      | false =>
        have hE3 := hide (show isValueL s.data.toList = false by rw [← unhide hE, unhide hE2, hok]; rfl)
        rw [hok] at HO
        clear hok
        cases h9 : decide (x = 9) with
        | true =>
          rw [h9] at hq9 HO
          have hfl : (first || last) = true := by have h1 := unhide HO; rw [Bool.true_or, if_pos rfl] at h1; cases first <;> cases last <;> first | rfl | cases h1
          clear h9
          cases first with
          | true =>
            go_wp2
            go_ret
            exact ⟨by rw [unhide hE3]; rfl, unhide hB⟩
          | false =>
            cases last with
            | false => cases hfl
            | true =>
              go_wp2
              go_ret
              exact ⟨by rw [unhide hE3]; rfl, unhide hB⟩
        | false =>
          rw [h9] at hq9 HO
          clear h9
          cases h32 : decide (x = 32) with
          | true =>
            rw [h32] at hq32 HO
            have hfl : (first || last) = true := by have h1 := unhide HO; rw [Bool.false_or, if_pos rfl] at h1; cases first <;> cases last <;> first | rfl | cases h1
            clear h32
            cases first with
            | true =>
              go_wp2
              go_ret
              exact ⟨by rw [unhide hE3]; rfl, unhide hB⟩
            | false =>
              cases last with
              | false => cases hfl
              | true =>
                go_wp2
                go_ret
                exact ⟨by rw [unhide hE3]; rfl, unhide hB⟩
          | false =>
            rw [h32] at hq32 HO
            clear h32
            have hfl : (decide (x < 32) || decide (x = 127)) = true := by have := unhide HO; revert this; cases decide (x < 32) <;> cases decide (x = 127) <;> simp
            cases hl : decide (x < 32) with
            | true =>
              rw [hl] at hl32
              have hl33 : ((x.toNat : Nat) : Int) < 32 := of_decide_eq_true hl32
              clear hl HO hfl
              cases first <;> cases last
              all_goals
                go_wp2
                go_ret
                exact ⟨by rw [unhide hE3]; rfl, unhide hB⟩
            | false =>
              rw [hl] at hl32 hfl
              have hl33 : ¬ ((x.toNat : Nat) : Int) < 32 := of_decide_eq_false hl32
              rw [show decide (x = 127) = true from hfl] at hq127
              clear hl HO hfl
              cases first <;> cases last
              all_goals
                go_wp2
                go_ret
                exact ⟨by rw [unhide hE3]; rfl, unhide hB⟩
      | true =>
        have hE3 := hide (show valR ((j + 1) == 0) (s.data.toList.drop (j + 1)) = isValueL s.data.toList by rw [← unhide hE, unhide hE2, hok]; rfl)
        rw [hok] at HO
        clear hok
        cases h9 : decide (x = 9) with
        | true =>
          rw [h9] at hq9 HO
          have hfl : first = false ∧ last = false := by have h1 := unhide HO; rw [Bool.true_or, if_pos rfl] at h1; cases first <;> cases last <;> first | exact ⟨rfl, rfl⟩ | cases h1
          obtain ⟨rfl, rfl⟩ := hfl
          clear h9
          go_wp2
          go_roundw
          case rel => exact ⟨j + 1, by first | rfl | (rw [hw]), by omega, hE3, hB⟩
          case measure => simp [intOf]; omega
        | false =>
          rw [h9] at hq9 HO
          clear h9
          cases h32 : decide (x = 32) with
          | true =>
            rw [h32] at hq32 HO
            have hfl : first = false ∧ last = false := by have h1 := unhide HO; rw [Bool.false_or, if_pos rfl] at h1; cases first <;> cases last <;> first | exact ⟨rfl, rfl⟩ | cases h1
            obtain ⟨rfl, rfl⟩ := hfl
            clear h32
            go_wp2
            go_roundw
            case rel => exact ⟨j + 1, by first | rfl | (rw [hw]), by omega, hE3, hB⟩
            case measure => simp [intOf]; omega
          | false =>
            rw [h32] at hq32 HO
            clear h32
            have hfl : decide (x < 32) = false ∧ decide (x = 127) = false := by have := unhide HO; revert this; cases decide (x < 32) <;> cases decide (x = 127) <;> simp
            rw [hfl.1] at hl32
            rw [hfl.2] at hq127
            have hl33 : ¬ ((x.toNat : Nat) : Int) < 32 := of_decide_eq_false hl32
            clear HO hfl
            cases first <;> cases last
            all_goals
              go_wp2
              go_roundw
              case rel => exact ⟨j + 1, by first | rfl | (rw [hw]), by omega, hE3, hB⟩
              case measure => simp [intOf]; omega
    · have hE3 := hide (show isValueL s.data.toList = true by rw [← unhide hE, drop_end s j h]; rfl)
      have hlt : ¬ (j : Int) < (s.size : Int) := by omega
      go_wp2
      go_ret
      exact ⟨by rw [unhide hE3]; rfl, unhide hB⟩
end Go.Proofs.YtcmiappiocfbiaaGreatDoor
end
/- Heads: texts as bytes in memory, and Parse of them. -/
section
namespace Go.Proofs.YtcmiappiocfbiaaGreatDoor
open Go.ChangeShapes Go.WideShapes Go.ChangeAt Go.RowKit Go.Lib
set_option linter.unusedVariables false

def numsB (s : ByteArray) : List Nat := s.data.toList.map UInt8.toNat
theorem numsB_tx (s : ByteArray) : txN (numsB s) = s.data.toList := by
  unfold txN numsB
  rw [List.map_map]
  conv => rhs; rw [← List.map_id s.data.toList]
  exact List.map_congr_left fun x _ => by simp
theorem numsB_len (s : ByteArray) : (numsB s).length = s.size := by unfold numsB; simp
/-- '[]byte(s)'. -/
theorem conv_bytes (w : World) (s : ByteArray) : ∃ c W, (convert 9 29 (.string s)).run Tryz.prog w = .ok (.slice (some ⟨w.heap.size, 0, none⟩) s.size c) W ∧ s.size ≤ c ∧ BytesAt W (some ⟨w.heap.size, 0, none⟩) (numsB s) ∧ Below w.heap.size w W := by
  refine ⟨_, _, run_bytes_of_string w 9 29 5 s Tryz.underlying9 Tryz.underlying29 Tryz.underlying5, grownCap_ge _ _ _ _, ⟨fun c hc => ?_, fun i hi => ⟨w.heap.size, 0, rfl, ?_⟩⟩, ((Below.refl _ _).drew).alloc (Nat.le_refl _) _⟩
  · obtain ⟨x, _, rfl⟩ := List.mem_map.1 hc
    exact x.toNat_lt
  · rw [numsB_len] at hi
    have hr : (w.drew.alloc (.cells (bytesRow s (grownCap w s.size 0 5)) 5 ((bytesRow s (grownCap w s.size 0 5)).size, (bytesRow s (grownCap w s.size 0 5)).size + 1))).heap[w.heap.size]? = some _ := heap_new w.drew _
    rw [cell_of_row _ _ _ _ _ _ hr]
    unfold bytesRow
    rw [Array.getElem?_append_left (by simpa using hi)]
    have h2 : i < s.data.size := hi
    rw [Array.getElem?_map, Nat.zero_add, Array.getElem?_eq_getElem h2]
    simp [numsB]
    rw [Array.getElem?_eq_getElem h2]
    rfl
/-- Parse of a text's bytes. -/
theorem parseB_calls (w W : World) (s : ByteArray) (B c : Nat) (hc : s.size ≤ c) (hb : BytesAt W (some ⟨B, 0, none⟩) (numsB s)) (hL : Lz W) : Calls Tryz.prog 30 #[.slice (some ⟨B, 0, none⟩) s.size c] W fun e w' => ParseRes s.data.toList e w' ∧ Below W.heap.size W w' := by
  have := parse_calls (some ⟨B, 0, none⟩) s.size c (numsB s) W (numsB_len s) hc hb (fun e => by cases e) hL
  rwa [numsB_tx] at this
end Go.Proofs.YtcmiappiocfbiaaGreatDoor
end
/- Bytes that were made of a text, with more texts behind them. -/
section
namespace Go.Proofs.YtcmiappiocfbiaaGreatDoor
open Go.ChangeShapes Go.WideShapes Go.ChangeAt Go.RowKit
set_option linter.unusedVariables false

theorem numsB_lt (s : ByteArray) : ∀ c ∈ numsB s, c < 256 := fun c hc => by
  obtain ⟨x, _, rfl⟩ := List.mem_map.1 hc
  exact x.toNat_lt
/-- No cell of a block of n cells is frozen. -/
def FreeZ (fz : Nat × Nat) (n : Nat) : Prop := fz.2 = 0 ∨ n ≤ fz.1
/-- Bytes of one's own, in a block of which no cell is frozen. -/
structure OwnZ (base : Nat) (w : World) (g c : Nat) (l : List Nat) : Prop where
  lt : ∀ x ∈ l, x < 256
  ge : base ≤ g
  row : ∃ cur fz, w.heap[g]? = some (.cells cur 5 fz) ∧ FreeZ fz cur.size ∧ cur.size = c ∧ cur.toList.take l.length = l.map byteV
  le : l.length ≤ c
  mx : c ≤ maxLen
theorem OwnZ.bytes {base : Nat} {w : World} {g c : Nat} {l : List Nat} (h : OwnZ base w g c l) : BytesAt w (some ⟨g, 0, none⟩) l := by
  obtain ⟨cur, fz, hg, _, _, ht⟩ := h.row
  refine ⟨h.lt, fun i hi => ⟨g, 0, rfl, ?_⟩⟩
  rw [cell_of_row w g (0 + i) cur _ _ hg, Nat.zero_add]
  have e : (l.map byteV)[i]? = some (byteV (l.getD i 0)) := by
    rw [List.getElem?_map, List.getElem?_eq_getElem hi, List.getD_eq_getElem?_getD, List.getElem?_eq_getElem hi]; rfl
  rw [← ht, List.getElem?_take, if_pos hi] at e
  rw [← Array.getElem?_toList]
  exact e
theorem OwnZ.later {base : Nat} {w w' : World} {g c : Nat} {l : List Nat} (h : OwnZ base w g c l) (hb : Below w.heap.size w w') : OwnZ base w' g c l := by
  obtain ⟨cur, fz, hg, r⟩ := h.row
  exact ⟨h.lt, h.ge, ⟨cur, fz, (hb.block g (Array.getElem?_eq_some_iff.1 hg).1).trans hg, r⟩, h.le, h.mx⟩
/-- '[]byte(s)'. -/
theorem conv_own (w : World) (s : ByteArray) (base : Nat) (hb : base ≤ w.heap.size) (hs : s.size ≤ 140737488355328) : ∃ c W, (convert 9 29 (.string s)).run Tryz.prog w = .ok (.slice (some ⟨w.heap.size, 0, none⟩) s.size c) W ∧ OwnZ base W w.heap.size c (numsB s) ∧ Below w.heap.size w W := by
  refine ⟨_, _, run_bytes_of_string w 9 29 5 s Tryz.underlying9 Tryz.underlying29 Tryz.underlying5, ⟨numsB_lt s, hb, ⟨_, _, heap_new w.drew _, .inr (Nat.le_refl _), ?_, ?_⟩, ?_, ?_⟩, ((Below.refl _ _).drew).alloc (Nat.le_refl _) _⟩
  · have hge := grownCap_ge w s.size 0 5
    simp only [bytesRow, Array.size_append, Array.size_map, Array.size_replicate]
    have : s.data.size = s.size := rfl
    omega
  · rw [numsB_len]
    have e : (bytesRow s (grownCap w s.size 0 5)).toList = (numsB s).map byteV ++ List.replicate (grownCap w s.size 0 5 - s.size) (.int .u8 0) := by
      simp [bytesRow, numsB, List.map_map, Function.comp_def, byteV]
    rw [e, ← numsB_len s, ← List.length_map (f := byteV), List.take_left]
  · rw [numsB_len]; exact grownCap_ge _ _ _ _
  · exact grownCap_le_maxLen w s.size 0 5 (by simp only [maxLen]; omega)
def numsT (l : Tx) : List Nat := l.map UInt8.toNat
theorem numsT_len (l : Tx) : (numsT l).length = l.length := List.length_map _
theorem numsT_tx (l : Tx) : txN (numsT l) = l := numsB_tx (stS l)
end Go.Proofs.YtcmiappiocfbiaaGreatDoor
end
/- The document's heads: Lower, cut, trimmed, begins. -/
section
namespace Go.Proofs.YtcmiappiocfbiaaGreatDoor
open Go.ChangeShapes Go.WideShapes Go.ChangeAt Go.RowKit
set_option linter.unusedVariables false

theorem lower_byte (x : UInt8) : ((Lib.lowerB x).toNat : Int) = if 65 ≤ (x.toNat : Int) ∧ (x.toNat : Int) ≤ 90 then (x.toNat : Int) + 32 else (x.toNat : Int) := by
  have h := each8 (p := fun x => decide ((Lib.lowerB x).toNat = if 65 ≤ x.toNat ∧ x.toNat ≤ 90 then x.toNat + 32 else x.toNat)) (by decide +kernel) x
  have h1 := of_decide_eq_true h
  rw [h1]
  by_cases hc : 65 ≤ x.toNat ∧ x.toNat ≤ 90
  · rw [if_pos hc, if_pos (by omega)]; omega
  · rw [if_neg hc, if_neg (by omega)]
theorem low_take (s : ByteArray) (j : Nat) (h : j < s.size) : numsT (lowL (s.data.toList.take (j + 1))) = numsT (lowL (s.data.toList.take j)) ++ [(Lib.lowerB (s[j]'h)).toNat] := by
  have hl : j < s.data.toList.length := by rw [Array.length_toList]; exact h
  rw [List.take_add_one, List.getElem?_eq_getElem hl, Option.toList_some]
  unfold lowL Lib.toLowerA numsT
  rw [List.map_append, List.map_append]
  congr 1
set_option maxRecDepth 20000 in
set_option maxHeartbeats 4000000 in
theorem lowerR_calls (s : ByteArray) (hs : s.size ≤ 140737488355328) (w : World) : Calls Tryz.prog 39 #[.string s] w fun e w' => e = .returned (.string (stS (lowL s.data.toList))) ∧ Below w.heap.size w w' := by
  have o1 := hide (OwnB.empty w w.heap.size (Nat.le_refl _))
  have b1 := hide (show Below w.heap.size w (w.alloc (.cells #[] 5)) from (Below.refl _ _).alloc (Nat.le_refl _) _)
  go_enter Tryz.func39, Tryz.ntmps39
  go_wp2
  go_loopw [3, 4] (fun b i wr => ∃ (j : Nat) (sp : Option Addr) (c : Nat), j ≤ s.size ∧ b = .slice sp j c ∧ i = .int .i64 (j : Int) ∧ Hid (OwnB w.heap.size wr sp c (numsT (lowL (s.data.toList.take j)))) ∧ Hid (Below w.heap.size w wr)) (fun _ i _ => s.size - (intOf i).toNat)
  case atStart => exact ⟨0, _, 0, by omega, rfl, rfl, o1, b1⟩
  case round =>
    obtain ⟨j, sp, c, hj, rfl, rfl, O, B⟩ := hrel
    have HM := hide (show (numsT (lowL (s.data.toList.take j))).length = j by rw [numsT_len, low_len, List.length_take, Array.length_toList]; exact Nat.min_eq_left hj)
    by_cases h : j < s.size
    · have hE := hide (low_take s j h)
      generalize hx : (s[j]'h) = x at *
      have hx2 : ∀ hh, (s[j]'hh) = x := fun _ => hx
      have hw : IntKind.i64.wrap ((j : Int) + 1) = ((j + 1 : Nat) : Int) := by rw [IntKind.wrap_i64]; omega
      have hlt : (j : Int) < (s.size : Int) := by omega
      have hxl : x.toNat < 256 := x.toNat_lt
      have hlb := lower_byte x
      have hyl : (Lib.lowerB x).toNat < 256 := (Lib.lowerB x).toNat_lt
      generalize hy : (Lib.lowerB x).toNat = y at *
      have hlit := hide (bytesAt_block (l := [y]) (heap_new wr (.cells #[.int .u8 (y : Int)] 5)) (by intro c hc; simp only [List.mem_cons, List.not_mem_nil, or_false] at hc; omega))
      have bA := hide (show Below wr.heap.size wr (wr.alloc (.cells #[.int .u8 (y : Int)] 5)) from (Below.refl _ _).alloc (Nat.le_refl _) _)
      have hsz := hide (show j + 1 ≤ 140737488355328 by omega)
      clear hy
      by_cases hc1 : 65 ≤ (x.toNat : Int)
      · by_cases hc2 : (x.toNat : Int) ≤ 90
        · rw [if_pos ⟨hc1, hc2⟩] at hlb
          have hwr : IntKind.u8.wrap ((x.toNat : Int) + 32) = (y : Int) := by rw [IntKind.wrap_u8, hlb]; omega
          clear hlb
          go_wp2_with (at_builtin; refine wpList_append8 rfl (.tmp 24) (.tmp 26) rfl w.heap.size sp j c (numsT (lowL (s.data.toList.take j))) rfl (unhide HM) (by exact (unhide O).later (unhide bA)) (some ⟨wr.heap.size, 0, none⟩) 1 1 rfl [y] rfl (by exact unhide hlit) (fun h => by cases h) (by rw [unhide HM]; exact unhide hsz) (by exact Nat.le_trans (unhide B).size (unhide bA).size) ?_; intro sp2 n2 c2 W2 hn2 ho2 hg2 hb2)
          rw [← unhide hE] at hn2 ho2
          obtain rfl : n2 = j + 1 := by rw [← unhide hn2, numsT_len, low_len, List.length_take, Array.length_toList]; exact Nat.min_eq_left h
          go_wp2
          go_roundw
          case rel => exact ⟨j + 1, sp2, c2, by omega, rfl, by first | rfl | (rw [hw]), hide ho2, hide ((unhide B).trans (((unhide bA).mono (unhide B).size).trans hb2))⟩
          case measure => simp [intOf]; omega
        · rw [if_neg (fun hh => hc2 hh.2)] at hlb
          have hlit2 := hlit
          rw [hlb] at hlit2 bA
          go_wp2_with (at_builtin; refine wpList_append8 rfl (.tmp 24) (.tmp 26) rfl w.heap.size sp j c (numsT (lowL (s.data.toList.take j))) rfl (unhide HM) (by exact (unhide O).later (unhide bA)) (some ⟨wr.heap.size, 0, none⟩) 1 1 rfl [y] rfl (by exact unhide hlit2) (fun h => by cases h) (by rw [unhide HM]; exact unhide hsz) (by exact Nat.le_trans (unhide B).size (unhide bA).size) ?_; intro sp2 n2 c2 W2 hn2 ho2 hg2 hb2)
          rw [← unhide hE] at hn2 ho2
          obtain rfl : n2 = j + 1 := by rw [← unhide hn2, numsT_len, low_len, List.length_take, Array.length_toList]; exact Nat.min_eq_left h
          go_wp2
          go_roundw
          case rel => exact ⟨j + 1, sp2, c2, by omega, rfl, by first | rfl | (rw [hw]), hide ho2, hide ((unhide B).trans (((unhide bA).mono (unhide B).size).trans hb2))⟩
          case measure => simp [intOf]; omega
      · rw [if_neg (fun hh => hc1 hh.1)] at hlb
        have hlit2 := hlit
        rw [hlb] at hlit2 bA
        go_wp2_with (at_builtin; refine wpList_append8 rfl (.tmp 24) (.tmp 26) rfl w.heap.size sp j c (numsT (lowL (s.data.toList.take j))) rfl (unhide HM) (by exact (unhide O).later (unhide bA)) (some ⟨wr.heap.size, 0, none⟩) 1 1 rfl [y] rfl (by exact unhide hlit2) (fun h => by cases h) (by rw [unhide HM]; exact unhide hsz) (by exact Nat.le_trans (unhide B).size (unhide bA).size) ?_; intro sp2 n2 c2 W2 hn2 ho2 hg2 hb2)
        rw [← unhide hE] at hn2 ho2
        obtain rfl : n2 = j + 1 := by rw [← unhide hn2, numsT_len, low_len, List.length_take, Array.length_toList]; exact Nat.min_eq_left h
        go_wp2
        go_roundw
        case rel => exact ⟨j + 1, sp2, c2, by omega, rfl, by first | rfl | (rw [hw]), hide ho2, hide ((unhide B).trans (((unhide bA).mono (unhide B).size).trans hb2))⟩
        case measure => simp [intOf]; omega
    · obtain rfl : j = s.size := by omega
      have hlt : ¬ (s.size : Int) < (s.size : Int) := by omega
      have hst := run_string8 (w := wr) s.size c (unhide HM) (unhide O).bytes
      rw [strOf_tx, numsT_tx, List.take_of_length_le (by rw [Array.length_toList]; exact Nat.le_refl _)] at hst
      go_wp2
      go_ret
      exact ⟨rfl, unhide B⟩
theorem cut1_at (s : ByteArray) (c : UInt8) : ∀ (j : Nat), j ≤ s.size → c ∉ s.data.toList.take j → (h : j < s.size) → (s[j]'h) = c → (cutL [c] s.data.toList) = (s.data.toList.take j, some (s.data.toList.drop (j + 1))) := by
  intro j hj hn h hx
  have e : s.data.toList = s.data.toList.take j ++ c :: s.data.toList.drop (j + 1) := by
    rw [← hx, ← drop_at s j h, List.take_append_drop]
  have := cut1_app hn (s.data.toList.drop (j + 1))
  rw [← e] at this
  exact this
theorem ext_drop' (s : ByteArray) (j : Nat) : s.extract j s.size = stS (s.data.toList.drop j) := by
  rw [← stS_self (s.extract j s.size)]
  congr 1
  rw [ext_drop]
theorem ext_take (s : ByteArray) (j : Nat) : s.extract 0 j = stS (s.data.toList.take j) := by
  rw [← stS_self (s.extract 0 j)]
  congr 1
  simp [ByteArray.data_extract]
set_option maxHeartbeats 4000000 in
theorem cutR_calls (s : ByteArray) (c : UInt8) (hs : s.size ≤ 140737488355328) (w : World) : Calls Tryz.prog 35 #[.string s, .int .u8 (c.toNat : Int)] w fun e w' => e = .returned (cutV1 c s.data.toList) ∧ Below w.heap.size w w' := by
  go_enter Tryz.func35, Tryz.ntmps35
  go_wp2
  go_loopw [7] (fun i wr => ∃ j : Nat, i = .int .i64 (j : Int) ∧ j ≤ s.size ∧ Hid (c ∉ s.data.toList.take j) ∧ Hid (wr = w)) (fun i _ => s.size - (intOf i).toNat)
  case atStart => exact ⟨0, rfl, by omega, hide (by simp), hide rfl⟩
  case round =>
    obtain ⟨j, rfl, hj, hN, hB⟩ := hrel
    by_cases h : j < s.size
    · have hC := hide (fun hx => cut1_at s c j hj (unhide hN) h hx)
      have hS := hide (show (s[j]'h) ≠ c → c ∉ s.data.toList.take (j + 1) from fun hne e => by
        have hl : j < s.data.toList.length := by rw [Array.length_toList]; exact h
        rw [List.take_add_one, List.getElem?_eq_getElem hl, Option.toList_some] at e
        rcases List.mem_append.1 e with e | e
        · exact unhide hN e
        · exact hne (List.mem_singleton.1 e).symm)
      generalize hx : (s[j]'h) = x at *
      have hx2 : ∀ hh, (s[j]'hh) = x := fun _ => hx
      have hw : IntKind.i64.wrap ((j : Int) + 1) = (j : Int) + 1 := by rw [IntKind.wrap_i64]; omega
      have hlt : (j : Int) < (s.size : Int) := by omega
      have hq := byte_eq x c
      cases hi : decide (x = c) with
      | false =>
        rw [hi] at hq
        have hS2 := hide (unhide hS (of_decide_eq_false hi))
        clear hi hC hS
        go_wp2
        go_roundw
        case rel => exact ⟨j + 1, by first | rfl | (rw [hw]; rfl), by omega, hS2, hB⟩
        case measure => simp [intOf]; omega
      | true =>
        rw [hi] at hq
        have hC2 := unhide hC (of_decide_eq_true hi)
        have E := hide (show cutV1 c s.data.toList = .tuple #[.string (stS (s.data.toList.take j)), .string (stS (s.data.toList.drop (j + 1))), .bool true] by unfold cutV1 behindL; rw [hC2]; rfl)
        have hs1 : ∀ W, (Instr.slice 9 (.string s) none (some (.int .i64 (j : Int))) none).run Tryz.prog W = .ok (.string (stS (s.data.toList.take j))) W := fun W => by
          rw [run_slice_string_h _ _ _ Tryz.underlying9 _ _ (by omega) (by omega), Int.toNat_natCast, ext_take]
        have hs2 : ∀ W, (Instr.slice 9 (.string s) (some (.int .i64 ((j : Int) + 1))) none none).run Tryz.prog W = .ok (.string (stS (s.data.toList.drop (j + 1)))) W := fun W => by
          rw [run_slice_string_l _ _ _ Tryz.underlying9 _ _ (by omega) (by omega), show ((j : Int) + 1).toNat = j + 1 by omega, ext_drop']
        clear hi hC hS hC2
        generalize stS (s.data.toList.take j) = st at *
        generalize stS (s.data.toList.drop (j + 1)) = sd at *
        have q1 : (0 : Int) ≤ (j : Int) := by omega
        have q2 : (j : Int) ≤ (s.size : Int) := by omega
        have q4 : (j : Int) + 1 ≤ (s.size : Int) := by omega
        go_wp2_with fail
        go_region_held3 (fun w' => True) (trivial) (fail)
        go_wp2_with fail
        go_ret3
        exact ⟨by rw [unhide E]; rfl, by rw [← unhide hB]; exact (Below.refl _ _).drew⟩
    · obtain rfl : j = s.size := by omega
      have hlt : ¬ (s.size : Int) < (s.size : Int) := by omega
      have E := hide (show cutV1 c s.data.toList = .tuple #[.string s, .string ⟨#[]⟩, .bool false] by
        have hn := unhide hN
        rw [List.take_of_length_le (by rw [Array.length_toList]; exact Nat.le_refl _)] at hn
        unfold cutV1 behindL
        rw [cut1_no hn, stS_self]
        rfl)
      go_wp2
      go_ret3
      exact ⟨by rw [unhide E]; rfl, by rw [unhide hB]; exact Below.refl _ _⟩
end Go.Proofs.YtcmiappiocfbiaaGreatDoor
end
/- The document's heads: trimmed, begins, Host. -/
section
namespace Go.Proofs.YtcmiappiocfbiaaGreatDoor
open Go.ChangeShapes Go.WideShapes Go.ChangeAt Go.RowKit
set_option linter.unusedVariables false

theorem blank_is (c : UInt8) : (decide (c = 9) || decide (c = 32)) = blank c := by
  have h := each8 (p := fun c => (decide (c = 9) || decide (c = 32)) == blank c) (by decide +kernel) c
  exact eq_of_beq h
theorem st_cons (c : UInt8) (t : Tx) : (stS (c :: t)).size = t.length + 1 := rfl
theorem st_last (t : Tx) (c : UInt8) : (stS (t ++ [c])).size = t.length + 1 := by rw [stS_size]; simp
theorem st_last_get (t : Tx) (c : UInt8) (h : t.length < (stS (t ++ [c])).size) : (stS (t ++ [c]))[t.length]'h = c := by
  show (t ++ [c]).toArray[t.length]'(by simp) = c
  simp
def strLen : Value → Nat | .string s => s.size | _ => 0
set_option maxHeartbeats 4000000 in
theorem trimR_calls (s : ByteArray) (hs : s.size ≤ 140737488355328) (w : World) : Calls Tryz.prog 36 #[.string s] w fun e w' => e = .returned (.string (stS (trimB s.data.toList))) ∧ w' = w := by
  have HT := hide (trimR_is s.data.toList)
  rw [← stS_self s]
  rw [stS_list]
  rw [← stS_self s] at hs
  generalize s.data.toList = l at *
  rw [stS_size] at hs
  go_enter Tryz.func36, Tryz.ntmps36
  go_wp2
  go_loopw [0] (fun v wr => ∃ m : Tx, v = .string (stS m) ∧ m.length ≤ l.length ∧ Hid (m.dropWhile blank = l.dropWhile blank) ∧ Hid (wr = w)) (fun v _ => strLen v)
  case atStart => exact ⟨l, rfl, Nat.le_refl _, hide rfl, hide rfl⟩
  case round =>
    obtain ⟨m, rfl, hm, hD, hB⟩ := hrel
    have tail2 := hide (show ∀ n : Tx, (n = [] ∨ ∃ c t, n = c :: t ∧ blank c = false) → n.dropWhile blank = n from fun n hn => by
      rcases hn with rfl | ⟨c, t, rfl, hc⟩
      · rfl
      · rw [List.dropWhile_cons, if_neg (by rw [hc]; decide)])
    by_cases hcc : ∃ c t, m = c :: t ∧ blank c = true
    · obtain ⟨c, t, rfl, hc⟩ := hcc
      have hD2 := hide (show t.dropWhile blank = l.dropWhile blank by rw [← unhide hD, List.dropWhile_cons, if_pos hc])
      have hz := st_cons c t
      have hx2 : ∀ hh, (stS (c :: t))[0]'hh = c := fun _ => rfl
      have hq9 : (((c.toNat : Nat) : Int) == 9) = decide (c = 9) := byte_eq c 9
      have hq32 : (((c.toNat : Nat) : Int) == 32) = decide (c = 32) := byte_eq c 32
      rw [← blank_is] at hc
      have hs1 : ∀ W, (Instr.slice 9 (.string (stS (c :: t))) (some (.int .i64 1)) none none).run Tryz.prog W = .ok (.string (stS t)) W := fun W => by
        rw [run_slice_string_l _ _ _ Tryz.underlying9 _ _ (by omega) (by rw [hz]; omega), show ((1 : Int)).toNat = 1 from rfl, ext_drop', stS_list]
        rfl
      simp only [List.length_cons] at hm
      have hgt : (0 : Int) < ((stS (c :: t)).size : Int) := by rw [hz]; omega
      have hgt0 : 0 < (stS (c :: t)).size := by rw [hz]; omega
      have hsl : strLen (.string (stS t)) < strLen (.string (stS (c :: t))) := by simp [strLen, stS_size]
      generalize stS (c :: t) = S at *
      cases h9 : decide (c = 9) with
      | true =>
        rw [h9] at hq9
        clear h9 hc
        go_wp2
        go_roundw
        case rel => exact ⟨t, rfl, by omega, hD2, hB⟩
        case measure => exact hsl
      | false =>
        rw [h9] at hq9 hc
        rw [show decide (c = 32) = true from hc] at hq32
        clear h9 hc
        go_wp2
        go_roundw
        case rel => exact ⟨t, rfl, by omega, hD2, hB⟩
        case measure => exact hsl
    · have hm0 : m = [] ∨ ∃ c t, m = c :: t ∧ blank c = false := by
        cases m with
        | nil => exact .inl rfl
        | cons c t =>
          refine .inr ⟨c, t, rfl, ?_⟩
          cases hb : blank c with
          | false => rfl
          | true => exact absurd ⟨c, t, rfl, hb⟩ hcc
      have hm1 := hide (show l.dropWhile blank = m by rw [← unhide hD, unhide tail2 m hm0])
      clear hcc hD
      have second := hide (show ∀ n : Tx, (n = [] ∨ ∃ c t, n = t ++ [c] ∧ blank c = false) → Hid (n.reverse.dropWhile blank = m.reverse.dropWhile blank) → stS n = stS (trimB l) from fun n hn hd => by
        have e : n.reverse.dropWhile blank = n.reverse := by
          rcases hn with rfl | ⟨c, t, rfl, hc⟩
          · rfl
          · rw [List.reverse_append]
            show List.dropWhile blank (c :: t.reverse) = _
            rw [List.dropWhile_cons, if_neg (by rw [hc]; decide)]
            rfl
        have e2 : n = trimR l := by
          unfold trimR
          rw [unhide hm1, ← unhide hd, e, List.reverse_reverse]
        rw [e2, unhide HT])
      rcases hm0 with hme | ⟨c, t, hme, hc⟩
      focus
        have hgt : ¬ (0 : Int) < ((stS m).size : Int) := by rw [hme]; exact of_decide_eq_false rfl
        have HME := hide hme
        clear hme
        go_wp2_with fail
      rotate_left
      focus
        have hgt : (0 : Int) < ((stS m).size : Int) := by rw [hme, st_cons]; omega
        have hgt0 : 0 < (stS m).size := by rw [hme, st_cons]; omega
        have hx2 : ∀ hh, (stS m)[0]'hh = c := by subst hme; exact fun _ => rfl
        have hq9 : (((c.toNat : Nat) : Int) == 9) = decide (c = 9) := byte_eq c 9
        have hq32 : (((c.toNat : Nat) : Int) == 32) = decide (c = 32) := byte_eq c 32
        rw [← blank_is] at hc
        rw [show decide (c = 9) = false by revert hc; cases decide (c = 9) <;> simp] at hq9
        rw [show decide (c = 32) = false by revert hc; cases decide (c = 32) <;> simp] at hq32
        have HME := hide hme
        clear hme hc
        go_wp2_with fail
      all_goals
        go_loopw [0] (fun v wr => ∃ n : Tx, v = .string (stS n) ∧ n.length ≤ l.length ∧ Hid (n.reverse.dropWhile blank = m.reverse.dropWhile blank) ∧ Hid (wr = w)) (fun v _ => strLen v)
        case atStart => exact ⟨m, rfl, hm, hide rfl, hB⟩
        case round =>
          obtain ⟨n, rfl, hn, hD3, hB3⟩ := hrel
          by_cases hcc : ∃ c t, n = t ++ [c] ∧ blank c = true
          · obtain ⟨d, t2, hne, hc⟩ := hcc
            have hD4 := hide (show t2.reverse.dropWhile blank = m.reverse.dropWhile blank by
              rw [← unhide hD3, hne, List.reverse_append]
              show _ = List.dropWhile blank (d :: t2.reverse)
              rw [List.dropWhile_cons, if_pos hc])
            have hz : (stS n).size = t2.length + 1 := by rw [hne]; exact st_last t2 d
            have hx3 : ∀ hh, (stS n)[t2.length]'hh = d := by subst hne; exact fun hh => st_last_get t2 d hh
            have hq9' : (((d.toNat : Nat) : Int) == 9) = decide (d = 9) := byte_eq d 9
            have hq32' : (((d.toNat : Nat) : Int) == 32) = decide (d = 32) := byte_eq d 32
            rw [← blank_is] at hc
            have hw : IntKind.i64.wrap (((stS n).size : Int) - 1) = (t2.length : Int) := by rw [IntKind.wrap_i64, hz]; have : t2.length + 1 ≤ l.length := by { rw [hne] at hn; simpa using hn }; omega
            have hs1 : ∀ W, (Instr.slice 9 (.string (stS n)) none (some (.int .i64 (t2.length : Int))) none).run Tryz.prog W = .ok (.string (stS t2)) W := fun W => by
              rw [run_slice_string_h _ _ _ Tryz.underlying9 _ _ (by omega) (by rw [hz]; omega), Int.toNat_natCast, ext_take, stS_list, hne, List.take_left]
            have hgt : (0 : Int) < ((stS n).size : Int) := by rw [hz]; omega
            have hlt1 : (t2.length : Int) < ((stS n).size : Int) := by rw [hz]; omega
            have hlt2 : (0 : Int) ≤ (t2.length : Int) := by omega
            have hle1 : (t2.length : Int) ≤ ((stS n).size : Int) := by omega
            have hsl : strLen (.string (stS t2)) < strLen (.string (stS n)) := by simp only [strLen, hz, stS_size]; omega
            have hln : t2.length ≤ l.length := by rw [hne, List.length_append] at hn; omega
            have HLN := hide hln
            clear hn hz
            generalize stS n = S at *
            generalize t2.length = k at hx3 hw hs1 hlt1 hlt2 hle1 hln
            cases h9 : decide (d = 9) with
            | true =>
              rw [h9] at hq9'
              clear h9 hc
              go_wp2
              go_roundw
              case rel => exact ⟨t2, rfl, unhide HLN, hD4, hB3⟩
              case measure => exact hsl
            | false =>
              rw [h9] at hq9' hc
              rw [show decide (d = 32) = true from hc] at hq32'
              clear h9 hc
              go_wp2
              go_roundw
              case rel => exact ⟨t2, rfl, unhide HLN, hD4, hB3⟩
              case measure => exact hsl
          · have hn0 : n = [] ∨ ∃ c t, n = t ++ [c] ∧ blank c = false := by
              rcases List.eq_nil_or_concat n with rfl | ⟨t, c, rfl⟩
              · exact .inl rfl
              · refine .inr ⟨c, t, by simp, ?_⟩
                cases hb : blank c with
                | false => rfl
                | true => exact absurd ⟨c, t, by simp, hb⟩ hcc
            have hE := hide (unhide second n hn0 hD3)
            clear hcc
            rcases hn0 with hne | ⟨d, t2, hne, hc⟩
            · have hgt : ¬ (0 : Int) < ((stS n).size : Int) := by rw [hne]; exact of_decide_eq_false rfl
              clear hne
              go_wp2
              go_ret
              exact ⟨by rw [← unhide hE]; rfl, unhide hB3⟩
            · have hz : (stS n).size = t2.length + 1 := by rw [hne]; exact st_last t2 d
              have hx3 : ∀ hh, (stS n)[t2.length]'hh = d := by subst hne; exact fun hh => st_last_get t2 d hh
              have hq9' : (((d.toNat : Nat) : Int) == 9) = decide (d = 9) := byte_eq d 9
              have hq32' : (((d.toNat : Nat) : Int) == 32) = decide (d = 32) := byte_eq d 32
              rw [← blank_is] at hc
              rw [show decide (d = 9) = false by revert hc; cases decide (d = 9) <;> simp] at hq9'
              rw [show decide (d = 32) = false by revert hc; cases decide (d = 32) <;> simp] at hq32'
              have hw : IntKind.i64.wrap (((stS n).size : Int) - 1) = (t2.length : Int) := by rw [IntKind.wrap_i64, hz]; have : t2.length + 1 ≤ l.length := by { rw [hne] at hn; simpa using hn }; omega
              have hgt : (0 : Int) < ((stS n).size : Int) := by rw [hz]; omega
              have hlt1 : (t2.length : Int) < ((stS n).size : Int) := by rw [hz]; omega
              have hlt2 : (0 : Int) ≤ (t2.length : Int) := by omega
              clear hne hc hz hn
              generalize stS n = S at *
              generalize t2.length = k at *
              go_wp2
              go_ret
              exact ⟨by rw [← unhide hE]; rfl, unhide hB3⟩
end Go.Proofs.YtcmiappiocfbiaaGreatDoor
end
