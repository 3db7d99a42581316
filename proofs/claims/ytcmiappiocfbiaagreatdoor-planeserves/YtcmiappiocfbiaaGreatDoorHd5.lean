/- Heads: texts cut at a byte, trimmed, in small letters; values. -/
import Derived.Test.YtcmiappiocfbiaaGreatDoorHd4
import Derived.Shelf.Strings.SlTrimAscii
import Derived.Shelf.Strings.CaseAny
import Derived.Lib.SmallJoins
namespace Go.Proofs.YtcmiappiocfbiaaGreatDoor
open Go.ChangeShapes Go.WideShapes Go.ChangeAt Go.RowKit
set_option linter.unusedVariables false

def stS (l : Tx) : ByteArray := ⟨l.toArray⟩
theorem stS_list (l : Tx) : (stS l).data.toList = l := rfl
theorem stS_self (s : ByteArray) : stS s.data.toList = s := by cases s; rfl
theorem stS_size (l : Tx) : (stS l).size = l.length := rfl
theorem idxByte_cut (l : Tx) (c : UInt8) : Lib.indexByte l c = match (cutL [c] l).2 with | none => -1 | some _ => ((cutL [c] l).1.length : Int) := by
  induction l with
  | nil => rfl
  | cons b t ih =>
    unfold Lib.indexByte cutL
    have hp : [c].isPrefixOf (b :: t) = (b == c) := by
      rw [List.isPrefixOf, List.isPrefixOf, Bool.and_true, Bool.eq_iff_iff, beq_iff_eq, beq_iff_eq, eq_comm]
    rw [hp]
    cases h : (b == c) with
    | true => simp
    | false =>
      rw [ih]
      cases h2 : (cutL [c] t).2 with
      | none => simp
      | some d => simp
theorem cut1_parts (s : ByteArray) (c : UInt8) (d : Tx) (h : (cutL [c] s.data.toList).2 = some d) :
    s.extract 0 (cutL [c] s.data.toList).1.length = stS (cutL [c] s.data.toList).1 ∧ s.extract ((cutL [c] s.data.toList).1.length + 1) s.size = stS d ∧ (cutL [c] s.data.toList).1.length + 1 ≤ s.size := by
  have hb := cutL_some h
  generalize (cutL [c] s.data.toList).1 = a at *
  have hl : s.size = a.length + 1 + d.length := by have := congrArg List.length hb; simp at this; rw [this]; omega
  refine ⟨?_, ?_, by omega⟩
  · rw [← stS_self (s.extract 0 a.length)]; congr 1
    simp [ByteArray.data_extract]; rw [hb]; simp
  · rw [← stS_self (s.extract (a.length + 1) s.size)]; congr 1
    rw [ext_drop, hb]; simp
theorem trimS_len (l cs : Tx) : (Lib.trimS l cs).length ≤ l.length := by
  unfold Lib.trimS Lib.trimLeftS Lib.trimRightS
  refine Nat.le_trans (List.dropWhile_sublist _).length_le ?_
  rw [List.length_reverse]
  refine Nat.le_trans (List.dropWhile_sublist _).length_le ?_
  rw [List.length_reverse]
  exact Nat.le_refl _
def cutV1 (c : UInt8) (l : Tx) : Value := .tuple #[.string (stS (cutL [c] l).1), .string (stS (behindL [c] l)), .bool (cutL [c] l).2.isSome]
set_option maxHeartbeats 1000000 in
theorem cut10_calls (s : ByteArray) (c : UInt8) (hs : s.size ≤ maxLen) (w : World) : Calls Tryz.prog 77 #[.string s, .string ⟨#[c]⟩] w fun e w' => e = .returned (cutV1 c s.data.toList) ∧ Below w.heap.size w w' := by
  have IX := hide (fun W => Tryz.stringslite_Index_one s c W)
  rw [idxByte_cut] at IX
  simp only [maxLen] at hs
  have h1 : (⟨#[c]⟩ : ByteArray).size = 1 := rfl
  cases h : (cutL [c] s.data.toList).2 with
  | none =>
    have E := hide (show cutV1 c s.data.toList = .tuple #[.string s, .string ⟨#[]⟩, .bool false] by unfold cutV1 behindL; rw [h, cutL_none h, stS_self]; rfl)
    rw [h] at IX
    clear h
    go_enter Tryz.func77, Tryz.ntmps77
    go_wp2_with (go_at_call 85; refine (unhide IX _).mono ?_; rintro e w' ⟨rfl, rfl⟩)
    go_ret3
    exact ⟨by rw [unhide E]; rfl, Below.refl _ _⟩
  | some d =>
    obtain ⟨p1, p2, p3⟩ := cut1_parts s c d h
    have E := hide (show cutV1 c s.data.toList = .tuple #[.string (stS (cutL [c] s.data.toList).1), .string (stS d), .bool true] by unfold cutV1 behindL; rw [h]; rfl)
    rw [h] at IX
    clear h
    generalize hn : (cutL [c] s.data.toList).1.length = n at *
    generalize (cutL [c] s.data.toList).1 = a at *
    have q1 : (0 : Int) ≤ (n : Int) := by omega
    have q2 : (n : Int) ≤ (s.size : Int) := by omega
    have q3 : IntKind.i64.wrap ((n : Int) + 1) = (n : Int) + 1 := by rw [IntKind.wrap_i64]; omega
    have q4 : (n : Int) + 1 ≤ (s.size : Int) := by omega
    have q5 : ((n : Int) + 1).toNat = n + 1 := by omega
    go_enter Tryz.func77, Tryz.ntmps77
    go_wp2_with (go_at_call 85; refine (unhide IX _).mono ?_; rintro e w' ⟨rfl, rfl⟩)
    have hs1 : ∀ W, (Instr.sliceAt 9 (.string s) none (some (.int .i64 (n : Int))) none).run Tryz.prog W = .ok (.string (stS a)) W := fun W => by
      rw [run_sliceAt_string _ _ _ _ _ _ Tryz.underlying9, run_slice_string_h _ _ _ Tryz.underlying9 _ _ (by omega) (by omega), Int.toNat_natCast, p1]
    have hs2 : ∀ W, (Instr.sliceAt 9 (.string s) (some (.int .i64 ((n : Int) + 1))) none none).run Tryz.prog W = .ok (.string (stS d)) W := fun W => by
      rw [run_sliceAt_string _ _ _ _ _ _ Tryz.underlying9, run_slice_string_l _ _ _ Tryz.underlying9 _ _ (by omega) (by omega), q5, p2]
    clear p1 p2
    go_region_held3 (fun w' => True) (trivial) (fail)
    go_wp2_with fail
    go_ret3
    exact ⟨by rw [unhide E]; rfl, (Below.refl _ _).drew⟩
set_option maxHeartbeats 1000000 in
theorem cut1_calls (s : ByteArray) (c : UInt8) (hs : s.size ≤ maxLen) (w : World) : Calls Tryz.prog 66 #[.string s, .string ⟨#[c]⟩] w fun e w' => e = .returned (cutV1 c s.data.toList) ∧ Below w.heap.size w w' := by
  have C0 := hide (fun W => cut10_calls s c hs W)
  simp only [maxLen] at hs
  unfold cutV1 at C0 ⊢
  generalize stS (cutL [c] s.data.toList).1 = a at *
  generalize stS (behindL [c] s.data.toList) = b at *
  generalize (cutL [c] s.data.toList).2.isSome = d at *
  go_enter Tryz.func66, Tryz.ntmps66
  go_wp2_with (go_at_call 77; refine (unhide C0 _).mono ?_; rintro e w' ⟨rfl, hb⟩)
  go_ret3
  exact ⟨rfl, hb⟩
theorem trim_calls (s : ByteArray) (hs : s.size ≤ maxLen) (w : World) : Calls Tryz.prog 80 #[.string s, .string ⟨#[9, 32]⟩] w fun e w' => e = .returned (.string (stS (trimB s.data.toList))) ∧ Below w.heap.size w w' :=
  Any.strings_Trim_laid Tryz.lays160 (by kernel_rfl) s ⟨#[9, 32]⟩ w (by simpa [maxLen] using hs) (by decide) (ascii_of_all (by decide))
theorem lower_calls (s : ByteArray) (hs : s.size ≤ 140737488355328) (ha : ∀ b ∈ s.data.toList, b.toNat < 128) (w : World) : Calls Tryz.prog 81 #[.string s] w fun e w' => e = .returned (.string (stS (lowL s.data.toList))) ∧ Below w.heap.size w w' :=
  Tryz.strings_ToLower_ascii s w hs (fun j b h => ha b (List.mem_of_getElem? h))
theorem str_eq (s t : ByteArray) : (s.toList == t.toList) = (s.data.toList == t.data.toList) := by rw [ByteArray.toList_eq, ByteArray.toList_eq]
set_option maxHeartbeats 1000000 in
theorem isValue_calls (s : ByteArray) (hs : s.size ≤ maxLen) (w : World) : Calls Tryz.prog 82 #[.string s] w fun e w' => e = .returned (.bool (isValueL s.data.toList)) ∧ Below w.heap.size w w' := by
  have AC := hide (fun W => all_calls s 64 (by decide) hs W)
  have TC := hide (fun W => trim_calls s hs W)
  have hE := hide (show isValueL s.data.toList = (allK 64 s.data.toList && (s.data.toList == trimB s.data.toList)) from rfl)
  have hq := str_eq s (stS (trimB s.data.toList))
  rw [stS_list] at hq
  have hmt : (stS (trimB s.data.toList)).size ≤ 9223372036854775807 := by
    have := trimS_len s.data.toList [9, 32]
    rw [stS_size]
    simp [maxLen] at hs
    have h2 : (trimB s.data.toList).length ≤ s.data.toList.length := this
    simp at h2
    omega
  simp only [maxLen] at hs
  have hs' : s.size ≤ 9223372036854775807 := hs
  cases h : allK 64 s.data.toList with
  | true =>
    have hE3 := hide (show isValueL s.data.toList = (s.data.toList == trimB s.data.toList) by rw [unhide hE, h]; rfl)
    generalize stS (trimB s.data.toList) = t at *
    generalize (s.data.toList == trimB s.data.toList) = b at *
    go_enter Tryz.func82, Tryz.ntmps82
    go_wp2_with (first
      | (go_at_call 89; refine (unhide AC _).mono ?_; rintro e W1 ⟨rfl, hb⟩; rw [h]; have H1 := hide hb)
      | (go_at_call 80; refine (unhide TC _).mono ?_; rintro e W2 ⟨rfl, hb2⟩; have H2 := chain H1 hb2))
    go_ret
    exact ⟨by rw [unhide hE3]; rfl, unhide H2⟩
  | false =>
    have hE3 := hide (show isValueL s.data.toList = false by rw [unhide hE, h]; rfl)
    go_enter Tryz.func82, Tryz.ntmps82
    go_wp2_with (go_at_call 89; refine (unhide AC _).mono ?_; rintro e W1 ⟨rfl, hb⟩; rw [h]; have H1 := hide hb)
    go_ret
    exact ⟨by rw [unhide hE3]; rfl, unhide H1⟩
end Go.Proofs.YtcmiappiocfbiaaGreatDoor
