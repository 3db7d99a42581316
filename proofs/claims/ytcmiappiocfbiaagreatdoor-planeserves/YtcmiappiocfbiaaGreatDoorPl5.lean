/- Plane: fits, and the document's. -/
import Derived.Test.YtcmiappiocfbiaaGreatDoorPl4
namespace Go.Proofs.YtcmiappiocfbiaaGreatDoor
open Go.ChangeShapes Go.WideShapes Go.ChangeAt Go.RowKit

theorem byte47 (x : UInt8) : (((x.toNat : Nat) : Int) == 47) = (some x == some 47) := by
  rw [Bool.eq_iff_iff, beq_iff_eq, beq_iff_eq, Option.some.injEq, ← UInt8.toNat_inj]
  have : (47 : UInt8).toNat = 47 := rfl
  omega
theorem byte_at (q : ByteArray) (k : Nat) (h : k < q.size) (h0 : 0 < (q.extract k q.size).size) : ((((q.extract k q.size)[0]'h0).toNat : Int) == 47) = (some (q.data.toList[k]'(by rw [data_len]; exact h)) == some 47) := by
  rw [byte47]
  congr 2
  show (q.extract k q.size).data[0]'_ = _
  simp [ByteArray.data_extract]
set_option maxHeartbeats 2000000 in
theorem fits_calls (p q : ByteArray) (hp : p.size ≤ maxLen) (w : World) : Calls Tryz.prog 49 #[.string p, .string q] w fun e w' => e = .returned (.bool (fitsL p.data.toList q.data.toList)) ∧ w' = w := by
  have CC := hide (cutPre_calls q p w)
  have SC := hide (hasSuf_calls p hp w)
  simp only [maxLen] at hp
  cases h : preB q p with
  | false =>
    have E := hide (show fitsL p.data.toList q.data.toList = false by unfold fitsL; rw [show p.data.toList.isPrefixOf q.data.toList = false from h]; rfl)
    rw [show cutV q p = .tuple #[.string q, .bool false] by unfold cutV; rw [h]] at CC
    clear h
    go_enter Tryz.func49, Tryz.ntmps49
    go_wp2_with (go_at_call 59; refine (unhide CC).mono ?_; rintro e w' ⟨rfl, rfl⟩)
    go_ret
    exact ⟨by rw [unhide E]; rfl, rfl⟩
  | true =>
    have hle : p.size ≤ q.size := by
      by_cases z : p.size ≤ q.size
      · exact z
      · rw [preB_no q p z] at h; cases h
    have EF := hide (show fitsL p.data.toList q.data.toList = (p.size == q.size || sufB p || q.data.toList[p.size]? == some 47) by unfold fitsL; rw [show p.data.toList.isPrefixOf q.data.toList = true from h, data_len, data_len]; rfl)
    rw [show cutV q p = .tuple #[.string (q.extract p.size q.size), .bool true] by unfold cutV; rw [h]] at CC
    clear h
    have hz : (q.extract p.size q.size).size = q.size - p.size := by simp
    have hz0 : ((q.extract p.size q.size).toList == []) = decide (p.size = q.size) := by
      rw [ByteArray.toList_eq, Bool.eq_iff_iff, beq_iff_eq, decide_eq_true_eq, ← List.length_eq_zero_iff, data_len, hz]
      omega
    have hnil : (⟨#[]⟩ : ByteArray).toList = [] := by rw [ByteArray.toList_eq]
    by_cases h1 : p.size = q.size
    · rw [decide_eq_true h1] at hz0
      have E := hide (show fitsL p.data.toList q.data.toList = true by rw [unhide EF, h1]; simp)
      clear h1 hle
      go_enter Tryz.func49, Tryz.ntmps49
      go_wp2_with (go_at_call 59; refine (unhide CC).mono ?_; rintro e w' ⟨rfl, rfl⟩)
      go_ret
      exact ⟨by rw [unhide E]; rfl, rfl⟩
    · rw [decide_eq_false h1] at hz0
      cases hs : sufB p with
      | true =>
        rw [hs] at SC EF
        have E := hide (show fitsL p.data.toList q.data.toList = true by rw [unhide EF]; simp)
        clear h1 hle
        go_enter Tryz.func49, Tryz.ntmps49
        go_wp2_with (first | (go_at_call 59; refine (unhide CC).mono ?_; rintro e w' ⟨rfl, rfl⟩) | (go_at_call 60; refine (unhide SC).mono ?_; rintro e w' ⟨rfl, rfl⟩))
        go_ret
        exact ⟨by rw [unhide E]; rfl, rfl⟩
      | false =>
        rw [hs] at SC EF
        have hlt : p.size < q.size := by omega
        go_enter Tryz.func49, Tryz.ntmps49
        go_wp2_with (first | (go_at_call 59; refine (unhide CC).mono ?_; rintro e w' ⟨rfl, rfl⟩) | (go_at_call 60; refine (unhide SC).mono ?_; rintro e w' ⟨rfl, rfl⟩))
        go_ret
        refine ⟨?_, rfl⟩
        rw [unhide EF, show (p.size == q.size) = false by simpa using h1, Bool.false_or, Bool.false_or, List.getElem?_eq_getElem (by rw [data_len]; exact hlt)]
        simp only [Array.getD_eq_getD_getElem?]
        exact congrArg (fun b => Ending.returned (Value.bool b)) (byte_at q p.size hlt _)
theorem sufB_at (p : ByteArray) (h : p.size - 1 < p.size) : (((p[p.size - 1].toNat : Nat) : Int) == 47) = sufB p := by
  unfold sufB
  rw [List.getLast?_eq_getElem?, List.getElem?_eq_getElem (by rw [data_len]; exact h), byte47]
  simp only [data_len]
  rfl
set_option maxHeartbeats 2000000 in
theorem rfits_calls (p q : ByteArray) (hp : p.size ≤ maxLen) (hq : q.size ≤ maxLen) (w : World) : Calls Tryz.prog 41 #[.string p, .string q] w fun e w' => e = .returned (.bool (fitsL p.data.toList q.data.toList)) ∧ w' = w := by
  simp only [maxLen] at hp hq
  have h2 := preB_is q p
  have hnil : (⟨#[]⟩ : ByteArray).toList = [] := by rw [ByteArray.toList_eq]
  by_cases hle : p.size ≤ q.size
  · have i1 : (p.size : Int) ≤ (q.size : Int) := by omega
    have i2 : ¬ (q.size : Int) < (p.size : Int) := by omega
    cases h : preB q p with
    | false =>
      rw [h] at h2
      have E := hide (show fitsL p.data.toList q.data.toList = false by unfold fitsL; rw [show p.data.toList.isPrefixOf q.data.toList = false from h]; rfl)
      clear h
      go_enter Tryz.func41, Tryz.ntmps41
      go_wp2
      go_ret
      exact ⟨by rw [unhide E]; rfl, rfl⟩
    | true =>
      rw [h] at h2
      have EF := hide (show fitsL p.data.toList q.data.toList = (p.size == q.size || sufB p || q.data.toList[p.size]? == some 47) by unfold fitsL; rw [show p.data.toList.isPrefixOf q.data.toList = true from h, data_len, data_len]; rfl)
      clear h
      by_cases h1 : p.size = q.size
      · have i3 : (q.size : Int) = (p.size : Int) := by omega
        have E := hide (show fitsL p.data.toList q.data.toList = true by rw [unhide EF, h1]; simp)
        clear h1 hle
        go_enter Tryz.func41, Tryz.ntmps41
        go_wp2
        go_ret
        exact ⟨by rw [unhide E]; rfl, rfl⟩
      · have i3 : ¬ (q.size : Int) = (p.size : Int) := by omega
        have i4 : (p.size : Int) < (q.size : Int) := by omega
        have hlt : p.size < q.size := by omega
        have EI := hide (show fitsL p.data.toList q.data.toList = (sufB p || (((q[p.size].toNat : Nat) : Int) == 47)) by rw [unhide EF, show (p.size == q.size) = false by simpa using h1, Bool.false_or, List.getElem?_eq_getElem (by rw [data_len]; exact hlt), byte47]; rfl)
        clear h1 hle EF
        cases hb : (((q[p.size].toNat : Nat) : Int) == 47) with
        | true =>
          have E := hide (show fitsL p.data.toList q.data.toList = true by rw [unhide EI, hb, Bool.or_true])
          go_enter Tryz.func41, Tryz.ntmps41
          go_wp2
          go_ret
          exact ⟨by rw [unhide E]; rfl, rfl⟩
        | false =>
          have E := hide (show fitsL p.data.toList q.data.toList = sufB p by rw [unhide EI, hb, Bool.or_false])
          by_cases hp0 : p.size = 0
          · have hz0 : (p.toList == []) = true := by
              rw [ByteArray.toList_eq, beq_iff_eq]
              exact List.eq_nil_of_length_eq_zero (by rw [data_len]; exact hp0)
            have hs : sufB p = false := by
              have : p.data.toList = [] := List.eq_nil_of_length_eq_zero (by rw [data_len]; omega)
              unfold sufB
              rw [this]
              rfl
            rw [hs] at E
            clear hp0 hs EI
            go_enter Tryz.func41, Tryz.ntmps41
            go_wp2
            go_ret
            exact ⟨by rw [unhide E]; rfl, rfl⟩
          · have hz0 : (p.toList == []) = false := by
              rw [ByteArray.toList_eq, beq_eq_false_iff_ne]
              intro e
              have := congrArg List.length e
              rw [data_len] at this
              exact hp0 this
            have h3 : IntKind.i64.wrap ((p.size : Int) - 1) = ((p.size - 1 : Nat) : Int) := by rw [IntKind.wrap_i64]; omega
            have h4 : ((p.size - 1 : Nat) : Int) = (p.size : Int) - 1 := by omega
            have h5 : ((p.size : Int) - 1).toNat = p.size - 1 := by omega
            have h6 : (0 : Int) ≤ (p.size : Int) - 1 := by omega
            have h7 : p.size - 1 < p.size := by omega
            have h8 := sufB_at p h7
            clear hp0 EI
            go_enter Tryz.func41, Tryz.ntmps41
            go_wp2
            go_ret
            exact ⟨by rw [unhide E, ← h8]; rfl, rfl⟩
  · have i1 : (q.size : Int) < (p.size : Int) := by omega
    have E := hide (show fitsL p.data.toList q.data.toList = false by unfold fitsL; rw [show p.data.toList.isPrefixOf q.data.toList = false from preB_no q p hle]; rfl)
    clear hle h2
    go_enter Tryz.func41, Tryz.ntmps41
    go_wp2
    go_ret
    exact ⟨by rw [unhide E]; rfl, rfl⟩
end Go.Proofs.YtcmiappiocfbiaaGreatDoor
