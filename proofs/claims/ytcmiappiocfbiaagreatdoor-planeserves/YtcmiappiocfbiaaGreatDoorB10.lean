/- Heads: a request's target, and its line. -/
import Derived.Test.YtcmiappiocfbiaaGreatDoorB09
namespace Go.Proofs.YtcmiappiocfbiaaGreatDoor
open Go.ChangeShapes Go.WideShapes Go.ChangeAt Go.RowKit Go.Lib
set_option linter.unusedVariables false

def hdV (m p q h : Tx) : Value := .agg #[.string (stS m), .string (stS p), .string (stS q), .string (stS h), .slice none 0 0]
/-- What is told of a target, whatever it is worth. -/
def targetV (t : Tx) (v : Value) : Prop := match targetL t with
  | some (p, q, h) => v = .tuple #[hdV [] p q h, .bool true]
  | none => ∃ p q h, v = .tuple #[hdV [] p q h, .bool false]
def pathOf (far : Tx) : Tx := match (cutL [47] far).2 with | none => [47] | some b => 47 :: b
theorem targetL_0 {t : Tx} (h : isQueryL (behindL [63] t) = false) : targetL t = none := by unfold targetL; rw [h]; rfl
theorem targetL_1 {t : Tx} (h : isQueryL (behindL [63] t) = true) (hp : httpL.isPrefixOf (cutL [63] t).1 = false) : targetL t = if isPathL (cutL [63] t).1 then some ((cutL [63] t).1, behindL [63] t, []) else none := by
  unfold targetL; rw [h, hp]; rfl
theorem targetL_2 {t : Tx} (h : isQueryL (behindL [63] t) = true) (hp : httpL.isPrefixOf (cutL [63] t).1 = true) : targetL t = match hostL (cutL [47] ((cutL [63] t).1.drop 7)).1 with
    | none => none
    | some x => if isPathL (pathOf ((cutL [63] t).1.drop 7)) then some (pathOf ((cutL [63] t).1.drop 7), behindL [63] t, x) else none := by
  unfold targetL; rw [h, hp]; rfl
theorem nilS_is : stS [] = ⟨#[]⟩ := rfl
set_option maxRecDepth 20000 in
set_option maxHeartbeats 8000000 in
theorem readTarget_calls (s : ByteArray) (hs : s.size ≤ 4096) (w : World) : Calls Tryz.prog 78 #[.string s] w fun e w' => (∃ v, e = .returned v ∧ targetV s.data.toList v) ∧ Below w.heap.size w w' := by
  have CC := hide (fun W => cut1_calls s 63 (by simp [maxLen]; omega) W)
  have hl1 : (cutL [63] s.data.toList).1.length ≤ s.size := by have := @cutL_len [63] s.data.toList; simpa using this
  have hl2 : (behindL [63] s.data.toList).length ≤ s.size := by have := @behindL_len [63] s.data.toList; simpa using this
  unfold cutV1 at CC
  have R0 := hide (RC.new w 58 #[.string ⟨#[]⟩, .string ⟨#[]⟩, .string ⟨#[]⟩, .string ⟨#[]⟩, .slice none 0 0])
  have QC := hide (fun W => isQuery_calls (stS (behindL [63] s.data.toList)) (by simp [maxLen, stS_size]; omega) W)
  rw [stS_list] at QC
  cases hq : isQueryL (behindL [63] s.data.toList) with
  | false =>
    have T := hide (show ∀ v, targetV s.data.toList v ↔ ∃ p q h, v = .tuple #[hdV [] p q h, .bool false] from fun v => by unfold targetV; rw [targetL_0 hq])
    generalize stS (cutL [63] s.data.toList).1 = sa at *
    generalize stS (behindL [63] s.data.toList) = sb at *
    generalize (cutL [63] s.data.toList).2.isSome = d at *
    clear hs hl1 hl2
    go_enter Tryz.func78, Tryz.ntmps78
    go_wp2_with (first
      | (go_at_call 66; refine (unhide CC _).mono ?_; rintro e W1 ⟨rfl, hb1⟩; have R1 := hide ((unhide R0).later hb1))
      | (go_at_call 86; refine (unhide QC _).mono ?_; rintro e W2 ⟨rfl, hb2⟩; rw [hq]; have R2 := hide ((unhide R1).later hb2)
         have z0 := (unhide R2).cell 0 _ rfl
         have z1 := (unhide R2).cell 1 _ rfl
         have z2 := (unhide R2).cell 2 _ rfl
         have z3 := (unhide R2).cell 3 _ rfl
         have z4 := (unhide R2).cell 4 _ rfl
         have f0 := (unhide R2).froz 0
         have f1 := (unhide R2).froz 1
         have f2 := (unhide R2).froz 2
         have f3 := (unhide R2).froz 3
         have f4 := (unhide R2).froz 4))
    have R9 := (unhide R2).set5 (.string ⟨#[]⟩) (.string ⟨#[]⟩) (.string ⟨#[]⟩) (.string ⟨#[]⟩) (.slice none 0 0)
    have g0 := R9.cell 0 _ rfl
    have g1 := R9.cell 1 _ rfl
    have g2 := R9.cell 2 _ rfl
    have g3 := R9.cell 3 _ rfl
    have g4 := R9.cell 4 _ rfl
    refine bodyPost_ret (v := .tuple #[hdV [] [] [] [], .bool false]) ?_ rfl ⟨⟨_, rfl, (unhide T _).2 ⟨_, _, _, rfl⟩⟩, R9.bel⟩
    rw [results_cell_tmp rfl]
    go_simp
    rfl
  | true =>
    have PC := hide (fun W => Tryz.strings_CutPrefix (stS (cutL [63] s.data.toList).1) ⟨#[104, 116, 116, 112, 58, 47, 47]⟩ W)
    cases hp : httpL.isPrefixOf (cutL [63] s.data.toList).1 with
    | false =>
      have hp2 : Lib.hasPrefix (stS (cutL [63] s.data.toList).1).data.toList (⟨#[104, 116, 116, 112, 58, 47, 47]⟩ : ByteArray).data.toList = false := hp
      rw [hp2] at PC
      have IC := hide (fun W => isPath_calls (stS (cutL [63] s.data.toList).1) (by simp [maxLen, stS_size]; omega) W)
      rw [stS_list] at IC
      have T := hide (show ∀ v, v = .tuple #[hdV [] (cutL [63] s.data.toList).1 (behindL [63] s.data.toList) [], .bool (isPathL (cutL [63] s.data.toList).1)] → targetV s.data.toList v from fun v hv => by
        unfold targetV; rw [targetL_1 hq hp]
        cases h : isPathL (cutL [63] s.data.toList).1 with
        | true => rw [h] at hv; exact hv
        | false => rw [h] at hv; exact ⟨_, _, _, hv⟩)
      unfold hdV at T
      rw [nilS_is] at T
      generalize stS (cutL [63] s.data.toList).1 = sa at *
      generalize stS (behindL [63] s.data.toList) = sb at *
      generalize (cutL [63] s.data.toList).2.isSome = d at *
      generalize isPathL (cutL [63] s.data.toList).1 = ok at *
      generalize (⟨(Lib.trimPrefix sa.data.toList (⟨#[104, 116, 116, 112, 58, 47, 47]⟩ : ByteArray).data.toList).toArray⟩ : ByteArray) = far at *
      clear hs hl1 hl2 hp hp2
      go_enter Tryz.func78, Tryz.ntmps78
      go_wp2_with (first
        | (go_at_call 66; refine (unhide CC _).mono ?_; rintro e W1 ⟨rfl, hb1⟩; have R1 := hide ((unhide R0).later hb1))
        | (go_at_call 86; refine (unhide QC _).mono ?_; rintro e W2 ⟨rfl, hb2⟩; rw [hq]; have R2 := hide ((unhide R1).later hb2))
        | (go_at_call 59; refine (unhide PC _).mono ?_; rintro e W3 ⟨rfl, hw⟩; rw [hw]; clear hw W3)
        | (go_at_call 87; refine (unhide IC _).mono ?_; rintro e W4 ⟨rfl, hb4⟩; have R2 := hide ((unhide R2).later hb4)
           have z0 := (unhide R2).cell 0 _ rfl
           have z1 := (unhide R2).cell 1 _ rfl
           have z2 := (unhide R2).cell 2 _ rfl
           have z3 := (unhide R2).cell 3 _ rfl
           have z4 := (unhide R2).cell 4 _ rfl
           have f0 := (unhide R2).froz 0
           have f1 := (unhide R2).froz 1
           have f2 := (unhide R2).froz 2
           have f3 := (unhide R2).froz 3
           have f4 := (unhide R2).froz 4))
      have R9 := (unhide R2).set5 (.string ⟨#[]⟩) (.string sa) (.string sb) (.string ⟨#[]⟩) (.slice none 0 0)
      have g0 := R9.cell 0 _ rfl
      have g1 := R9.cell 1 _ rfl
      have g2 := R9.cell 2 _ rfl
      have g3 := R9.cell 3 _ rfl
      have g4 := R9.cell 4 _ rfl
      refine bodyPost_ret (v := .tuple #[.agg #[.string ⟨#[]⟩, .string sa, .string sb, .string ⟨#[]⟩, .slice none 0 0], .bool ok]) ?_ rfl ⟨⟨_, rfl, unhide T _ rfl⟩, R9.bel⟩
      rw [results_cell_tmp rfl]
      go_simp
      try rfl
    | true =>
      have hp2 : Lib.hasPrefix (stS (cutL [63] s.data.toList).1).data.toList (⟨#[104, 116, 116, 112, 58, 47, 47]⟩ : ByteArray).data.toList = true := hp
      have hfar : Lib.trimPrefix (stS (cutL [63] s.data.toList).1).data.toList (⟨#[104, 116, 116, 112, 58, 47, 47]⟩ : ByteArray).data.toList = (cutL [63] s.data.toList).1.drop 7 := by
        unfold Lib.trimPrefix
        rw [hp2]; rfl
      rw [hp2, hfar] at PC
      have T0 := targetL_2 hq hp
      have hl3 : ((cutL [63] s.data.toList).1.drop 7).length ≤ 4096 := by rw [List.length_drop]; omega
      generalize (cutL [63] s.data.toList).1.drop 7 = far at *
      have XC := hide (fun W => Tryz.strings_Index_one (stS far) 47 W)
      rw [stS_list, idxByte_cut] at XC
      have PCC := hide (show ∀ W, Calls Tryz.prog 59 #[.string (stS (cutL [63] s.data.toList).1), .string ⟨#[104, 116, 116, 112, 58, 47, 47]⟩] W fun e w' => e = .returned (.tuple #[.string (stS far), .bool true]) ∧ w' = W from unhide PC)
      have hl4 : (cutL [47] far).1.length ≤ far.length := cutL_len
      have HC := hide (fun W => host_calls (stS (cutL [47] far).1) (by simp [maxLen, stS_size]; omega) W)
      rw [stS_list] at HC
      have hpl : (pathOf far).length ≤ 4097 := by
        unfold pathOf
        cases h : (cutL [47] far).2 with
        | none => simp
        | some b => have := congrArg List.length (cutL_some h); simp at this; simp; omega
      have IC := hide (fun W => isPath_calls (stS (pathOf far)) (by simp [maxLen, stS_size]; omega) W)
      rw [stS_list] at IC
      have HQ := hide hq
      clear PC hp hp2 hfar hl2 hq
      have hsl : Hid (match (cutL [47] far).2 with
        | none => stS (cutL [47] far).1 = stS far ∧ stS (pathOf far) = ⟨#[47]⟩
        | some b => (stS far).extract 0 (cutL [47] far).1.length = stS (cutL [47] far).1 ∧ (stS far).extract (cutL [47] far).1.length far.length = stS (pathOf far)) := by
        cases h : (cutL [47] far).2 with
        | none => exact ⟨by rw [cutL_none h], by unfold pathOf; rw [h]; rfl⟩
        | some b =>
          have hb := cutL_some h
          refine ⟨?_, ?_⟩
          · rw [← stS_self ((stS far).extract 0 _)]; congr 1
            simp [ByteArray.data_extract]
            rw [stS_list]
            generalize (cutL [47] far).1 = a at *
            rw [hb]; simp
          · rw [← stS_self ((stS far).extract _ _)]; congr 1
            have e := ext_drop (stS far) (cutL [47] far).1.length
            rw [stS_size, stS_list] at e
            rw [e]; unfold pathOf; rw [h]
            generalize (cutL [47] far).1 = a at *
            rw [hb]; simp
      generalize hpp : isPathL (pathOf far) = okp at *
      generalize hsp : stS (pathOf far) = sp at *
      cases hc : (cutL [47] far).2 with
      | none =>
        rw [hc] at XC hsl
        obtain ⟨e1, e2⟩ := unhide hsl
        rw [e1] at HC
        subst e2
        cases hh : hostL (cutL [47] far).1 with
        | none =>
          have T := hide (show ∀ v, (∃ p q h, v = .tuple #[hdV [] p q h, .bool false]) → targetV s.data.toList v from fun v hv => by unfold targetV; rw [T0, hh]; exact hv)
          rw [show hostV (cutL [47] far).1 = .tuple #[.string ⟨#[]⟩, .bool false] by unfold hostV; rw [hh]] at HC
          have hpo := hide (show ∃ p, (⟨#[47]⟩ : ByteArray) = stS p from ⟨_, (show stS [47] = ⟨#[47]⟩ from rfl).symm⟩)
          have hqo := hide (show ∃ q, stS (behindL [63] s.data.toList) = stS q from ⟨_, rfl⟩)
          clear T0 hh hpp
          generalize stS (cutL [63] s.data.toList).1 = sa at *
          generalize stS (behindL [63] s.data.toList) = sb at *
          generalize (cutL [63] s.data.toList).2.isSome = d at *
          generalize stS far = sf at *
          go_enter Tryz.func78, Tryz.ntmps78
          go_wp2_with (first
            | (go_at_call 66; refine (unhide CC _).mono ?_; rintro e W1 ⟨rfl, hb1⟩; have R1 := hide ((unhide R0).later hb1))
            | (go_at_call 86; refine (unhide QC _).mono ?_; rintro e W2 ⟨rfl, hb2⟩; rw [unhide HQ]; have R2 := hide ((unhide R1).later hb2))
            | (go_at_call 59; refine (unhide PCC _).mono ?_; rintro e W3 ⟨rfl, hw⟩; rw [hw]; clear hw W3)
            | (go_at_call 88; refine (unhide XC _).mono ?_; rintro e W3 ⟨rfl, hw⟩; rw [hw]; clear hw W3)
            | (go_at_call 83; refine (unhide HC _).mono ?_; rintro e W5 ⟨rfl, hb5⟩; have R2 := hide ((unhide R2).later hb5)
               have z0 := (unhide R2).cell 0 _ rfl
               have z1 := (unhide R2).cell 1 _ rfl
               have z2 := (unhide R2).cell 2 _ rfl
               have z3 := (unhide R2).cell 3 _ rfl
               have z4 := (unhide R2).cell 4 _ rfl
               have f0 := (unhide R2).froz 0
               have f1 := (unhide R2).froz 1
               have f2 := (unhide R2).froz 2
               have f3 := (unhide R2).froz 3
               have f4 := (unhide R2).froz 4)
            | (go_at_call 87; refine (unhide IC _).mono ?_; rintro e W6 ⟨rfl, hb6⟩; have R2 := hide ((unhide R2).later hb6)
               have z0 := (unhide R2).cell 0 _ rfl
               have z1 := (unhide R2).cell 1 _ rfl
               have z2 := (unhide R2).cell 2 _ rfl
               have z3 := (unhide R2).cell 3 _ rfl
               have z4 := (unhide R2).cell 4 _ rfl
               have f0 := (unhide R2).froz 0
               have f1 := (unhide R2).froz 1
               have f2 := (unhide R2).froz 2
               have f3 := (unhide R2).froz 3
               have f4 := (unhide R2).froz 4))
          have R9 := (unhide R2).set5 (.string ⟨#[]⟩) (.string ⟨#[47]⟩) (.string sb) (.string ⟨#[]⟩) (.slice none 0 0)
          have g0 := R9.cell 0 _ rfl
          have g1 := R9.cell 1 _ rfl
          have g2 := R9.cell 2 _ rfl
          have g3 := R9.cell 3 _ rfl
          have g4 := R9.cell 4 _ rfl
          obtain ⟨po, hpo⟩ := unhide hpo
          obtain ⟨qo, hqo⟩ := unhide hqo
          refine bodyPost_ret (v := .tuple #[.agg #[.string ⟨#[]⟩, .string ⟨#[47]⟩, .string sb, .string ⟨#[]⟩, .slice none 0 0], .bool false]) ?_ rfl ⟨⟨_, rfl, unhide T _ ⟨po, qo, [], by unfold hdV; rw [← hpo, ← hqo]; rfl⟩⟩, R9.bel⟩
          rw [results_cell_tmp rfl]
          go_simp
          try rfl
        | some x =>
          have T := hide (show ∀ v, v = .tuple #[hdV [] (pathOf far) (behindL [63] s.data.toList) x, .bool okp] → targetV s.data.toList v from fun v hv => by
            unfold targetV; rw [T0, hh]
            cases okp with
            | true => simp only [if_true]; exact hv
            | false => simp only; exact ⟨_, _, _, hv⟩)
          rw [show hostV (cutL [47] far).1 = .tuple #[.string (stS x), .bool true] by unfold hostV; rw [hh]] at HC
          unfold hdV at T
          rw [nilS_is, hsp] at T
          generalize stS x = sx at *
          clear T0 hh hpp
          generalize stS (cutL [63] s.data.toList).1 = sa at *
          generalize stS (behindL [63] s.data.toList) = sb at *
          generalize (cutL [63] s.data.toList).2.isSome = d at *
          generalize stS far = sf at *
          go_enter Tryz.func78, Tryz.ntmps78
          go_wp2_with (first
            | (go_at_call 66; refine (unhide CC _).mono ?_; rintro e W1 ⟨rfl, hb1⟩; have R1 := hide ((unhide R0).later hb1))
            | (go_at_call 86; refine (unhide QC _).mono ?_; rintro e W2 ⟨rfl, hb2⟩; rw [unhide HQ]; have R2 := hide ((unhide R1).later hb2))
            | (go_at_call 59; refine (unhide PCC _).mono ?_; rintro e W3 ⟨rfl, hw⟩; rw [hw]; clear hw W3)
            | (go_at_call 88; refine (unhide XC _).mono ?_; rintro e W3 ⟨rfl, hw⟩; rw [hw]; clear hw W3)
            | (go_at_call 83; refine (unhide HC _).mono ?_; rintro e W5 ⟨rfl, hb5⟩; have R2 := hide ((unhide R2).later hb5)
               have z0 := (unhide R2).cell 0 _ rfl
               have z1 := (unhide R2).cell 1 _ rfl
               have z2 := (unhide R2).cell 2 _ rfl
               have z3 := (unhide R2).cell 3 _ rfl
               have z4 := (unhide R2).cell 4 _ rfl
               have f0 := (unhide R2).froz 0
               have f1 := (unhide R2).froz 1
               have f2 := (unhide R2).froz 2
               have f3 := (unhide R2).froz 3
               have f4 := (unhide R2).froz 4)
            | (go_at_call 87; refine (unhide IC _).mono ?_; rintro e W6 ⟨rfl, hb6⟩; have R2 := hide ((unhide R2).later hb6)
               have z0 := (unhide R2).cell 0 _ rfl
               have z1 := (unhide R2).cell 1 _ rfl
               have z2 := (unhide R2).cell 2 _ rfl
               have z3 := (unhide R2).cell 3 _ rfl
               have z4 := (unhide R2).cell 4 _ rfl
               have f0 := (unhide R2).froz 0
               have f1 := (unhide R2).froz 1
               have f2 := (unhide R2).froz 2
               have f3 := (unhide R2).froz 3
               have f4 := (unhide R2).froz 4))
          have R9 := (unhide R2).set5 (.string ⟨#[]⟩) (.string ⟨#[47]⟩) (.string sb) (.string sx) (.slice none 0 0)
          have g0 := R9.cell 0 _ rfl
          have g1 := R9.cell 1 _ rfl
          have g2 := R9.cell 2 _ rfl
          have g3 := R9.cell 3 _ rfl
          have g4 := R9.cell 4 _ rfl
          refine bodyPost_ret (v := .tuple #[.agg #[.string ⟨#[]⟩, .string ⟨#[47]⟩, .string sb, .string sx, .slice none 0 0], .bool okp]) ?_ rfl ⟨⟨_, rfl, unhide T _ rfl⟩, R9.bel⟩
          rw [results_cell_tmp rfl]
          go_simp
          try rfl
      | some b =>
        rw [hc] at XC hsl
        obtain ⟨e1, e2⟩ := unhide hsl
        have e3 : ((cutL [47] far).1.length : Int) ≤ (far.length : Int) := by omega
        have e4 : (stS far).size = far.length := rfl
        generalize hn : (cutL [47] far).1.length = n at *
        have hs1 : ∀ W, (Instr.sliceAt 9 (.string (stS far)) none (some (.int .i64 (n : Int))) none).run Tryz.prog W = .ok (.string (stS (cutL [47] far).1)) W := fun W => by
          rw [run_sliceAt_string _ _ _ _ _ _ Tryz.underlying9, run_slice_string_h _ _ _ Tryz.underlying9 _ _ (by omega) (by rw [e4]; omega), Int.toNat_natCast, e1]
        have hs2 : ∀ W, (Instr.sliceAt 9 (.string (stS far)) (some (.int .i64 (n : Int))) none none).run Tryz.prog W = .ok (.string sp) W := fun W => by
          rw [run_sliceAt_string _ _ _ _ _ _ Tryz.underlying9, run_slice_string_l _ _ _ Tryz.underlying9 _ _ (by omega) (by rw [e4]; omega), Int.toNat_natCast, e4, e2]
        clear e1 e2 e3 e4
        cases hh : hostL (cutL [47] far).1 with
        | none =>
          have T := hide (show ∀ v, (∃ p q h, v = .tuple #[hdV [] p q h, .bool false]) → targetV s.data.toList v from fun v hv => by unfold targetV; rw [T0, hh]; exact hv)
          rw [show hostV (cutL [47] far).1 = .tuple #[.string ⟨#[]⟩, .bool false] by unfold hostV; rw [hh]] at HC
          have hpo := hide (show ∃ p, sp = stS p from ⟨_, (stS_self sp).symm⟩)
          have hqo := hide (show ∃ q, stS (behindL [63] s.data.toList) = stS q from ⟨_, rfl⟩)
          clear T0 hh hpp
          generalize stS (cutL [47] far).1 = st at *
          generalize stS (cutL [63] s.data.toList).1 = sa at *
          generalize stS (behindL [63] s.data.toList) = sb at *
          generalize (cutL [63] s.data.toList).2.isSome = d at *
          generalize stS far = sf at *
          go_enter Tryz.func78, Tryz.ntmps78
          go_wp2_with (first
            | (go_at_call 66; refine (unhide CC _).mono ?_; rintro e W1 ⟨rfl, hb1⟩; have R1 := hide ((unhide R0).later hb1))
            | (go_at_call 86; refine (unhide QC _).mono ?_; rintro e W2 ⟨rfl, hb2⟩; rw [unhide HQ]; have R2 := hide ((unhide R1).later hb2))
            | (go_at_call 59; refine (unhide PCC _).mono ?_; rintro e W3 ⟨rfl, hw⟩; rw [hw]; clear hw W3)
            | (go_at_call 88; refine (unhide XC _).mono ?_; rintro e W3 ⟨rfl, hw⟩; rw [hw]; clear hw W3)
            | (go_at_call 83; refine (unhide HC _).mono ?_; rintro e W5 ⟨rfl, hb5⟩; have R2 := hide ((unhide R2).later hb5)
               have z0 := (unhide R2).cell 0 _ rfl
               have z1 := (unhide R2).cell 1 _ rfl
               have z2 := (unhide R2).cell 2 _ rfl
               have z3 := (unhide R2).cell 3 _ rfl
               have z4 := (unhide R2).cell 4 _ rfl
               have f0 := (unhide R2).froz 0
               have f1 := (unhide R2).froz 1
               have f2 := (unhide R2).froz 2
               have f3 := (unhide R2).froz 3
               have f4 := (unhide R2).froz 4)
            | (go_at_call 87; refine (unhide IC _).mono ?_; rintro e W6 ⟨rfl, hb6⟩; have R2 := hide ((unhide R2).later hb6)
               have z0 := (unhide R2).cell 0 _ rfl
               have z1 := (unhide R2).cell 1 _ rfl
               have z2 := (unhide R2).cell 2 _ rfl
               have z3 := (unhide R2).cell 3 _ rfl
               have z4 := (unhide R2).cell 4 _ rfl
               have f0 := (unhide R2).froz 0
               have f1 := (unhide R2).froz 1
               have f2 := (unhide R2).froz 2
               have f3 := (unhide R2).froz 3
               have f4 := (unhide R2).froz 4))
          go_region_held3 (fun w' => True) (trivial) (fail)
          have R2 := hide ((unhide R2).later (show Below W2.heap.size W2 W2.drew from (Below.refl _ _).drew))
          go_wp2_with (first
            | (go_at_call 66; refine (unhide CC _).mono ?_; rintro e W1 ⟨rfl, hb1⟩; have R1 := hide ((unhide R0).later hb1))
            | (go_at_call 86; refine (unhide QC _).mono ?_; rintro e W2 ⟨rfl, hb2⟩; rw [unhide HQ]; have R2 := hide ((unhide R1).later hb2))
            | (go_at_call 59; refine (unhide PCC _).mono ?_; rintro e W3 ⟨rfl, hw⟩; rw [hw]; clear hw W3)
            | (go_at_call 88; refine (unhide XC _).mono ?_; rintro e W3 ⟨rfl, hw⟩; rw [hw]; clear hw W3)
            | (go_at_call 83; refine (unhide HC _).mono ?_; rintro e W5 ⟨rfl, hb5⟩; have R2 := hide ((unhide R2).later hb5)
               have z0 := (unhide R2).cell 0 _ rfl
               have z1 := (unhide R2).cell 1 _ rfl
               have z2 := (unhide R2).cell 2 _ rfl
               have z3 := (unhide R2).cell 3 _ rfl
               have z4 := (unhide R2).cell 4 _ rfl
               have f0 := (unhide R2).froz 0
               have f1 := (unhide R2).froz 1
               have f2 := (unhide R2).froz 2
               have f3 := (unhide R2).froz 3
               have f4 := (unhide R2).froz 4)
            | (go_at_call 87; refine (unhide IC _).mono ?_; rintro e W6 ⟨rfl, hb6⟩; have R2 := hide ((unhide R2).later hb6)
               have z0 := (unhide R2).cell 0 _ rfl
               have z1 := (unhide R2).cell 1 _ rfl
               have z2 := (unhide R2).cell 2 _ rfl
               have z3 := (unhide R2).cell 3 _ rfl
               have z4 := (unhide R2).cell 4 _ rfl
               have f0 := (unhide R2).froz 0
               have f1 := (unhide R2).froz 1
               have f2 := (unhide R2).froz 2
               have f3 := (unhide R2).froz 3
               have f4 := (unhide R2).froz 4))
          have R9 := (unhide R2).set5 (.string ⟨#[]⟩) (.string sp) (.string sb) (.string ⟨#[]⟩) (.slice none 0 0)
          have g0 := R9.cell 0 _ rfl
          have g1 := R9.cell 1 _ rfl
          have g2 := R9.cell 2 _ rfl
          have g3 := R9.cell 3 _ rfl
          have g4 := R9.cell 4 _ rfl
          obtain ⟨po, hpo⟩ := unhide hpo
          obtain ⟨qo, hqo⟩ := unhide hqo
          refine bodyPost_ret (v := .tuple #[.agg #[.string ⟨#[]⟩, .string sp, .string sb, .string ⟨#[]⟩, .slice none 0 0], .bool false]) ?_ rfl ⟨⟨_, rfl, unhide T _ ⟨po, qo, [], by unfold hdV; rw [← hpo, ← hqo]; rfl⟩⟩, R9.bel⟩
          rw [results_cell_tmp rfl]
          go_simp
          try rfl
        | some x =>
          have T := hide (show ∀ v, v = .tuple #[hdV [] (pathOf far) (behindL [63] s.data.toList) x, .bool okp] → targetV s.data.toList v from fun v hv => by
            unfold targetV; rw [T0, hh]
            cases okp with
            | true => simp only [if_true]; exact hv
            | false => simp only; exact ⟨_, _, _, hv⟩)
          rw [show hostV (cutL [47] far).1 = .tuple #[.string (stS x), .bool true] by unfold hostV; rw [hh]] at HC
          unfold hdV at T
          rw [nilS_is, hsp] at T
          generalize stS x = sx at *
          clear T0 hh hpp
          generalize stS (cutL [47] far).1 = st at *
          generalize stS (cutL [63] s.data.toList).1 = sa at *
          generalize stS (behindL [63] s.data.toList) = sb at *
          generalize (cutL [63] s.data.toList).2.isSome = d at *
          generalize stS far = sf at *
          go_enter Tryz.func78, Tryz.ntmps78
          go_wp2_with (first
            | (go_at_call 66; refine (unhide CC _).mono ?_; rintro e W1 ⟨rfl, hb1⟩; have R1 := hide ((unhide R0).later hb1))
            | (go_at_call 86; refine (unhide QC _).mono ?_; rintro e W2 ⟨rfl, hb2⟩; rw [unhide HQ]; have R2 := hide ((unhide R1).later hb2))
            | (go_at_call 59; refine (unhide PCC _).mono ?_; rintro e W3 ⟨rfl, hw⟩; rw [hw]; clear hw W3)
            | (go_at_call 88; refine (unhide XC _).mono ?_; rintro e W3 ⟨rfl, hw⟩; rw [hw]; clear hw W3)
            | (go_at_call 83; refine (unhide HC _).mono ?_; rintro e W5 ⟨rfl, hb5⟩; have R2 := hide ((unhide R2).later hb5)
               have z0 := (unhide R2).cell 0 _ rfl
               have z1 := (unhide R2).cell 1 _ rfl
               have z2 := (unhide R2).cell 2 _ rfl
               have z3 := (unhide R2).cell 3 _ rfl
               have z4 := (unhide R2).cell 4 _ rfl
               have f0 := (unhide R2).froz 0
               have f1 := (unhide R2).froz 1
               have f2 := (unhide R2).froz 2
               have f3 := (unhide R2).froz 3
               have f4 := (unhide R2).froz 4)
            | (go_at_call 87; refine (unhide IC _).mono ?_; rintro e W6 ⟨rfl, hb6⟩; have R2 := hide ((unhide R2).later hb6)
               have z0 := (unhide R2).cell 0 _ rfl
               have z1 := (unhide R2).cell 1 _ rfl
               have z2 := (unhide R2).cell 2 _ rfl
               have z3 := (unhide R2).cell 3 _ rfl
               have z4 := (unhide R2).cell 4 _ rfl
               have f0 := (unhide R2).froz 0
               have f1 := (unhide R2).froz 1
               have f2 := (unhide R2).froz 2
               have f3 := (unhide R2).froz 3
               have f4 := (unhide R2).froz 4))
          go_region_held3 (fun w' => True) (trivial) (fail)
          have R2 := hide ((unhide R2).later (show Below W2.heap.size W2 W2.drew from (Below.refl _ _).drew))
          go_wp2_with (first
            | (go_at_call 66; refine (unhide CC _).mono ?_; rintro e W1 ⟨rfl, hb1⟩; have R1 := hide ((unhide R0).later hb1))
            | (go_at_call 86; refine (unhide QC _).mono ?_; rintro e W2 ⟨rfl, hb2⟩; rw [unhide HQ]; have R2 := hide ((unhide R1).later hb2))
            | (go_at_call 59; refine (unhide PCC _).mono ?_; rintro e W3 ⟨rfl, hw⟩; rw [hw]; clear hw W3)
            | (go_at_call 88; refine (unhide XC _).mono ?_; rintro e W3 ⟨rfl, hw⟩; rw [hw]; clear hw W3)
            | (go_at_call 83; refine (unhide HC _).mono ?_; rintro e W5 ⟨rfl, hb5⟩; have R2 := hide ((unhide R2).later hb5)
               have z0 := (unhide R2).cell 0 _ rfl
               have z1 := (unhide R2).cell 1 _ rfl
               have z2 := (unhide R2).cell 2 _ rfl
               have z3 := (unhide R2).cell 3 _ rfl
               have z4 := (unhide R2).cell 4 _ rfl
               have f0 := (unhide R2).froz 0
               have f1 := (unhide R2).froz 1
               have f2 := (unhide R2).froz 2
               have f3 := (unhide R2).froz 3
               have f4 := (unhide R2).froz 4)
            | (go_at_call 87; refine (unhide IC _).mono ?_; rintro e W6 ⟨rfl, hb6⟩; have R2 := hide ((unhide R2).later hb6)
               have z0 := (unhide R2).cell 0 _ rfl
               have z1 := (unhide R2).cell 1 _ rfl
               have z2 := (unhide R2).cell 2 _ rfl
               have z3 := (unhide R2).cell 3 _ rfl
               have z4 := (unhide R2).cell 4 _ rfl
               have f0 := (unhide R2).froz 0
               have f1 := (unhide R2).froz 1
               have f2 := (unhide R2).froz 2
               have f3 := (unhide R2).froz 3
               have f4 := (unhide R2).froz 4))
          have R9 := (unhide R2).set5 (.string ⟨#[]⟩) (.string sp) (.string sb) (.string sx) (.slice none 0 0)
          have g0 := R9.cell 0 _ rfl
          have g1 := R9.cell 1 _ rfl
          have g2 := R9.cell 2 _ rfl
          have g3 := R9.cell 3 _ rfl
          have g4 := R9.cell 4 _ rfl
          refine bodyPost_ret (v := .tuple #[.agg #[.string ⟨#[]⟩, .string sp, .string sb, .string sx, .slice none 0 0], .bool okp]) ?_ rfl ⟨⟨_, rfl, unhide T _ rfl⟩, R9.bel⟩
          rw [results_cell_tmp rfl]
          go_simp
          try rfl
end Go.Proofs.YtcmiappiocfbiaaGreatDoor
