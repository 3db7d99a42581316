/- The document's heads: the first line (first). Written by wip/mkhr6.py. -/
import Derived.Test.YtcmiappiocfbiaaGreatDoorB23
import Derived.Test.YtcmiappiocfbiaaGreatDoorB10
import Derived.Test.YtcmiappiocfbiaaGreatDoorB21
import Derived.Test.YtcmiappiocfbiaaGreatDoorB12
section
namespace Go.Proofs.YtcmiappiocfbiaaGreatDoor
open Go.ChangeShapes Go.WideShapes Go.ChangeAt Go.RowKit
set_option linter.unusedVariables false

theorem behind_none {c : UInt8} {l : Tx} (h : (cutL [c] l).2.isSome = false) : behindL [c] l = [] := by
  unfold behindL
  cases hh : (cutL [c] l).2 with
  | none => rfl
  | some b => rw [hh] at h; cases h
def verOk (l : Tx) : Bool := isTokenL (cutL [32] l).1 && (behindL [32] (behindL [32] l) == versionL)
theorem ver_some {l : Tx} (h : verOk l = true) : (cutL [32] l).2.isSome = true ∧ (cutL [32] (behindL [32] l)).2.isSome = true := by
  have h1 := eq_of_beq (Bool.and_eq_true_iff.1 h).2
  have h2 : (cutL [32] (behindL [32] l)).2.isSome = true := by
    cases hc : (cutL [32] (behindL [32] l)).2.isSome with
    | true => rfl
    | false => rw [behind_none hc] at h1; cases h1
  refine ⟨?_, h2⟩
  cases hc : (cutL [32] l).2.isSome with
  | true => rfl
  | false => rw [behind_none hc] at h2; cases h2
theorem request_is (l : Tx) : requestL l = if verOk l then (targetL (cutL [32] (behindL [32] l)).1).map (fun r => ((cutL [32] l).1, r.1, r.2.1, r.2.2)) else none := by
  unfold requestL verOk
  cases targetL (cutL [32] (behindL [32] l)).1 with
  | none => simp
  | some r => obtain ⟨p, q, h⟩ := r; rfl
/-- How first ends. -/
def FirstEnd (r : Option (Tx × Tx × Tx × Tx)) (H : Nat) (e : Ending) (w' : World) : Prop := match r with
  | none => e = .returned (.bool false)
  | some (m, p, q, x) => e = .returned (.bool true) ∧ w'.heap[H]? = some (.cells #[.string (stS m), .string (stS p), .string (stS q), .string (stS x), .slice none 0 0] 58 (0, 0))
theorem first_no {l : Tx} {H : Nat} {w' : World} (h : requestL l = none) : FirstEnd (requestL l) H (.returned (.bool false)) w' := by rw [h]; rfl
theorem first_yes {l m p q x : Tx} {H : Nat} {w' : World} (h : requestL l = some (m, p, q, x)) (hr : w'.heap[H]? = some (.cells #[.string (stS m), .string (stS p), .string (stS q), .string (stS x), .slice none 0 0] 58 (0, 0))) : FirstEnd (requestL l) H (.returned (.bool true)) w' := by rw [h]; exact ⟨rfl, hr⟩
theorem ver_eqS (t : Tx) : ((stS t).toList == [72, 84, 84, 80, 47, 49, 46, 49]) = (t == versionL) := by rw [ByteArray.toList_eq, stS_list]; rfl
theorem slash_at (l : Tx) : l.drop (cutL [47] l).1.length = match (cutL [47] l).2 with | none => [] | some b => 47 :: b := by
  cases h : (cutL [47] l).2 with
  | none => rw [cutL_none h, List.drop_length]
  | some b =>
    have e := cutL_some h
    generalize (cutL [47] l).1 = a at *
    subst e
    rw [List.drop_left]
    rfl
theorem slash_take (l : Tx) : l.take (cutL [47] l).1.length = (cutL [47] l).1 := by
  cases h : (cutL [47] l).2 with
  | none => rw [cutL_none h, List.take_length]
  | some b =>
    have e := cutL_some h
    generalize (cutL [47] l).1 = a at *
    subst e
    rw [List.take_left]
theorem cut_not (c : UInt8) : ∀ (l : Tx), c ∉ (cutL [c] l).1
  | [] => by simp [cutL]
  | x :: t => by
    unfold cutL
    split
    · simp
    · rename_i h
      have hx : ¬ c = x := fun e => h (by simp [List.isPrefixOf, e])
      simp only [List.mem_cons, hx, false_or]
      exact cut_not c t
set_option maxRecDepth 20000 in
set_option maxHeartbeats 8000000 in
theorem firstR_calls (s : ByteArray) (hs : s.size ≤ 4096) (H : Nat) (w : World) (hH : w.heap[H]? = some (.cells #[.string ⟨#[]⟩, .string ⟨#[]⟩, .string ⟨#[]⟩, .string ⟨#[]⟩, .slice none 0 0] 58 (0, 0))) :
    Calls Tryz.prog 34 #[.string s, .pointer (some ⟨H, 0, none⟩)] w fun e w' => FirstEnd (requestL s.data.toList) H e w' ∧ Below H w w' := by
  have hHw := (Array.getElem?_eq_some_iff.1 hH).1
  have R0 := hide (show RC H w H 58 #[.string ⟨#[]⟩, .string ⟨#[]⟩, .string ⟨#[]⟩, .string ⟨#[]⟩, .slice none 0 0] w from ⟨hH, Nat.le_refl _, Nat.le_of_lt hHw, Below.refl _ _⟩)
  have hsl : s.data.toList.length = s.size := by simp
  have C1 := hide (cutR_calls s 32 (by omega) w)
  have RI := hide (request_is s.data.toList)
  have VS := hide (fun h => ver_some (l := s.data.toList) h)
  have VO := hide (show verOk s.data.toList = (isTokenL (cutL [32] s.data.toList).1 && (behindL [32] (behindL [32] s.data.toList) == versionL)) from rfl)
  have l1 := cutL_len (sep := [32]) (l := s.data.toList)
  have l2 := behindL_len (sep := [32]) (l := s.data.toList)
  have NO := hide (show ∀ W, requestL s.data.toList = none → FirstEnd (requestL s.data.toList) H (.returned (.bool false)) W from fun W h => first_no h)
  have YES := hide (show ∀ m p q x W, requestL s.data.toList = some (m, p, q, x) → W.heap[H]? = some (.cells #[.string (stS m), .string (stS p), .string (stS q), .string (stS x), .slice none 0 0] 58 (0, 0)) → FirstEnd (requestL s.data.toList) H (.returned (.bool true)) W from fun m p q x W h hr => first_yes h hr)
  unfold cutV1 at C1
  generalize hRQ : requestL s.data.toList = RQ at *
  generalize verOk s.data.toList = vo at *
  generalize (cutL [32] s.data.toList).1 = m at *
  generalize (cutL [32] s.data.toList).2.isSome = ok at *
  generalize behindL [32] s.data.toList = rest at *
  clear hRQ
  have C2 := hide (fun W => cutR_calls (stS rest) 32 (by rw [stS_size]; omega) W)
  rw [stS_list] at C2
  unfold cutV1 at C2
  have l3 := cutL_len (sep := [32]) (l := rest)
  have l4 := behindL_len (sep := [32]) (l := rest)
  generalize (cutL [32] rest).1 = t at *
  generalize (cutL [32] rest).2.isSome = is at *
  generalize behindL [32] rest = ver at *
  have TC := hide (fun W => tokenR_calls (stS m) (by rw [stS_size]; simp only [maxLen]; omega) W)
  rw [stS_list] at TC
  have hve := ver_eqS ver
  have hvz : (stS ver).size ≤ 9223372036854775807 := by rw [stS_size]; omega
  cases hvo : vo with
  | false =>
    subst hvo
    have NV := hide (fun W => unhide NO W (unhide RI))
    clear NO YES RI VS
    cases ok with
    | false =>
      go_enter Tryz.func34, Tryz.ntmps34
      go_wp2_with (first
        | (go_at_call 35; have hV : C1 = C1 := rfl; clear hV; refine (unhide C1).mono ?_; rintro e W1 ⟨rfl, hb1⟩; have R1 := hide ((unhide R0).later hb1); clear C1 hb1)
        | (go_at_call 35; refine (unhide C2 _).mono ?_; rintro e W2 ⟨rfl, hb2⟩; have R2 := hide ((unhide R1).later hb2); clear hb2))
      go_ret
      exact ⟨unhide NV _, (unhide R2).bel⟩
    | true =>
      cases is with
      | false =>
        go_enter Tryz.func34, Tryz.ntmps34
        go_wp2_with (first
          | (go_at_call 35; have hV : C1 = C1 := rfl; clear hV; refine (unhide C1).mono ?_; rintro e W1 ⟨rfl, hb1⟩; have R1 := hide ((unhide R0).later hb1); clear C1 hb1)
          | (go_at_call 35; refine (unhide C2 _).mono ?_; rintro e W2 ⟨rfl, hb2⟩; have R2 := hide ((unhide R1).later hb2); clear hb2))
        go_ret
        exact ⟨unhide NV _, (unhide R2).bel⟩
      | true =>
        cases htk : isTokenL m with
        | false =>
          rw [htk] at TC
          clear htk VO
          go_enter Tryz.func34, Tryz.ntmps34
          go_wp2_with (first
            | (go_at_call 35; have hV : C1 = C1 := rfl; clear hV; refine (unhide C1).mono ?_; rintro e W1 ⟨rfl, hb1⟩; have R1 := hide ((unhide R0).later hb1); clear C1 hb1)
            | (go_at_call 35; refine (unhide C2 _).mono ?_; rintro e W2 ⟨rfl, hb2⟩; have R2 := hide ((unhide R1).later hb2); clear hb2)
            | (go_at_call 37; refine (unhide TC _).mono ?_; rintro e W3 ⟨rfl, hb3⟩; rw [hb3]; clear hb3))
          go_ret
          exact ⟨unhide NV _, (unhide R2).bel⟩
        | true =>
          rw [htk] at TC VO
          rw [← show false = (ver == versionL) from unhide VO] at hve
          clear htk VO
          go_enter Tryz.func34, Tryz.ntmps34
          go_wp2_with (first
            | (go_at_call 35; have hV : C1 = C1 := rfl; clear hV; refine (unhide C1).mono ?_; rintro e W1 ⟨rfl, hb1⟩; have R1 := hide ((unhide R0).later hb1); clear C1 hb1)
            | (go_at_call 35; refine (unhide C2 _).mono ?_; rintro e W2 ⟨rfl, hb2⟩; have R2 := hide ((unhide R1).later hb2); clear hb2)
            | (go_at_call 37; refine (unhide TC _).mono ?_; rintro e W3 ⟨rfl, hb3⟩; rw [hb3]; clear hb3))
          go_ret
          exact ⟨unhide NV _, (unhide R2).bel⟩
  | true =>
    subst hvo
    obtain ⟨hok, his⟩ := unhide VS rfl
    subst hok his
    have hb := Bool.and_eq_true_iff.1 (unhide VO).symm
    rw [hb.1] at TC
    rw [hb.2] at hve
    clear hb VO VS
    have RI2 := hide (show RQ = (targetL t).map (fun r => (m, r.1, r.2.1, r.2.2)) from unhide RI)
    clear RI
    have C3 := hide (fun W => cutR_calls (stS t) 63 (by rw [stS_size]; omega) W)
    rw [stS_list] at C3
    unfold cutV1 at C3
    have l5 := cutL_len (sep := [63]) (l := t)
    have l6 := behindL_len (sep := [63]) (l := t)
    have T0 := hide (fun h => targetL_0 (t := t) h)
    have T1 := hide (fun h hp => targetL_1 (t := t) h hp)
    have T2 := hide (fun h hp => targetL_2 (t := t) h hp)
    generalize (cutL [63] t).1 = p at *
    generalize (cutL [63] t).2.isSome = qs at *
    generalize behindL [63] t = q at *
    have BC := hide (fun W => beginsR_calls (stS p) ⟨#[104, 116, 116, 112, 58, 47, 47]⟩ (by rw [stS_size]; omega) (show 7 ≤ 140737488355328 by omega) W)
    rw [stS_list, show begL (⟨#[104, 116, 116, 112, 58, 47, 47]⟩ : ByteArray).data.toList p = httpL.isPrefixOf p from rfl] at BC
    have QC := hide (fun W => queryR_calls (stS q) (by rw [stS_size]; omega) W)
    rw [stS_list] at QC
    cases hpre : httpL.isPrefixOf p with
    | false =>
      rw [hpre] at BC
      have PC := hide (fun W => pathR_calls (stS p) (by rw [stS_size]; omega) W)
      rw [stS_list] at PC
      have RF := hide (show RQ = if isPathL p && isQueryL q then some (m, p, q, []) else none by
        rw [unhide RI2]
        cases hq : isQueryL q with
        | false => rw [unhide T0 hq]; cases isPathL p <;> rfl
        | true => rw [unhide T1 hq hpre]; cases isPathL p <;> rfl)
      clear RI2 T0 T1 T2 hpre
      cases hbp : isPathL p with
      | false =>
        rw [hbp] at PC RF
        have NV := hide (fun W => unhide NO W (unhide RF))
        clear hbp NO YES RF
        go_enter Tryz.func34, Tryz.ntmps34
        go_wp2_with (first
          | (go_at_call 35; have hV : C1 = C1 := rfl; clear hV; refine (unhide C1).mono ?_; rintro e W1 ⟨rfl, hb1⟩; have R1 := hide ((unhide R0).later hb1); clear C1 hb1)
          | (go_at_call 35; have hV : C2 = C2 := rfl; clear hV; refine (unhide C2 _).mono ?_; rintro e W2 ⟨rfl, hb2⟩; have R2 := hide ((unhide R1).later hb2); clear hb2 C2
             have z0 := (unhide R2).cell 0 (.string ⟨#[]⟩) rfl
             have f0 := (unhide R2).froz 0
             have R3 := hide (show RC H w H 58 #[.string (stS m), .string ⟨#[]⟩, .string ⟨#[]⟩, .string ⟨#[]⟩, .slice none 0 0] (W2.setCell ⟨H, 0, none⟩ (.string (stS m))) from (unhide R2).set 0 (.string (stS m))))
          | (go_at_call 37; refine (unhide TC _).mono ?_; rintro e W3 ⟨rfl, hb3⟩; rw [hb3]; clear hb3)
          | (go_at_call 35; refine (unhide C3 _).mono ?_; rintro e W4 ⟨rfl, hb4⟩; have R4 := hide ((unhide R3).later hb4); clear hb4)
          | (go_at_call 52; refine (unhide BC _).mono ?_; rintro e W5 ⟨rfl, hb5⟩; rw [hb5]; clear hb5
             have z1 := (unhide R4).cell 1 (.string ⟨#[]⟩) rfl
             have f1 := (unhide R4).froz 1
             have R5 := hide (show RC H w H 58 #[.string (stS m), .string (stS p), .string ⟨#[]⟩, .string ⟨#[]⟩, .slice none 0 0] (W4.setCell ⟨H, 1, none⟩ (.string (stS p))) from (unhide R4).set 1 (.string (stS p)))
             have z2 := (unhide R5).cell 2 (.string ⟨#[]⟩) rfl
             have f2 := (unhide R5).froz 2
             have R6 := hide (show RC H w H 58 #[.string (stS m), .string (stS p), .string (stS q), .string ⟨#[]⟩, .slice none 0 0] ((W4.setCell ⟨H, 1, none⟩ (.string (stS p))).setCell ⟨H, 2, none⟩ (.string (stS q))) from (unhide R5).set 2 (.string (stS q))))
          | (go_at_call 53; refine (unhide PC _).mono ?_; rintro e W6 ⟨rfl, hb6⟩; rw [hb6]; clear hb6)
          | (go_at_call 54; refine (unhide QC _).mono ?_; rintro e W7 ⟨rfl, hb7⟩; rw [hb7]; clear hb7))
        go_ret
        exact ⟨unhide NV _, (unhide R6).bel⟩
      | true =>
        rw [hbp] at PC RF
        have NV := hide (show isQueryL q = false → ∀ W, FirstEnd RQ H (.returned (.bool false)) W from fun hq W => unhide NO W (by rw [unhide RF, hq]; rfl))
        have YV := hide (show isQueryL q = true → ∀ W, W.heap[H]? = some (.cells #[.string (stS m), .string (stS p), .string (stS q), .string (stS []), .slice none 0 0] 58 (0, 0)) → FirstEnd RQ H (.returned (.bool true)) W from fun hq W hr => unhide YES m p q [] W (by rw [unhide RF, hq]; rfl) hr)
        clear hbp NO YES RF
        cases hbq : isQueryL q with
        | false =>
          rw [hbq] at QC
          have NV2 := hide (unhide NV hbq)
          clear hbq NV YV
          go_enter Tryz.func34, Tryz.ntmps34
          go_wp2_with (first
            | (go_at_call 35; have hV : C1 = C1 := rfl; clear hV; refine (unhide C1).mono ?_; rintro e W1 ⟨rfl, hb1⟩; have R1 := hide ((unhide R0).later hb1); clear C1 hb1)
            | (go_at_call 35; have hV : C2 = C2 := rfl; clear hV; refine (unhide C2 _).mono ?_; rintro e W2 ⟨rfl, hb2⟩; have R2 := hide ((unhide R1).later hb2); clear hb2 C2
               have z0 := (unhide R2).cell 0 (.string ⟨#[]⟩) rfl
               have f0 := (unhide R2).froz 0
               have R3 := hide (show RC H w H 58 #[.string (stS m), .string ⟨#[]⟩, .string ⟨#[]⟩, .string ⟨#[]⟩, .slice none 0 0] (W2.setCell ⟨H, 0, none⟩ (.string (stS m))) from (unhide R2).set 0 (.string (stS m))))
            | (go_at_call 37; refine (unhide TC _).mono ?_; rintro e W3 ⟨rfl, hb3⟩; rw [hb3]; clear hb3)
            | (go_at_call 35; refine (unhide C3 _).mono ?_; rintro e W4 ⟨rfl, hb4⟩; have R4 := hide ((unhide R3).later hb4); clear hb4)
            | (go_at_call 52; refine (unhide BC _).mono ?_; rintro e W5 ⟨rfl, hb5⟩; rw [hb5]; clear hb5
               have z1 := (unhide R4).cell 1 (.string ⟨#[]⟩) rfl
               have f1 := (unhide R4).froz 1
               have R5 := hide (show RC H w H 58 #[.string (stS m), .string (stS p), .string ⟨#[]⟩, .string ⟨#[]⟩, .slice none 0 0] (W4.setCell ⟨H, 1, none⟩ (.string (stS p))) from (unhide R4).set 1 (.string (stS p)))
               have z2 := (unhide R5).cell 2 (.string ⟨#[]⟩) rfl
               have f2 := (unhide R5).froz 2
               have R6 := hide (show RC H w H 58 #[.string (stS m), .string (stS p), .string (stS q), .string ⟨#[]⟩, .slice none 0 0] ((W4.setCell ⟨H, 1, none⟩ (.string (stS p))).setCell ⟨H, 2, none⟩ (.string (stS q))) from (unhide R5).set 2 (.string (stS q))))
            | (go_at_call 53; refine (unhide PC _).mono ?_; rintro e W6 ⟨rfl, hb6⟩; rw [hb6]; clear hb6)
            | (go_at_call 54; refine (unhide QC _).mono ?_; rintro e W7 ⟨rfl, hb7⟩; rw [hb7]; clear hb7))
          go_ret
          exact ⟨unhide NV2 _, (unhide R6).bel⟩
        | true =>
          rw [hbq] at QC
          have YV2 := hide (unhide YV hbq)
          clear hbq NV YV
          go_enter Tryz.func34, Tryz.ntmps34
          go_wp2_with (first
            | (go_at_call 35; have hV : C1 = C1 := rfl; clear hV; refine (unhide C1).mono ?_; rintro e W1 ⟨rfl, hb1⟩; have R1 := hide ((unhide R0).later hb1); clear C1 hb1)
            | (go_at_call 35; have hV : C2 = C2 := rfl; clear hV; refine (unhide C2 _).mono ?_; rintro e W2 ⟨rfl, hb2⟩; have R2 := hide ((unhide R1).later hb2); clear hb2 C2
               have z0 := (unhide R2).cell 0 (.string ⟨#[]⟩) rfl
               have f0 := (unhide R2).froz 0
               have R3 := hide (show RC H w H 58 #[.string (stS m), .string ⟨#[]⟩, .string ⟨#[]⟩, .string ⟨#[]⟩, .slice none 0 0] (W2.setCell ⟨H, 0, none⟩ (.string (stS m))) from (unhide R2).set 0 (.string (stS m))))
            | (go_at_call 37; refine (unhide TC _).mono ?_; rintro e W3 ⟨rfl, hb3⟩; rw [hb3]; clear hb3)
            | (go_at_call 35; refine (unhide C3 _).mono ?_; rintro e W4 ⟨rfl, hb4⟩; have R4 := hide ((unhide R3).later hb4); clear hb4)
            | (go_at_call 52; refine (unhide BC _).mono ?_; rintro e W5 ⟨rfl, hb5⟩; rw [hb5]; clear hb5
               have z1 := (unhide R4).cell 1 (.string ⟨#[]⟩) rfl
               have f1 := (unhide R4).froz 1
               have R5 := hide (show RC H w H 58 #[.string (stS m), .string (stS p), .string ⟨#[]⟩, .string ⟨#[]⟩, .slice none 0 0] (W4.setCell ⟨H, 1, none⟩ (.string (stS p))) from (unhide R4).set 1 (.string (stS p)))
               have z2 := (unhide R5).cell 2 (.string ⟨#[]⟩) rfl
               have f2 := (unhide R5).froz 2
               have R6 := hide (show RC H w H 58 #[.string (stS m), .string (stS p), .string (stS q), .string ⟨#[]⟩, .slice none 0 0] ((W4.setCell ⟨H, 1, none⟩ (.string (stS p))).setCell ⟨H, 2, none⟩ (.string (stS q))) from (unhide R5).set 2 (.string (stS q))))
            | (go_at_call 53; refine (unhide PC _).mono ?_; rintro e W6 ⟨rfl, hb6⟩; rw [hb6]; clear hb6)
            | (go_at_call 54; refine (unhide QC _).mono ?_; rintro e W7 ⟨rfl, hb7⟩; rw [hb7]; clear hb7))
          go_ret
          exact ⟨unhide YV2 _ (unhide R6).row, (unhide R6).bel⟩
    | true =>
      rw [hpre] at BC
      have hp7 : p.length ≥ 7 := (List.isPrefixOf_iff_prefix.1 hpre).length_le
      have hs7 : ∀ W, (Instr.slice 9 (.string (stS p)) (some (.int .i64 7)) none none).run Tryz.prog W = .ok (.string (stS (p.drop 7))) W := fun W => by
        rw [run_slice_string_l _ _ _ Tryz.underlying9 _ _ (by omega) (by rw [stS_size]; omega), show ((7 : Int)).toNat = 7 from rfl, ext_drop', stS_list]
      have RF := hide (show ∀ r, RQ = r ↔ (targetL t).map (fun r => (m, r.1, r.2.1, r.2.2)) = r from fun r => by rw [unhide RI2])
      have TT := hide (show isQueryL q = true → targetL t = match hostL (cutL [47] (p.drop 7)).1 with
        | none => none
        | some h => if isPathL (pathOf (p.drop 7)) then some (pathOf (p.drop 7), q, h) else none from fun hq => unhide T2 hq hpre)
      have hlf : (p.drop 7).length ≤ 4096 := by rw [List.length_drop]; omega
      have hs70 : (7 : Int) ≤ ((stS p).size : Int) := by rw [stS_size]; omega
      have hnil : (⟨#[]⟩ : ByteArray).toList = [] := by rw [ByteArray.toList_eq]
      clear T1 T2 hpre
      generalize p.drop 7 = far at *
      have S1 := hide (slash_take far)
      have S2 := hide (slash_at far)
      have S3 := hide (cut_not 47 far)
      have hnl := cutL_len (sep := [47]) (l := far)
      have zf : (stS far).size = far.length := rfl
      have PO := hide (show pathOf far = match (cutL [47] far).2 with | none => [47] | some b => 47 :: b from rfl)
      generalize hn : (cutL [47] far).1.length = n at *
      have hsT : ∀ W, (Instr.slice 9 (.string (stS far)) none (some (.int .i64 (n : Int))) none).run Tryz.prog W = .ok (.string (stS (cutL [47] far).1)) W := fun W => by
        rw [run_slice_string_h _ _ _ Tryz.underlying9 _ _ (by omega) (by rw [zf]; omega), Int.toNat_natCast, ext_take, stS_list, unhide S1]
      have hsD : ∀ W, (Instr.slice 9 (.string (stS far)) (some (.int .i64 (n : Int))) none none).run Tryz.prog W = .ok (.string (stS (far.drop n))) W := fun W => by
        rw [run_slice_string_l _ _ _ Tryz.underlying9 _ _ (by omega) (by rw [zf]; omega), Int.toNat_natCast, ext_drop', stS_list]
      have HA := hide (show ∀ W, Calls Tryz.prog 40 #[.string (stS (cutL [47] far).1)] W fun e w' => e = .returned (hostV (cutL [47] far).1) ∧ Below W.heap.size W w' from fun W => by
        have := hostR_calls (stS (cutL [47] far).1) (by rw [stS_size]; omega) W
        rwa [stS_list] at this)
      have hAL : ∀ j, j < n → ∀ hh, ¬ (stS far)[j]'hh = 47 := fun j hj hh e => by
        have h1 : j < far.length := by omega
        have h2 : far[j]'h1 = 47 := e
        have h3 : (far.take n)[j]'(by rw [List.length_take]; omega) = 47 := by rw [List.getElem_take]; exact h2
        rw [List.getElem_of_eq (unhide S1) _] at h3
        have h4 := List.getElem_mem (l := (cutL [47] far).1) (n := j) (by omega)
        rw [h3] at h4
        exact unhide S3 h4
      generalize hA1 : (cutL [47] far).1 = a at *
      clear hA1
      have AH := hide (show ∀ x, hostL a = some x → hostV a = .tuple #[.string (stS x), .bool true] from fun x e => by unfold hostV; rw [e])
      have AN := hide (show hostL a = none → hostV a = .tuple #[.string ⟨#[]⟩, .bool false] from fun e => by unfold hostV; rw [e])
      clear S1 S3 hn
      go_enter Tryz.func34, Tryz.ntmps34
      go_wp2_with (first
        | (go_at_call 35; have hV : C1 = C1 := rfl; clear hV; refine (unhide C1).mono ?_; rintro e W1 ⟨rfl, hb1⟩; have R1 := hide ((unhide R0).later hb1); clear C1 hb1)
        | (go_at_call 35; have hV : C2 = C2 := rfl; clear hV; refine (unhide C2 _).mono ?_; rintro e W2 ⟨rfl, hb2⟩; have R2 := hide ((unhide R1).later hb2); clear hb2 C2
           have z0 := (unhide R2).cell 0 (.string ⟨#[]⟩) rfl
           have f0 := (unhide R2).froz 0
           have R3 := hide (show RC H w H 58 #[.string (stS m), .string ⟨#[]⟩, .string ⟨#[]⟩, .string ⟨#[]⟩, .slice none 0 0] (W2.setCell ⟨H, 0, none⟩ (.string (stS m))) from (unhide R2).set 0 (.string (stS m))))
        | (go_at_call 37; refine (unhide TC _).mono ?_; rintro e W3 ⟨rfl, hb3⟩; rw [hb3]; clear hb3)
        | (go_at_call 35; refine (unhide C3 _).mono ?_; rintro e W4 ⟨rfl, hb4⟩; have R4 := hide ((unhide R3).later hb4); clear hb4)
        | (go_at_call 52; refine (unhide BC _).mono ?_; rintro e W5 ⟨rfl, hb5⟩; rw [hb5]; clear hb5))
      clear z0 f0
      go_loopw [14] (fun i wr => ∃ j : Nat, i = .int .i64 (j : Int) ∧ j ≤ n ∧ Hid (wr = W4)) (fun i _ => n - (intOf i).toNat)
      case atStart => exact ⟨0, rfl, by omega, hide rfl⟩
      case round =>
        obtain ⟨j, rfl, hj, hB⟩ := hrel
        by_cases hjn : j < n
        · have hjs : j < (stS far).size := by rw [zf]; omega
          have hne := hAL j hjn
          generalize hx : ((stS far)[j]'hjs) = x at *
          have hx2 : ∀ hh, ((stS far)[j]'hh) = x := fun _ => hx
          have hw : IntKind.i64.wrap ((j : Int) + 1) = ((j + 1 : Nat) : Int) := by rw [IntKind.wrap_i64]; omega
          have hlt : (j : Int) < ((stS far).size : Int) := by omega
          have hq : (((x.toNat : Nat) : Int) == 47) = false := by rw [show (((x.toNat : Nat) : Int) == 47) = decide (x = 47) from byte_eq x 47]; exact decide_eq_false (fun e => hne hjs (by rw [hx]; exact e))
          clear hne hAL hsT hsD hs7 zf
          go_wp2
          go_roundw
          case rel => exact ⟨j + 1, by first | rfl | (rw [hw]), by omega, hB⟩
          case measure => simp [intOf]; omega
        · obtain rfl : j = n := by omega
          have R4w := hide (show RC H w H 58 #[.string (stS m), .string ⟨#[]⟩, .string ⟨#[]⟩, .string ⟨#[]⟩, .slice none 0 0] wr by rw [unhide hB]; exact unhide R4)
          clear hAL R4 hs7 hs70
          cases hc2 : (cutL [47] far).2 with
          | none =>
            rw [hc2] at S2 PO
            have hnn : j = far.length := by
              have h1 : far.drop j = [] := unhide S2
              rw [List.drop_eq_nil_iff] at h1
              omega
            have hlt : ¬ (j : Int) < ((stS far).size : Int) := by rw [zf]; omega
            have hjle : (j : Int) ≤ ((stS far).size : Int) := by rw [zf]; omega
            clear hnn
            rw [show far.drop j = [] from unhide S2] at hsD
            have hem : ((stS ([] : Tx)).toList == []) = true := by rw [str_nil]; rfl
            have PC := hide (fun W => pathR_calls (⟨#[47]⟩ : ByteArray) (by decide) W)
            rw [show (⟨#[47]⟩ : ByteArray).data.toList = [47] from rfl] at PC
            have TG := hide (show isQueryL q = true → targetL t = match hostL a with | none => none | some h => if isPathL [47] then some ([47], q, h) else none from fun hq => by rw [unhide TT hq, show pathOf far = [47] from unhide PO])
            clear TT PO S2 hc2 zf
            cases hho : hostL a with
            | none =>
              have HA2 := hide (show ∀ W, Calls Tryz.prog 40 #[.string (stS a)] W fun e w' => e = .returned (.tuple #[.string ⟨#[]⟩, .bool false]) ∧ Below W.heap.size W w' from fun W => by have := unhide HA W; rwa [unhide AN hho] at this)
              have NV := hide (fun W => unhide NO W (by
                rw [unhide RF]
                cases hq : isQueryL q with
                | false => rw [unhide T0 hq]; rfl
                | true => rw [unhide TG hq, hho]; rfl))
              clear hho AH AN NO YES RF TG T0 HA
              go_wp2_with (first
                | (go_at_call 40; refine (unhide HA2 _).mono ?_; rintro e V5 ⟨rfl, hb5⟩; have R5 := hide ((unhide R4w).later hb5); clear hb5))
              go_ret
              exact ⟨unhide NV _, (unhide R5).bel⟩
            | some x =>
              have HA2 := hide (show ∀ W, Calls Tryz.prog 40 #[.string (stS a)] W fun e w' => e = .returned (.tuple #[.string (stS x), .bool true]) ∧ Below W.heap.size W w' from fun W => by have := unhide HA W; rwa [unhide AH x hho] at this)
              cases hbp : isPathL [47] with
              | false =>
                rw [hbp] at PC
                have NV := hide (fun W => unhide NO W (by
                  rw [unhide RF]
                  cases hq : isQueryL q with
                  | false => rw [unhide T0 hq]; rfl
                  | true => rw [unhide TG hq, hho, hbp]; rfl))
                clear hho hbp AH AN NO YES RF TG T0 HA
                go_wp2_with (first
                  | (go_at_call 40; refine (unhide HA2 _).mono ?_; rintro e V5 ⟨rfl, hb5⟩; have R5 := hide ((unhide R4w).later hb5); clear hb5
                     have z3 := (unhide R5).cell 3 (.string ⟨#[]⟩) rfl
                     have f3 := (unhide R5).froz 3
                     have R6 := hide (show RC H w H 58 #[.string (stS m), .string ⟨#[]⟩, .string ⟨#[]⟩, .string (stS x), .slice none 0 0] (V5.setCell ⟨H, 3, none⟩ (.string (stS x))) from (unhide R5).set 3 (.string (stS x)))
                     have z1 := (unhide R6).cell 1 (.string ⟨#[]⟩) rfl
                     have f1 := (unhide R6).froz 1
                     have R7 := hide (show RC H w H 58 #[.string (stS m), .string (⟨#[47]⟩ : ByteArray), .string ⟨#[]⟩, .string (stS x), .slice none 0 0] ((V5.setCell ⟨H, 3, none⟩ (.string (stS x))).setCell ⟨H, 1, none⟩ (.string (⟨#[47]⟩ : ByteArray))) from (unhide R6).set 1 (.string (⟨#[47]⟩ : ByteArray)))
                     have z2 := (unhide R7).cell 2 (.string ⟨#[]⟩) rfl
                     have f2 := (unhide R7).froz 2
                     have R8 := hide (show RC H w H 58 #[.string (stS m), .string (⟨#[47]⟩ : ByteArray), .string (stS q), .string (stS x), .slice none 0 0] (((V5.setCell ⟨H, 3, none⟩ (.string (stS x))).setCell ⟨H, 1, none⟩ (.string (⟨#[47]⟩ : ByteArray))).setCell ⟨H, 2, none⟩ (.string (stS q))) from (unhide R7).set 2 (.string (stS q))))
                  | (go_at_call 53; refine (unhide PC _).mono ?_; rintro e W6 ⟨rfl, hb6⟩; rw [hb6]; clear hb6)
                  | (go_at_call 54; refine (unhide QC _).mono ?_; rintro e W7 ⟨rfl, hb7⟩; rw [hb7]; clear hb7))
                go_ret
                exact ⟨unhide NV _, (unhide R8).bel⟩
              | true =>
                rw [hbp] at PC
                cases hbq : isQueryL q with
                | false =>
                  rw [hbq] at QC
                  have NV := hide (fun W => unhide NO W (by rw [unhide RF, unhide T0 hbq]; rfl))
                  clear hho hbp hbq AH AN NO YES RF TG T0 HA
                  go_wp2_with (first
                    | (go_at_call 40; refine (unhide HA2 _).mono ?_; rintro e V5 ⟨rfl, hb5⟩; have R5 := hide ((unhide R4w).later hb5); clear hb5
                       have z3 := (unhide R5).cell 3 (.string ⟨#[]⟩) rfl
                       have f3 := (unhide R5).froz 3
                       have R6 := hide (show RC H w H 58 #[.string (stS m), .string ⟨#[]⟩, .string ⟨#[]⟩, .string (stS x), .slice none 0 0] (V5.setCell ⟨H, 3, none⟩ (.string (stS x))) from (unhide R5).set 3 (.string (stS x)))
                       have z1 := (unhide R6).cell 1 (.string ⟨#[]⟩) rfl
                       have f1 := (unhide R6).froz 1
                       have R7 := hide (show RC H w H 58 #[.string (stS m), .string (⟨#[47]⟩ : ByteArray), .string ⟨#[]⟩, .string (stS x), .slice none 0 0] ((V5.setCell ⟨H, 3, none⟩ (.string (stS x))).setCell ⟨H, 1, none⟩ (.string (⟨#[47]⟩ : ByteArray))) from (unhide R6).set 1 (.string (⟨#[47]⟩ : ByteArray)))
                       have z2 := (unhide R7).cell 2 (.string ⟨#[]⟩) rfl
                       have f2 := (unhide R7).froz 2
                       have R8 := hide (show RC H w H 58 #[.string (stS m), .string (⟨#[47]⟩ : ByteArray), .string (stS q), .string (stS x), .slice none 0 0] (((V5.setCell ⟨H, 3, none⟩ (.string (stS x))).setCell ⟨H, 1, none⟩ (.string (⟨#[47]⟩ : ByteArray))).setCell ⟨H, 2, none⟩ (.string (stS q))) from (unhide R7).set 2 (.string (stS q))))
                    | (go_at_call 53; refine (unhide PC _).mono ?_; rintro e W6 ⟨rfl, hb6⟩; rw [hb6]; clear hb6)
                    | (go_at_call 54; refine (unhide QC _).mono ?_; rintro e W7 ⟨rfl, hb7⟩; rw [hb7]; clear hb7))
                  go_ret
                  exact ⟨unhide NV _, (unhide R8).bel⟩
                | true =>
                  rw [hbq] at QC
                  have YV := hide (fun W hr => unhide YES m [47] q x W (by rw [unhide RF, unhide TG hbq, hho, hbp]; rfl) hr)
                  clear hho hbp hbq AH AN NO YES RF TG T0 HA
                  go_wp2_with (first
                    | (go_at_call 40; refine (unhide HA2 _).mono ?_; rintro e V5 ⟨rfl, hb5⟩; have R5 := hide ((unhide R4w).later hb5); clear hb5
                       have z3 := (unhide R5).cell 3 (.string ⟨#[]⟩) rfl
                       have f3 := (unhide R5).froz 3
                       have R6 := hide (show RC H w H 58 #[.string (stS m), .string ⟨#[]⟩, .string ⟨#[]⟩, .string (stS x), .slice none 0 0] (V5.setCell ⟨H, 3, none⟩ (.string (stS x))) from (unhide R5).set 3 (.string (stS x)))
                       have z1 := (unhide R6).cell 1 (.string ⟨#[]⟩) rfl
                       have f1 := (unhide R6).froz 1
                       have R7 := hide (show RC H w H 58 #[.string (stS m), .string (⟨#[47]⟩ : ByteArray), .string ⟨#[]⟩, .string (stS x), .slice none 0 0] ((V5.setCell ⟨H, 3, none⟩ (.string (stS x))).setCell ⟨H, 1, none⟩ (.string (⟨#[47]⟩ : ByteArray))) from (unhide R6).set 1 (.string (⟨#[47]⟩ : ByteArray)))
                       have z2 := (unhide R7).cell 2 (.string ⟨#[]⟩) rfl
                       have f2 := (unhide R7).froz 2
                       have R8 := hide (show RC H w H 58 #[.string (stS m), .string (⟨#[47]⟩ : ByteArray), .string (stS q), .string (stS x), .slice none 0 0] (((V5.setCell ⟨H, 3, none⟩ (.string (stS x))).setCell ⟨H, 1, none⟩ (.string (⟨#[47]⟩ : ByteArray))).setCell ⟨H, 2, none⟩ (.string (stS q))) from (unhide R7).set 2 (.string (stS q))))
                    | (go_at_call 53; refine (unhide PC _).mono ?_; rintro e W6 ⟨rfl, hb6⟩; rw [hb6]; clear hb6)
                    | (go_at_call 54; refine (unhide QC _).mono ?_; rintro e W7 ⟨rfl, hb7⟩; rw [hb7]; clear hb7))
                  go_ret
                  exact ⟨unhide YV _ (unhide R8).row, (unhide R8).bel⟩
          | some b =>
            rw [hc2] at S2 PO
            have hdr : far.drop j = 47 :: b := unhide S2
            have hjl : j < far.length := by
              have h1 := congrArg List.length hdr
              rw [List.length_drop, List.length_cons] at h1
              omega
            have hjs : j < (stS far).size := by rw [zf]; exact hjl
            have hx2 : ∀ hh, ((stS far)[j]'hh) = 47 := fun hh => by
              have h1 : (stS far)[j]'hh = far[j]'hjl := rfl
              have h2 : far.drop j = far[j]'hjl :: far.drop (j + 1) := List.drop_eq_getElem_cons hjl
              rw [hdr] at h2
              rw [h1]
              exact (List.cons.inj h2).1.symm
            have hlt : (j : Int) < ((stS far).size : Int) := by rw [zf]; omega
            have hjle : (j : Int) ≤ ((stS far).size : Int) := by rw [zf]; omega
            rw [hdr] at hsD
            have hem : ((stS (47 :: b)).toList == []) = false := by rw [str_nil]; rfl
            have hbl : (47 :: b).length ≤ 4096 := by rw [← hdr, List.length_drop]; omega
            have hez : (stS (47 :: b)).size ≤ 9223372036854775807 := by rw [stS_size]; omega
            have PC := hide (fun W => pathR_calls (stS (47 :: b)) (by rw [stS_size]; omega) W)
            rw [stS_list] at PC
            have TG := hide (show isQueryL q = true → targetL t = match hostL a with | none => none | some h => if isPathL (47 :: b) then some ((47 :: b), q, h) else none from fun hq => by rw [unhide TT hq, show pathOf far = (47 :: b) from unhide PO])
            clear TT PO S2 hc2 zf
            cases hho : hostL a with
            | none =>
              have HA2 := hide (show ∀ W, Calls Tryz.prog 40 #[.string (stS a)] W fun e w' => e = .returned (.tuple #[.string ⟨#[]⟩, .bool false]) ∧ Below W.heap.size W w' from fun W => by have := unhide HA W; rwa [unhide AN hho] at this)
              have NV := hide (fun W => unhide NO W (by
                rw [unhide RF]
                cases hq : isQueryL q with
                | false => rw [unhide T0 hq]; rfl
                | true => rw [unhide TG hq, hho]; rfl))
              clear hho AH AN NO YES RF TG T0 HA
              go_wp2_with (first
                | (go_at_call 40; refine (unhide HA2 _).mono ?_; rintro e V5 ⟨rfl, hb5⟩; have R5 := hide ((unhide R4w).later hb5); clear hb5))
              go_ret
              exact ⟨unhide NV _, (unhide R5).bel⟩
            | some x =>
              have HA2 := hide (show ∀ W, Calls Tryz.prog 40 #[.string (stS a)] W fun e w' => e = .returned (.tuple #[.string (stS x), .bool true]) ∧ Below W.heap.size W w' from fun W => by have := unhide HA W; rwa [unhide AH x hho] at this)
              cases hbp : isPathL (47 :: b) with
              | false =>
                rw [hbp] at PC
                have NV := hide (fun W => unhide NO W (by
                  rw [unhide RF]
                  cases hq : isQueryL q with
                  | false => rw [unhide T0 hq]; rfl
                  | true => rw [unhide TG hq, hho, hbp]; rfl))
                clear hho hbp AH AN NO YES RF TG T0 HA
                go_wp2_with (first
                  | (go_at_call 40; refine (unhide HA2 _).mono ?_; rintro e V5 ⟨rfl, hb5⟩; have R5 := hide ((unhide R4w).later hb5); clear hb5
                     have z3 := (unhide R5).cell 3 (.string ⟨#[]⟩) rfl
                     have f3 := (unhide R5).froz 3
                     have R6 := hide (show RC H w H 58 #[.string (stS m), .string ⟨#[]⟩, .string ⟨#[]⟩, .string (stS x), .slice none 0 0] (V5.setCell ⟨H, 3, none⟩ (.string (stS x))) from (unhide R5).set 3 (.string (stS x)))
                     have z1 := (unhide R6).cell 1 (.string ⟨#[]⟩) rfl
                     have f1 := (unhide R6).froz 1
                     have R7 := hide (show RC H w H 58 #[.string (stS m), .string (stS (47 :: b)), .string ⟨#[]⟩, .string (stS x), .slice none 0 0] ((V5.setCell ⟨H, 3, none⟩ (.string (stS x))).setCell ⟨H, 1, none⟩ (.string (stS (47 :: b)))) from (unhide R6).set 1 (.string (stS (47 :: b))))
                     have z2 := (unhide R7).cell 2 (.string ⟨#[]⟩) rfl
                     have f2 := (unhide R7).froz 2
                     have R8 := hide (show RC H w H 58 #[.string (stS m), .string (stS (47 :: b)), .string (stS q), .string (stS x), .slice none 0 0] (((V5.setCell ⟨H, 3, none⟩ (.string (stS x))).setCell ⟨H, 1, none⟩ (.string (stS (47 :: b)))).setCell ⟨H, 2, none⟩ (.string (stS q))) from (unhide R7).set 2 (.string (stS q))))
                  | (go_at_call 53; refine (unhide PC _).mono ?_; rintro e W6 ⟨rfl, hb6⟩; rw [hb6]; clear hb6)
                  | (go_at_call 54; refine (unhide QC _).mono ?_; rintro e W7 ⟨rfl, hb7⟩; rw [hb7]; clear hb7))
                go_ret
                exact ⟨unhide NV _, (unhide R8).bel⟩
              | true =>
                rw [hbp] at PC
                cases hbq : isQueryL q with
                | false =>
                  rw [hbq] at QC
                  have NV := hide (fun W => unhide NO W (by rw [unhide RF, unhide T0 hbq]; rfl))
                  clear hho hbp hbq AH AN NO YES RF TG T0 HA
                  go_wp2_with (first
                    | (go_at_call 40; refine (unhide HA2 _).mono ?_; rintro e V5 ⟨rfl, hb5⟩; have R5 := hide ((unhide R4w).later hb5); clear hb5
                       have z3 := (unhide R5).cell 3 (.string ⟨#[]⟩) rfl
                       have f3 := (unhide R5).froz 3
                       have R6 := hide (show RC H w H 58 #[.string (stS m), .string ⟨#[]⟩, .string ⟨#[]⟩, .string (stS x), .slice none 0 0] (V5.setCell ⟨H, 3, none⟩ (.string (stS x))) from (unhide R5).set 3 (.string (stS x)))
                       have z1 := (unhide R6).cell 1 (.string ⟨#[]⟩) rfl
                       have f1 := (unhide R6).froz 1
                       have R7 := hide (show RC H w H 58 #[.string (stS m), .string (stS (47 :: b)), .string ⟨#[]⟩, .string (stS x), .slice none 0 0] ((V5.setCell ⟨H, 3, none⟩ (.string (stS x))).setCell ⟨H, 1, none⟩ (.string (stS (47 :: b)))) from (unhide R6).set 1 (.string (stS (47 :: b))))
                       have z2 := (unhide R7).cell 2 (.string ⟨#[]⟩) rfl
                       have f2 := (unhide R7).froz 2
                       have R8 := hide (show RC H w H 58 #[.string (stS m), .string (stS (47 :: b)), .string (stS q), .string (stS x), .slice none 0 0] (((V5.setCell ⟨H, 3, none⟩ (.string (stS x))).setCell ⟨H, 1, none⟩ (.string (stS (47 :: b)))).setCell ⟨H, 2, none⟩ (.string (stS q))) from (unhide R7).set 2 (.string (stS q))))
                    | (go_at_call 53; refine (unhide PC _).mono ?_; rintro e W6 ⟨rfl, hb6⟩; rw [hb6]; clear hb6)
                    | (go_at_call 54; refine (unhide QC _).mono ?_; rintro e W7 ⟨rfl, hb7⟩; rw [hb7]; clear hb7))
                  go_ret
                  exact ⟨unhide NV _, (unhide R8).bel⟩
                | true =>
                  rw [hbq] at QC
                  have YV := hide (fun W hr => unhide YES m (47 :: b) q x W (by rw [unhide RF, unhide TG hbq, hho, hbp]; rfl) hr)
                  clear hho hbp hbq AH AN NO YES RF TG T0 HA
                  go_wp2_with (first
                    | (go_at_call 40; refine (unhide HA2 _).mono ?_; rintro e V5 ⟨rfl, hb5⟩; have R5 := hide ((unhide R4w).later hb5); clear hb5
                       have z3 := (unhide R5).cell 3 (.string ⟨#[]⟩) rfl
                       have f3 := (unhide R5).froz 3
                       have R6 := hide (show RC H w H 58 #[.string (stS m), .string ⟨#[]⟩, .string ⟨#[]⟩, .string (stS x), .slice none 0 0] (V5.setCell ⟨H, 3, none⟩ (.string (stS x))) from (unhide R5).set 3 (.string (stS x)))
                       have z1 := (unhide R6).cell 1 (.string ⟨#[]⟩) rfl
                       have f1 := (unhide R6).froz 1
                       have R7 := hide (show RC H w H 58 #[.string (stS m), .string (stS (47 :: b)), .string ⟨#[]⟩, .string (stS x), .slice none 0 0] ((V5.setCell ⟨H, 3, none⟩ (.string (stS x))).setCell ⟨H, 1, none⟩ (.string (stS (47 :: b)))) from (unhide R6).set 1 (.string (stS (47 :: b))))
                       have z2 := (unhide R7).cell 2 (.string ⟨#[]⟩) rfl
                       have f2 := (unhide R7).froz 2
                       have R8 := hide (show RC H w H 58 #[.string (stS m), .string (stS (47 :: b)), .string (stS q), .string (stS x), .slice none 0 0] (((V5.setCell ⟨H, 3, none⟩ (.string (stS x))).setCell ⟨H, 1, none⟩ (.string (stS (47 :: b)))).setCell ⟨H, 2, none⟩ (.string (stS q))) from (unhide R7).set 2 (.string (stS q))))
                    | (go_at_call 53; refine (unhide PC _).mono ?_; rintro e W6 ⟨rfl, hb6⟩; rw [hb6]; clear hb6)
                    | (go_at_call 54; refine (unhide QC _).mono ?_; rintro e W7 ⟨rfl, hb7⟩; rw [hb7]; clear hb7))
                  go_ret
                  exact ⟨unhide YV _ (unhide R8).row, (unhide R8).bel⟩
end Go.Proofs.YtcmiappiocfbiaaGreatDoor
end
/- The document's heads, in plain words: where a head ends, and what its lines say. -/
section
namespace Go.Proofs.YtcmiappiocfbiaaGreatDoor
set_option linter.unusedVariables false

/-- Does a text stand at a place? -/
def sepAt (sep l : Tx) (p : Nat) : Bool := sep.isPrefixOf (l.drop p)
theorem cutS_at (sep : Tx) (hs : sep ≠ []) : ∀ (l : Tx) (k : Nat), (∀ p, p < k → sepAt sep l p = false) → sepAt sep l k = true → cutL sep l = (l.take k, some (l.drop (k + sep.length)))
  | [], k, _, h => by
    unfold sepAt at h; rw [List.drop_nil] at h
    cases sep with
    | nil => exact absurd rfl hs
    | cons a b => cases h
  | c :: t, 0, _, h => by
    have h' : sep.isPrefixOf (c :: t) = true := h
    rw [cutL, if_pos h', Nat.zero_add]
    rfl
  | c :: t, k + 1, hn, h => by
    have h0' : sep.isPrefixOf (c :: t) = false := hn 0 (by omega)
    have ih := cutS_at sep hs t k (fun p hp => hn (p + 1) (by omega)) h
    rw [cutL, if_neg (by rw [h0']; decide), ih]
    simp only [List.take_succ_cons, Prod.mk.injEq, Option.some.injEq, true_and]
    rw [show k + 1 + sep.length = (k + sep.length) + 1 by omega, List.drop_succ_cons]
theorem cutS_none (sep : Tx) : ∀ (l : Tx), (∀ p, sepAt sep l p = false) → (cutL sep l).2 = none
  | [], _ => rfl
  | c :: t, h => by
    have h0 : sep.isPrefixOf (c :: t) = false := h 0
    have ih := cutS_none sep t (fun p => h (p + 1))
    rw [cutL, if_neg (by rw [h0]; decide)]
    exact ih
theorem sepAt_len {sep l : Tx} {p : Nat} (h : sepAt sep l p = true) : sep = [] ∨ p + sep.length ≤ l.length := by
  have := (List.isPrefixOf_iff_prefix.1 h).length_le
  rw [List.length_drop] at this
  cases sep with
  | nil => exact .inl rfl
  | cons a b => right; simp only [List.length_cons] at this ⊢; omega
theorem fieldsOf_app : ∀ (a b : List Tx) (fs : List Fd), fieldsOf a = some fs → fieldsOf (a ++ b) = (fieldsOf b).map (fs ++ ·)
  | [], b, fs, h => by
    cases h
    rw [List.nil_append]
    cases fieldsOf b <;> rfl
  | x :: t, b, fs, h => by
    rw [fieldsOf] at h
    rw [List.cons_append, fieldsOf]
    cases hf : fieldL x with
    | none => rw [hf] at h; cases h
    | some f =>
      rw [hf] at h
      simp only at h ⊢
      cases hr : fieldsOf t with
      | none => rw [hr] at h; cases h
      | some gs =>
        rw [hr] at h
        cases h
        rw [fieldsOf_app t b gs hr]
        cases fieldsOf b <;> rfl
theorem hosts_app (a b : List Fd) : hostsOf (a ++ b) = hostsOf a ++ hostsOf b := List.filter_append ..
theorem hosts_cons (f : Fd) (r : List Fd) (h : f.name = hostName) : hostsOf (f :: r) = f :: hostsOf r := by unfold hostsOf; rw [List.filter_cons, if_pos (by rw [h]; exact beq_self_eq_true _)]
theorem hosts_skip (f : Fd) (r : List Fd) (h : ¬ f.name = hostName) : hostsOf (f :: r) = hostsOf r := by unfold hostsOf; rw [List.filter_cons, if_neg (fun e => h (eq_of_beq e))]
theorem hostOf_bad1 (fs r : List Fd) (f : Fd) (h : f.name = hostName) (hv : hostL f.value = none) : hostOfL (fs ++ f :: r) = none := by
  unfold hostOfL
  rw [hosts_app, hosts_cons f r h]
  cases hostsOf fs with
  | nil =>
    cases hostsOf r with
    | nil => exact hv
    | cons g u => rfl
  | cons g u => cases u <;> rfl
theorem hostOf_bad2 (fs r : List Fd) (f : Fd) (h : f.name = hostName) (hv : hostsOf fs ≠ []) : hostOfL (fs ++ f :: r) = none := by
  unfold hostOfL
  rw [hosts_app, hosts_cons f r h]
  cases hh : hostsOf fs with
  | nil => exact absurd hh hv
  | cons g u => cases u <;> rfl
/-- The host by what was read so far. -/
def curH (ht : Tx) (fs : List Fd) : Tx := match hostsOf fs with
  | [f] => if ht = [] then (hostL f.value).getD [] else ht
  | _ => ht
/-- What was read so far, of lines. -/
structure SoFar (t : List Tx) (k : Nat) (fs : List Fd) : Prop where
  got : fieldsOf (t.take k) = some fs
  len : fs.length = k
  one : hostsOf fs = [] ∨ ∃ f x, hostsOf fs = [f] ∧ hostL f.value = some x
theorem soFar0 (t : List Tx) : SoFar t 0 [] := ⟨rfl, rfl, .inl rfl⟩
theorem split_at (t : List Tx) (k : Nat) (h : k < t.length) : t = t.take k ++ t[k] :: t.drop (k + 1) := by
  rw [← List.drop_eq_getElem_cons h, List.take_append_drop]
theorem SoFar.bad {t : List Tx} {k : Nat} {fs : List Fd} (h : SoFar t k fs) (hk : k < t.length) (hf : fieldL t[k] = none) : fieldsOf t = none := by
  rw [split_at t k hk, fieldsOf_app _ _ _ h.got, fieldsOf, hf]
  rfl
theorem SoFar.take_succ {t : List Tx} {k : Nat} {fs : List Fd} (h : SoFar t k fs) (hk : k < t.length) {f : Fd} (hf : fieldL t[k] = some f) : fieldsOf (t.take (k + 1)) = some (fs ++ [f]) := by
  rw [List.take_add_one, List.getElem?_eq_getElem hk, Option.toList_some, fieldsOf_app _ _ _ h.got, fieldsOf, hf]
  rfl
theorem SoFar.rest {t : List Tx} {k : Nat} {fs : List Fd} (h : SoFar t k fs) (hk : k < t.length) {f : Fd} (hf : fieldL t[k] = some f) (hb : ∀ r, hostOfL (fs ++ f :: r) = none) (a m p q x : Tx) (ha : requestL a = some (m, p, q, x)) : readLines a t = none := by
  unfold readLines
  rw [ha]
  simp only
  have e : fieldsOf t = (fieldsOf (t.drop (k + 1))).map ((fs ++ [f]) ++ ·) := by
    conv => lhs; rw [← List.take_append_drop (k + 1) t]
    exact fieldsOf_app _ _ _ (h.take_succ hk hf)
  rw [e]
  cases fieldsOf (t.drop (k + 1)) with
  | none => rfl
  | some gs =>
    simp only [Option.map_some]
    rw [List.append_assoc]
    show (match hostOfL (fs ++ f :: gs) with | none => none | some x => _) = none
    rw [hb gs]
theorem SoFar.plain {t : List Tx} {k : Nat} {fs : List Fd} (h : SoFar t k fs) (hk : k < t.length) {f : Fd} (hf : fieldL t[k] = some f) (hn : ¬ f.name = hostName) (ht : Tx) : SoFar t (k + 1) (fs ++ [f]) ∧ curH ht (fs ++ [f]) = curH ht fs ∧ hostsOf (fs ++ [f]) = hostsOf fs := by
  have e : hostsOf (fs ++ [f]) = hostsOf fs := by rw [hosts_app, hosts_skip f [] hn]; exact List.append_nil _
  refine ⟨⟨h.take_succ hk hf, by rw [List.length_append, h.len]; rfl, by rw [e]; exact h.one⟩, ?_, e⟩
  unfold curH
  rw [e]
theorem SoFar.host {t : List Tx} {k : Nat} {fs : List Fd} (h : SoFar t k fs) (hk : k < t.length) {f : Fd} (hf : fieldL t[k] = some f) (hn : f.name = hostName) (h0 : hostsOf fs = []) {x : Tx} (hx : hostL f.value = some x) (ht : Tx) : SoFar t (k + 1) (fs ++ [f]) ∧ curH ht (fs ++ [f]) = (if ht = [] then x else ht) ∧ curH ht fs = ht ∧ hostsOf (fs ++ [f]) = [f] := by
  have e : hostsOf (fs ++ [f]) = [f] := by rw [hosts_app, h0, hosts_cons f [] hn]; rfl
  refine ⟨⟨h.take_succ hk hf, by rw [List.length_append, h.len]; rfl, .inr ⟨f, x, e, hx⟩⟩, ?_, ?_, e⟩
  · unfold curH
    rw [e]
    simp only [hx, Option.getD_some]
  · unfold curH
    rw [h0]
theorem SoFar.done {t : List Tx} {k : Nat} {fs : List Fd} (h : SoFar t k fs) (hk : ¬ k < t.length) (a m p q x : Tx) (ha : requestL a = some (m, p, q, x)) : readLines a t = if (hostsOf fs).length = 1 then some ⟨m, p, q, curH x fs, fs⟩ else none := by
  have e : fieldsOf t = some fs := by have := h.got; rwa [List.take_of_length_le (by omega)] at this
  unfold readLines
  rw [ha]
  simp only
  rw [e]
  simp only
  rcases h.one with h0 | ⟨f, y, h1, hy⟩
  · rw [show hostOfL fs = none by unfold hostOfL; rw [h0], h0]
    rfl
  · rw [show hostOfL fs = some y by unfold hostOfL; rw [h1]; exact hy]
    have e2 : curH x fs = if x = [] then y else x := by unfold curH; rw [h1]; simp only [hy, Option.getD_some]
    rw [e2, h1]
    rfl
theorem read_none (a : Tx) (t : List Tx) (h : requestL a = none) : readLines a t = none := by unfold readLines; rw [h]
theorem read_bad (a m p q x : Tx) (t : List Tx) (ha : requestL a = some (m, p, q, x)) (h : fieldsOf t = none) : readLines a t = none := by unfold readLines; rw [ha]; simp only; rw [h]
theorem lines_ne (l : Tx) : ∃ a t, linesL l = a :: t := by
  unfold linesL
  cases hn : l.length with
  | zero => exact ⟨_, _, rfl⟩
  | succ n =>
    rw [linesN]
    cases (cutL crlf l).2 with
    | none => exact ⟨_, _, rfl⟩
    | some b => exact ⟨_, _, rfl⟩
theorem lines_len : ∀ (n : Nat) (l : Tx), (linesN n l).length ≤ l.length + 1 ∧ ∀ a ∈ linesN n l, a.length ≤ l.length
  | 0, l => ⟨by simp [linesN], fun a ha => by simp [linesN] at ha; rw [ha]; exact Nat.le_refl _⟩
  | n + 1, l => by
    unfold linesN
    cases h : (cutL crlf l).2 with
    | none => exact ⟨by simp, fun a ha => by simp at ha; rw [ha]; exact Nat.le_refl _⟩
    | some b =>
      have hlen := congrArg List.length (cutL_some h)
      simp only [List.length_append, crlf, List.length_cons, List.length_nil] at hlen
      obtain ⟨h1, h2⟩ := lines_len n b
      refine ⟨by simp only [List.length_cons]; omega, fun a ha => ?_⟩
      rcases List.mem_cons.1 ha with rfl | ha
      · simp only [crlf]; omega
      · have := h2 a ha; omega
end Go.Proofs.YtcmiappiocfbiaaGreatDoor
end
