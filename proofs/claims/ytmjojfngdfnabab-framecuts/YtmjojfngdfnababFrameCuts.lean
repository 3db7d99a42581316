/- Proved: a frame that is cut short is none; for all bytes and every length; no condition. -/
import Derived.Test.YtmjojfngdfnababArg
import Derived.Test.YtmjojfngdfnababAid
namespace Go.Proofs.Ytmjojfngdfnabab.frameCuts
open Go.ChangeShapes Go.WideShapes Go.ChangeAt Go.RowKit
set_option linter.unusedVariables false

theorem own : ownKnob Try.prog.godebug = none := by kernel_rfl
theorem laidOut : laidOutB Try.prog = true := by kernel_rfl

set_option maxHeartbeats 1000000 in
theorem walk (a0 : Option Addr) (c0 : Nat) (l0 : List Nat) (k : Int) (w : World) (hc0 : l0.length ≤ c0) (hm0 : c0 ≤ 140737488355328) (hb0 : BytesAt w a0 l0) (hz0 : a0 = none → c0 = 0)
    (hk : -9223372036854775808 ≤ k ∧ k ≤ 9223372036854775807) :
    Calls Try.prog 3 #[.slice a0 l0.length c0, .int .i64 k] w fun e w' => e = .returned (.bool true) ∧ Below w.heap.size w w' := by
  have HB := hide hb0
  have Hk := hide hk
  clear hb0 hz0 hk
  go_enter Try.func3, Try.ntmps3
  go_wp2_with fail
  by_cases hlong : 65536 < l0.length
  · refine (frame_long _ _ l0 _ (by simp only [maxLen]; omega) hlong).mono ?_
    rintro e W1 ⟨rfl, rfl⟩
    go_wp2_with fail
    refine (live_calls _).mono ?_
    rintro e W2 ⟨rfl, hb2⟩
    go_wp2
    go_ret
    exact ⟨rfl, hb2⟩
  · refine (frame_ok _ _ l0 _ (unhide HB) (by omega)).mono ?_
    rintro e W1 ⟨g, rfl, hb1, hg1, hcell⟩
    have hl6 : l0.length ≤ 65536 := by omega
    have BF := hide (bytesAt_block hcell (frameB_lt (unhide HB).lt hl6))
    clear hcell hlong hc0 hm0
    obtain ⟨N, hN, hNl⟩ := rem_nat k (8 + l0.length) (by omega) (by omega)
    have eM : ((8 + l0.length : Nat) : Int) = 8 + (l0.length : Int) := by omega
    rw [eM] at hN
    clear eM
    have hs := run_slice_h8 (some ⟨g, 0, none⟩) (8 + l0.length) (8 + l0.length) N (by omega)
    have hLen := hide (show ((frameB l0).take N).length = N by rw [List.length_take, frameB_length]; omega)
    have B1 := hide ((unhide BF).head (8 + l0.length) N (by rw [frameB_length]; exact Nat.le_refl _))
    have HE := hide (cut_next l0 N hl6 hNl)
    have hmin : (N : Int) ≤ 8 + (l0.length : Int) := by omega
    generalize slp (some ⟨g, 0, none⟩) 0 (8 + l0.length) = p at *
    generalize (frameB l0).take N = F at *
    go_wp2_with fail
    refine (next_err' _ _ _ F 0 _ _ rfl (unhide hLen) (by rw [unhide hLen]; simp only [maxLen]; omega) (by rw [unhide hLen]; omega) (by omega) (unhide B1) 3 (unhide HE) (by omega)).mono ?_
    rintro e W2 ⟨rfl, hb2⟩
    have B2 := hide ((unhide B1).later hb2)
    go_wp2_with fail
    refine (all_known _ _ _ F [] 0 _ (unhide hLen) (by rw [unhide hLen]; omega) (by rw [unhide hLen]; omega) (unhide B2) rfl (by rw [unhide HE]; omega)).mono ?_
    rintro e W3 ⟨sp, c', rfl, hb3, _⟩
    go_wp2_with fail
    refine (live_calls _).mono ?_
    rintro e W4 ⟨rfl, hb4⟩
    go_wp2
    go_ret
    exact ⟨rfl, hb1.trans ((hb2.trans ((hb3.trans (hb4.mono hb3.size)).mono hb2.size)).mono hb1.size)⟩

set_option maxRecDepth 100000 in
theorem lifted (os : Os) (started : os.Started) (H : Type) (enc : TypeId × Value → H) :
    ReturnsInHanded {} Try.checked os 3 .any (Rows.frameCutsSpec.pre6 enc Try.prog Try.f3 Rows.frameCutsRow.domain false) (Rows.frameCutsSpec.post enc Try.prog Try.f3 false true false false) := by
  refine returnsInHanded_of_change_sized (C := Try.checked) own started (by kernel_rfl) Try.func3
    (ChangeSpec.witness6 (enc := enc) (C := Try.checked) false ⟨#[], #[.slice none 0 0, .int .i64 0], []⟩ 8 (by kernel_rfl) (by kernel_rfl) (by kernel_rfl) (by kernel_rfl)) ?_
  intro W base args ds gs before hval0 hW hcnd hsz _
  have hval : ∀ (j : Nat) t v, Try.f3.params[j]? = some t → args[j]? = some v → Value.okWide Try.prog W .any base t v := hval0
  have hW' := hW
  obtain ⟨p, q, hA0, hV, rfl, hfz, hnd⟩ := hW
  have hA : DataW.TrodAll enc Try.prog W 0 (fun _ => true) true Try.f3.params.toList args.toList ds p := hA0
  rw [Try.params3] at hA hval
  obtain ⟨v0, vs0, d0, ds0, p0, q0, hargs, rfl, rfl, h0, r0⟩ := trodAll_cons hA
  obtain ⟨v1, vs1, d1, ds1, p1, q1, rfl, rfl, rfl, h1, r1⟩ := trodAll_cons r0
  obtain ⟨rfl, rfl, rfl⟩ := trodAll_nil r1
  obtain rfl : args = #[v0, v1] := by cases args; simp_all
  obtain ⟨rfl, rfl⟩ := trodVars_none hV
  obtain ⟨a0, len0, c0, rfl⟩ := okWide_slice Try.underlying22 (hval 0 22 v0 rfl rfl)
  have k0 := h0
  have lt0 : ∀ x ∈ p0, x.block < W.heap.size := by obtain ⟨m, hm⟩ := k0; exact DataW.trod_lt m _ _ _ hm
  obtain ⟨l0, rfl, hc0, hx0, hb0, hz0, hr0⟩ := row8 h0
  obtain ⟨n1, rfl, rfl, rfl, w1⟩ := open_int Try.underlying3 (hval 1 3 v1 rfl rfl) h1
  have hn1 := i64_bounds w1
  clear hA0 hval0
  have hm0 : c0 ≤ 140737488355328 := reach8 hsz (j := 0) (d := d0) rfl rfl hr0
  refine (walk a0 c0 l0 n1 W hc0 hm0 hb0 hz0 hn1).mono fun e W' ⟨he, bel⟩ => ?_
  subst he
  exact ⟨_, rfl, _, _, _, [], _, [], hW', trodAll_mk1 (shut_bool Try.underlying4 _), (trodAll_cons_mk (Below.trod laidOut (by kernel_rfl) (of_decide_eq_true (by kernel_rfl)) k0 bel lt0) (trodAll_cons_mk (shut_int Try.underlying3 w1) trodAll_mk0)), rfl, bel.frame _, fun h => by cases h⟩

theorem proved : Rows.FrameCutsSaid :=
  OpenClaim.holds_of_wide 3 Try.f3 rfl rfl rfl rfl rfl rfl rfl ⟨rfl, rfl, rfl, rfl, rfl⟩ rfl rfl rfl rfl rfl (by kernel_rfl) Try.func3 (by kernel_rfl)
    (of_decide_eq_true (by kernel_rfl)) (by unfold Func.isWrapper; first | (rw [if_pos (by decide +kernel)]; kernel_rfl) | (rw [if_neg (by decide +kernel)]; exact ⟨rfl, rfl⟩))
    (fun os started H enc _ => lifted os started H enc)
end Go.Proofs.Ytmjojfngdfnabab.frameCuts
namespace Go.Proofs.Ytmjojfngdfnabab
theorem frameCuts_holds : Rows.FrameCutsSaid := frameCuts.proved
#print axioms frameCuts_holds
end Go.Proofs.Ytmjojfngdfnabab
