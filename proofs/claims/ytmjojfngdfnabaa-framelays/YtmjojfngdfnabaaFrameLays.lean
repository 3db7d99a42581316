/- Proved: for all bytes frame.Frame answers the frame's bytes, or the error, as the document's answer does, and what was handed in stays; no condition. -/
import Derived.Test.YtmjojfngdfnabaaArg
import Derived.Test.YtmjojfngdfnabaaRefNxt
namespace Go.Proofs.Ytmjojfngdfnabaa.frameLays
open Go.ChangeShapes Go.WideShapes Go.ChangeAt Go.RowKit
set_option linter.unusedVariables false

theorem own : ownKnob Try.prog.godebug = none := by kernel_rfl
theorem laidOut : laidOutB Try.prog = true := by kernel_rfl

theorem str_same (l : List Nat) : ((strOf l).toList == (strOf l).toList) = true := by simp

set_option maxHeartbeats 1000000 in
theorem walk (a0 : Option Addr) (c0 : Nat) (l0 : List Nat) (w : World) (hc0 : l0.length ≤ c0) (hm0 : c0 ≤ 140737488355328) (hb0 : BytesAt w a0 l0) (hz0 : a0 = none → c0 = 0) :
    Calls Try.prog 6 #[.slice a0 l0.length c0] w fun e w' => e = .returned (.bool true) ∧ Below w.heap.size w w' := by
  have hlm : l0.length ≤ maxLen := by simp only [maxLen]; omega
  have hl47 := hide (show ([] : List Nat).length + l0.length ≤ 140737488355328 by simp only [List.length_nil]; omega)
  have HB := hide hb0
  have Hz := hide hz0
  have HM := hide hlm
  have hnil : ∀ (W : World), BytesAt W none [] := fun W => ⟨by simp, by simp⟩
  have HN := hide hnil
  clear hb0 hz0 hlm hnil hc0 hm0
  have o1 := hide (OwnB.empty w w.heap.size (Nat.le_refl _))
  have b1 := hide (show Below w.heap.size w (w.alloc (.cells #[] 5)) from (Below.refl _ _).alloc (Nat.le_refl _) _)
  go_enter Try.func6, Try.ntmps6
  go_wp2_with (at_builtin; refine wpList_append8 rfl (.tmp 8) (.tmp 9) rfl w.heap.size (some ⟨w.heap.size, 0, none⟩) 0 0 [] rfl rfl (by exact unhide o1) a0 l0.length c0 rfl l0 rfl (by exact (unhide HB).later (unhide b1)) (unhide Hz) (unhide hl47) (by simp) ?_; intro sp1 n1 k1 W1 hn1 ho1 hg1 hb1)
  rw [List.nil_append] at hn1 ho1
  obtain rfl := unhide hn1
  have bW1 := hide ((unhide b1).trans hb1)
  have BO := hide ho1.bytes
  have HB1 := hide ((unhide HB).later (unhide bW1))
  clear ho1 hg1 hb1 hn1 o1 b1
  by_cases hlong : 65536 < l0.length
  · refine (frame_long _ _ l0 _ (unhide HM) hlong).mono ?_
    rintro e W2 ⟨rfl, rfl⟩
    go_wp2_with fail
    refine (refFrame_long _ _ l0 _ (unhide HM) hlong).mono ?_
    rintro e W3 ⟨rfl, rfl⟩
    go_wp2_with fail
    refine (live_calls _).mono ?_
    rintro e W4 ⟨rfl, hb4⟩
    have s0 := run_string8 (w := W4) (c := 0) 0 rfl (unhide HN W4)
    have s1 := run_string8 (c := k1) l0.length rfl ((unhide BO).later hb4)
    have s2 := run_string8 (c := c0) l0.length rfl ((unhide HB1).later hb4)
    have t1 := str_same []
    have t2 := str_same l0
    go_wp2
    go_ret
    exact ⟨rfl, (unhide bW1).trans (hb4.mono (unhide bW1).size)⟩
  · refine (frame_ok _ _ l0 _ (unhide BO) (by omega)).mono ?_
    rintro e W2 ⟨g, rfl, hb2, hg2, hc2⟩
    have BF := hide (bytesAt_block hc2 (frameB_lt (unhide HB).lt (by omega)))
    have HB2 := hide ((unhide HB1).later hb2)
    have BO2 := hide ((unhide BO).later hb2)
    clear hc2 hg2
    go_wp2_with fail
    refine (refFrame_ok _ _ l0 _ (unhide HB2) (unhide Hz) (by omega)).mono ?_
    rintro e W3 ⟨sp3, c3, rfl, hb3, ho3⟩
    have BR := hide ho3.bytes
    have BF3 := hide ((unhide BF).later hb3)
    have HB3 := hide ((unhide HB2).later hb3)
    have BO3 := hide ((unhide BO2).later hb3)
    have HL := hide (frameB_length l0)
    clear ho3
    generalize frameB l0 = fb at *
    go_wp2_with fail
    refine (live_calls _).mono ?_
    rintro e W4 ⟨rfl, hb4⟩
    have s0 := run_string8 (c := 8 + l0.length) (8 + l0.length) (unhide HL) ((unhide BF3).later hb4)
    have s3 := run_string8 (c := c3) fb.length rfl ((unhide BR).later hb4)
    have s1 := run_string8 (c := k1) l0.length rfl ((unhide BO3).later hb4)
    have s2 := run_string8 (c := c0) l0.length rfl ((unhide HB3).later hb4)
    have t1 := str_same fb
    have t2 := str_same l0
    go_wp2
    go_ret
    exact ⟨rfl, (unhide bW1).trans ((hb2.trans ((hb3.trans (hb4.mono hb3.size)).mono hb2.size)).mono (unhide bW1).size)⟩

set_option maxRecDepth 100000 in
theorem lifted (os : Os) (started : os.Started) (H : Type) (enc : TypeId × Value → H) :
    ReturnsInHanded {} Try.checked os 6 .any (Rows.frameLaysSpec.pre6 enc Try.prog Try.f6 Rows.frameLaysRow.domain false) (Rows.frameLaysSpec.post enc Try.prog Try.f6 false true false false) := by
  refine returnsInHanded_of_change_sized (C := Try.checked) own started (by kernel_rfl) Try.func6
    (ChangeSpec.witness6 (enc := enc) (C := Try.checked) false ⟨#[], #[.slice none 0 0], []⟩ 8 (by kernel_rfl) (by kernel_rfl) (by kernel_rfl) (by kernel_rfl)) ?_
  intro W base args ds gs before hval0 hW hcnd hsz _
  have hval : ∀ (j : Nat) t v, Try.f6.params[j]? = some t → args[j]? = some v → Value.okWide Try.prog W .any base t v := hval0
  have hW' := hW
  obtain ⟨p, q, hA0, hV, rfl, hfz, hnd⟩ := hW
  have hA : DataW.TrodAll enc Try.prog W 0 (fun _ => true) true Try.f6.params.toList args.toList ds p := hA0
  rw [Try.params6] at hA hval
  obtain ⟨v0, vs0, d0, ds0, p0, q0, hargs, rfl, rfl, h0, r0⟩ := trodAll_cons hA
  obtain ⟨rfl, rfl, rfl⟩ := trodAll_nil r0
  obtain rfl : args = #[v0] := by cases args; simp_all
  obtain ⟨rfl, rfl⟩ := trodVars_none hV
  obtain ⟨a0, len0, c0, rfl⟩ := okWide_slice Try.underlying23 (hval 0 23 v0 rfl rfl)
  have k0 := h0
  have lt0 : ∀ x ∈ p0, x.block < W.heap.size := by obtain ⟨m, hm⟩ := k0; exact DataW.trod_lt m _ _ _ hm
  obtain ⟨l0, rfl, hc0, hx0, hb0, hz0, hr0⟩ := row8 h0
  clear hA0 hval0
  have hm0 : c0 ≤ 140737488355328 := reach8 hsz (j := 0) (d := d0) rfl rfl hr0
  refine (walk a0 c0 l0 W hc0 hm0 hb0 hz0).mono fun e W' ⟨he, bel⟩ => ?_
  subst he
  exact ⟨_, rfl, _, _, _, [], _, [], hW', trodAll_mk1 (shut_bool Try.underlying4 _), (trodAll_cons_mk (Below.trod laidOut (by kernel_rfl) (of_decide_eq_true (by kernel_rfl)) k0 bel lt0) trodAll_mk0), rfl, bel.frame _, fun h => by cases h⟩

theorem proved : Rows.FrameLaysSaid :=
  OpenClaim.holds_of_wide 6 Try.f6 rfl rfl rfl rfl rfl rfl rfl ⟨rfl, rfl, rfl, rfl, rfl⟩ rfl rfl rfl rfl rfl (by kernel_rfl) Try.func6 (by kernel_rfl)
    (of_decide_eq_true (by kernel_rfl)) (by unfold Func.isWrapper; first | (rw [if_pos (by decide +kernel)]; kernel_rfl) | (rw [if_neg (by decide +kernel)]; exact ⟨rfl, rfl⟩))
    (fun os started H enc _ => lifted os started H enc)
end Go.Proofs.Ytmjojfngdfnabaa.frameLays
namespace Go.Proofs.Ytmjojfngdfnabaa
theorem frameLays_holds : Rows.FrameLaysSaid := frameLays.proved
#print axioms frameLays_holds
end Go.Proofs.Ytmjojfngdfnabaa
