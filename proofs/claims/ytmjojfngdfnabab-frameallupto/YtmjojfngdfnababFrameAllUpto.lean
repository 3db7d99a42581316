/- Proved: frame.All tells all frames from the beginning on, and the place behind them, as the document's answer does; for all bytes whose values number at most 1048576. -/
import Derived.Test.YtmjojfngdfnababArg
import Derived.Test.YtmjojfngdfnababRefAll
import Derived.Test.YtmjojfngdfnababBulk
import Derived.JoinedCond
namespace Go.Proofs.Ytmjojfngdfnabab.frameAllUpto
open Go.ChangeShapes Go.WideShapes Go.ChangeAt Go.RowKit
set_option linter.unusedVariables false

theorem own : ownKnob Try.prog.godebug = none := by kernel_rfl
theorem laidOut : laidOutB Try.prog = true := by kernel_rfl

set_option maxHeartbeats 1000000 in
theorem walk (a0 : Option Addr) (c0 : Nat) (l0 : List Nat) (w : World) (hc0 : l0.length ≤ c0) (hm0 : c0 ≤ 1048576) (hb0 : BytesAt w a0 l0) (hz0 : a0 = none → c0 = 0) :
    Calls Try.prog 5 #[.slice a0 l0.length c0] w fun e w' => e = .returned (.bool true) ∧ Below w.heap.size w w' := by
  have HB := hide hb0
  have Hz := hide hz0
  clear hb0 hz0
  go_enter Try.func5, Try.ntmps5
  go_wp2_with fail
  refine (all_calls _ _ l0 _ (by omega) hc0 (unhide HB)).mono ?_
  rintro e W1 ⟨v, hs, k, rfl, hb1, ho1, hst, he, hk⟩
  obtain ⟨sp, c1, rfl⟩ := ho1.form
  have R1 := hide ho1.rows
  have HB1 := hide ((unhide HB).later hb1)
  have Hst := hide hst
  have He := hide he
  have hlen : hs.length ≤ 1048576 := by have := hst.length_le; omega
  clear ho1 hst he
  go_wp2_with fail
  refine (refAll_calls _ _ l0 _ (by omega) hc0 (unhide Hz) (unhide HB1)).mono ?_
  rintro e W2 ⟨v2, hs2, k2, rfl, hb2, ho2, hst2, he2, hk2⟩
  obtain ⟨rfl, rfl⟩ := Steps.uniq (unhide Hst) (unhide He) hst2 he2
  obtain ⟨sp2, c2, rfl⟩ := ho2.form
  have R2 := hide ho2.rows
  have R1' := hide ((unhide R1).later hb2)
  clear ho2 hst2 he2
  go_wp2_with fail
  refine (live_calls _).mono ?_
  rintro e W3 ⟨rfl, hb3⟩
  have R2b := hide ((unhide R2).later hb3)
  have R1b := hide ((unhide R1').later hb3)
  go_wp2_with fail
  refine (sameRows_calls _ _ _ _ hs _ (by simp only [maxLen]; omega) (unhide R1b) (unhide R2b)).mono ?_
  rintro e W4 ⟨rfl, hb4⟩
  go_wp2
  go_ret
  exact ⟨rfl, hb1.trans ((hb2.trans ((hb3.trans (hb4.mono hb3.size)).mono hb2.size)).mono hb1.size)⟩

set_option maxRecDepth 100000 in
theorem lifted (os : Os) (started : os.Started) (H : Type) (enc : TypeId × Value → H) (F : Stop.Interp) :
    ReturnsInHanded {} Try.checked os 5 .any ((Rows.OpenSpec.upto Rows.frameAllSpec).pre6 enc Try.prog Try.f5 Rows.frameAllUptoRow.domain false) (((Rows.OpenSpec.upto Rows.frameAllSpec).at F).post enc Try.prog Try.f5 false true false false) := by
  refine returnsInHanded_of_cond (C := Try.checked) (s := Rows.OpenSpec.upto Rows.frameAllSpec) (k := Rows.uptoSmall) rfl own started (by kernel_rfl) Try.func5
    (OpenSpec.witness (enc := enc) (C := Try.checked) (s := Rows.OpenSpec.upto Rows.frameAllSpec) (k := Rows.uptoSmall) rfl false ⟨#[], #[.slice none 0 0], []⟩ 8 (by kernel_rfl) (by kernel_rfl) (by kernel_rfl)
      (x := ([.nil], [], [])) (by kernel_rfl) rfl (by kernel_rfl)) ?_
  intro W base args ds gs before hval0 hW hcnd hk _
  have hval : ∀ (j : Nat) t v, Try.f5.params[j]? = some t → args[j]? = some v → Value.okWide Try.prog W .any base t v := hval0
  have hW' := hW
  obtain ⟨p, q, hA0, hV, rfl, hfz, hnd⟩ := hW
  have hA : DataW.TrodAll enc Try.prog W 0 (fun _ => true) true Try.f5.params.toList args.toList ds p := hA0
  rw [Try.params5] at hA hval
  obtain ⟨v0, vs0, d0, ds0, p0, q0, hargs, rfl, rfl, h0, r0⟩ := trodAll_cons hA
  obtain ⟨rfl, rfl, rfl⟩ := trodAll_nil r0
  obtain rfl : args = #[v0] := by cases args; simp_all
  obtain ⟨rfl, rfl⟩ := trodVars_none hV
  obtain ⟨a0, len0, c0, rfl⟩ := okWide_slice Try.underlying22 (hval 0 22 v0 rfl rfl)
  have k0 := h0
  have lt0 : ∀ x ∈ p0, x.block < W.heap.size := by obtain ⟨m, hm⟩ := k0; exact DataW.trod_lt m _ _ _ hm
  obtain ⟨l0, rfl, hc0, hx0, hb0, hz0, hr0⟩ := row8 h0
  clear hA0 hval0
  have hm0 := bulk8 hk (List.mem_append_left _ (by simp : d0 ∈ [d0])) hr0
  refine (walk a0 c0 l0 W hc0 hm0 hb0 hz0).mono fun e W' ⟨he, bel⟩ => ?_
  subst he
  exact ⟨_, rfl, _, _, _, [], _, [], hW', trodAll_mk1 (shut_bool Try.underlying4 _), (trodAll_cons_mk (Below.trod laidOut (by kernel_rfl) (of_decide_eq_true (by kernel_rfl)) k0 bel lt0) trodAll_mk0), rfl, bel.frame _, fun h => by cases h⟩

theorem proved : Rows.FrameAllUptoSaid :=
  OpenClaim.holds_of_cond 5 Try.f5 rfl rfl rfl rfl rfl rfl rfl ⟨rfl, rfl, rfl, rfl, rfl⟩ rfl rfl rfl rfl rfl (by kernel_rfl) Try.func5 (by kernel_rfl)
    (of_decide_eq_true (by kernel_rfl)) (by unfold Func.isWrapper; first | (rw [if_pos (by decide +kernel)]; kernel_rfl) | (rw [if_neg (by decide +kernel)]; exact ⟨rfl, rfl⟩))
    (fun os started H enc _ F => lifted os started H enc F)
end Go.Proofs.Ytmjojfngdfnabab.frameAllUpto
namespace Go.Proofs.Ytmjojfngdfnabab
theorem frameAllUpto_holds : Rows.FrameAllUptoSaid := frameAllUpto.proved
#print axioms frameAllUpto_holds
end Go.Proofs.Ytmjojfngdfnabab
