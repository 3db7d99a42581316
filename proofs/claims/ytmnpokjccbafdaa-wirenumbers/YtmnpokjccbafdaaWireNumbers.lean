/- Proved: for every number wire.Number answers the number's bytes, or the error, as the document's answer does; no condition. -/
import Derived.Test.YtmnpokjccbafdaaArg
import Derived.Test.YtmnpokjccbafdaaWliv
import Derived.Test.YtmnpokjccbafdaaRfn
namespace Go.Proofs.Ytmnpokjccbafdaa.wireNumbers
open Go.ChangeShapes Go.WideShapes Go.ChangeAt Go.RowKit
set_option linter.unusedVariables false

theorem own : ownKnob Try.prog.godebug = none := by kernel_rfl
theorem laidOut : laidOutB Try.prog = true := by kernel_rfl

theorem str_same (l : List Nat) : ((strOf l).toList == (strOf l).toList) = true := by simp

set_option maxHeartbeats 1000000 in
theorem walk (n0 : Int) (w : World) (hn0 : -9223372036854775808 ≤ n0 ∧ n0 ≤ 9223372036854775807) :
    Calls Try.prog 3 #[.int .i64 n0] w fun e w' => e = .returned (.bool true) ∧ Below w.heap.size w w' := by
  have HN := hide hn0
  clear hn0
  have hnil : ∀ (W : World), BytesAt W none [] := fun W => ⟨by simp, by simp⟩
  have HN := hide hnil
  clear hnil
  go_enter Try.func3, Try.ntmps3
  go_wp2_with fail
  by_cases h : 0 ≤ n0 ∧ n0 ≤ 1099511627776
  · obtain ⟨n, rfl⟩ := Int.eq_ofNat_of_zero_le h.1
    have hn : n ≤ 1099511627776 := by omega
    clear h
    refine (number_yes n _ hn).mono ?_
    rintro e W1 ⟨sp1, m1, c1, rfl, hm1, ho1, hb1⟩
    have B1 := hide ho1.bytes
    have F1 := hide hb1
    clear ho1 hb1
    go_wp2_with fail
    refine (refNumber_yes n _ hn).mono ?_
    rintro e W2 ⟨sp2, m2, c2, rfl, hm2, ho2, hb2⟩
    have B2 := hide ho2.bytes
    have B1' := hide ((unhide B1).later hb2)
    have F2 := hide ((unhide F1).trans (hb2.mono (unhide F1).size))
    clear ho2 hb2 B1 F1
    generalize numB n = l at *
    go_wp2_with fail
    refine (live2_calls _).mono ?_
    rintro e W3 ⟨rfl, hb3⟩
    have s1 := run_string8 (c := c1) m1 (unhide hm1) ((unhide B1').later hb3)
    have s2 := run_string8 (c := c2) m2 (unhide hm2) ((unhide B2).later hb3)
    have t1 := str_same l
    have F3 := hide ((unhide F2).trans (hb3.mono (unhide F2).size))
    clear hb3
    go_wp2
    go_ret
    exact ⟨rfl, unhide F3⟩
  · have H := hide h
    clear h
    refine (number_no n0 _ (unhide H)).mono ?_
    rintro e W1 ⟨rfl, rfl⟩
    go_wp2_with fail
    refine (refNumber_no n0 _ (unhide H)).mono ?_
    rintro e W2 ⟨rfl, rfl⟩
    go_wp2_with fail
    refine (live2_calls _).mono ?_
    rintro e W3 ⟨rfl, hb3⟩
    have s1 := run_string8 (w := W3) (c := 0) 0 rfl (unhide HN W3)
    have t1 := str_same []
    have F3 := hide hb3
    clear hb3
    go_wp2
    go_ret
    exact ⟨rfl, unhide F3⟩

set_option maxRecDepth 100000 in
theorem lifted (os : Os) (started : os.Started) (H : Type) (enc : TypeId × Value → H) :
    ReturnsInHanded {} Try.checked os 3 .any (Rows.wireNumbersSpec.pre6 enc Try.prog Try.f3 Rows.wireNumbersRow.domain false) (Rows.wireNumbersSpec.post enc Try.prog Try.f3 false true false false) := by
  refine returnsInHanded_of_change_sized (C := Try.checked) own started (by kernel_rfl) Try.func3
    (ChangeSpec.witness6 (enc := enc) (C := Try.checked) false ⟨#[], #[.int .i64 0], []⟩ 8 (by kernel_rfl) (by kernel_rfl) (by kernel_rfl) (by kernel_rfl)) ?_
  intro W base args ds gs before hval0 hW hcnd hsz _
  have hval : ∀ (j : Nat) t v, Try.f3.params[j]? = some t → args[j]? = some v → Value.okWide Try.prog W .any base t v := hval0
  have hW' := hW
  obtain ⟨p, q, hA0, hV, rfl, hfz, hnd⟩ := hW
  have hA : DataW.TrodAll enc Try.prog W 0 (fun _ => true) true Try.f3.params.toList args.toList ds p := hA0
  rw [Try.params3] at hA hval
  obtain ⟨v0, vs0, d0, ds0, p0, q0, hargs, rfl, rfl, h0, r0⟩ := trodAll_cons hA
  obtain ⟨rfl, rfl, rfl⟩ := trodAll_nil r0
  obtain rfl : args = #[v0] := by cases args; simp_all
  obtain ⟨rfl, rfl⟩ := trodVars_none hV
  obtain ⟨n0, rfl, rfl, rfl, w0⟩ := open_int Try.underlying3 (hval 0 3 v0 rfl rfl) h0
  have hn0 := i64_bounds w0
  clear hA0 hval0
  refine (walk n0 W hn0).mono fun e W' ⟨he, bel⟩ => ?_
  subst he
  exact ⟨_, rfl, _, _, _, [], _, [], hW', trodAll_mk1 (shut_bool Try.underlying4 _), (trodAll_cons_mk (shut_int Try.underlying3 w0) trodAll_mk0), rfl, bel.frame _, fun h => by cases h⟩

theorem proved : Rows.WireNumbersSaid :=
  OpenClaim.holds_of_wide 3 Try.f3 rfl rfl rfl rfl rfl rfl rfl ⟨rfl, rfl, rfl, rfl, rfl⟩ rfl rfl rfl rfl rfl (by kernel_rfl) Try.func3 (by kernel_rfl)
    (of_decide_eq_true (by kernel_rfl)) (by unfold Func.isWrapper; first | (rw [if_pos (by decide +kernel)]; kernel_rfl) | (rw [if_neg (by decide +kernel)]; exact ⟨rfl, rfl⟩))
    (fun os started H enc _ => lifted os started H enc)
end Go.Proofs.Ytmnpokjccbafdaa.wireNumbers
namespace Go.Proofs.Ytmnpokjccbafdaa
theorem wireNumbers_holds : Rows.WireNumbersSaid := wireNumbers.proved
#print axioms wireNumbers_holds
end Go.Proofs.Ytmnpokjccbafdaa
