/- Proved: for all bytes and every place wire.TakeNumber answers the number and where it ends, or the error, as the document's answer does; no condition. -/
import Derived.Test.YtmnpokjccbafdaaArg
import Derived.Test.YtmnpokjccbafdaaWliv
import Derived.Test.YtmnpokjccbafdaaRfn
namespace Go.Proofs.Ytmnpokjccbafdaa.wireTakes
open Go.ChangeShapes Go.WideShapes Go.ChangeAt Go.RowKit
set_option linter.unusedVariables false

theorem own : ownKnob Try.prog.godebug = none := by kernel_rfl
theorem laidOut : laidOutB Try.prog = true := by kernel_rfl

set_option maxHeartbeats 1000000 in
theorem walk (a0 : Option Addr) (c0 : Nat) (l0 : List Nat) (n1 : Int) (w : World) (hc0 : l0.length ≤ c0) (hm0 : c0 ≤ 140737488355328) (hb0 : BytesAt w a0 l0) (hz0 : a0 = none → c0 = 0) (hn1 : -9223372036854775808 ≤ n1 ∧ n1 ≤ 9223372036854775807) :
    Calls Try.prog 4 #[.slice a0 l0.length c0, .int .i64 n1] w fun e w' => e = .returned (.bool true) ∧ Below w.heap.size w w' := by
  have HB := hide hb0
  have HL := hide (show l0.length ≤ 140737488355328 by omega)
  have HM := hide (show l0.length ≤ maxLen by simp only [maxLen]; omega)
  clear hb0 hc0 hm0 hz0 hn1
  go_enter Try.func4, Try.ntmps4
  go_wp2_with fail
  by_cases h : 0 ≤ n1 ∧ n1 ≤ (l0.length : Int)
  · obtain ⟨k, rfl⟩ := Int.eq_ofNat_of_zero_le h.1
    have hk : k ≤ l0.length := by omega
    have HK := hide hk
    clear h hk
    by_cases h0 : (takeN l0 k).1 = 0
    · obtain ⟨n, k2, ht⟩ : ∃ n k2, takeN l0 k = (0, n, k2) := ⟨(takeN l0 k).2.1, (takeN l0 k).2.2, by rw [← h0]⟩
      have HT := hide ht
      clear h0 ht
      refine (take_ok a0 _ c0 l0 k n k2 _ _ rfl rfl (unhide HM) (unhide HK) (unhide HB) (unhide HT)).mono ?_
      rintro e W1 ⟨rfl, hb1⟩
      have F1 := hide hb1
      have B1 := hide ((unhide HB).later hb1)
      clear hb1
      go_wp2_with fail
      refine (refTake_calls a0 _ c0 l0 k _ _ rfl rfl (unhide HL) (unhide HK) (unhide B1)).mono ?_
      rintro e W2 ⟨rfl, rfl⟩
      rw [takeV, unhide HT]
      simp only [if_true]
      go_wp2_with fail
      refine (live2_calls _).mono ?_
      rintro e W3 ⟨rfl, hb3⟩
      have F3 := hide ((unhide F1).trans (hb3.mono (unhide F1).size))
      clear hb3
      go_wp2
      go_ret
      exact ⟨rfl, unhide F3⟩
    · obtain ⟨x, hx⟩ : ∃ x, (takeN l0 k).1 = x := ⟨_, rfl⟩
      have HX := hide hx
      have hx0 : x ≠ 0 := by rw [← hx]; exact h0
      have H0 := hide hx0
      clear h0 hx hx0
      refine (take_bad a0 _ c0 l0 k x _ _ rfl rfl (unhide HM) (unhide HK) (unhide HB) (unhide HX) (unhide H0)).mono ?_
      rintro e W1 ⟨rfl, hb1⟩
      have F1 := hide hb1
      have B1 := hide ((unhide HB).later hb1)
      clear hb1
      go_wp2_with fail
      refine (refTake_calls a0 _ c0 l0 k _ _ rfl rfl (unhide HL) (unhide HK) (unhide B1)).mono ?_
      rintro e W2 ⟨rfl, rfl⟩
      rw [takeV, unhide HX, if_neg (unhide H0)]
      go_wp2_with fail
      refine (live2_calls _).mono ?_
      rintro e W3 ⟨rfl, hb3⟩
      have F3 := hide ((unhide F1).trans (hb3.mono (unhide F1).size))
      clear hb3
      go_wp2
      go_ret
      exact ⟨rfl, unhide F3⟩
  · have H := hide h
    clear h
    refine (take_arg a0 c0 l0 n1 _ (unhide H)).mono ?_
    rintro e W1 ⟨rfl, rfl⟩
    go_wp2_with fail
    refine (refTake_arg a0 _ c0 l0 n1 _ rfl (unhide H)).mono ?_
    rintro e W2 ⟨rfl, rfl⟩
    go_wp2_with fail
    refine (live2_calls _).mono ?_
    rintro e W3 ⟨rfl, hb3⟩
    have F3 := hide hb3
    clear hb3
    go_wp2
    go_ret
    exact ⟨rfl, unhide F3⟩

set_option maxRecDepth 100000 in
theorem lifted (os : Os) (started : os.Started) (H : Type) (enc : TypeId × Value → H) :
    ReturnsInHanded {} Try.checked os 4 .any (Rows.wireTakesSpec.pre6 enc Try.prog Try.f4 Rows.wireTakesRow.domain false) (Rows.wireTakesSpec.post enc Try.prog Try.f4 false true false false) := by
  refine returnsInHanded_of_change_sized (C := Try.checked) own started (by kernel_rfl) Try.func4
    (ChangeSpec.witness6 (enc := enc) (C := Try.checked) false ⟨#[], #[.slice none 0 0, .int .i64 0], []⟩ 8 (by kernel_rfl) (by kernel_rfl) (by kernel_rfl) (by kernel_rfl)) ?_
  intro W base args ds gs before hval0 hW hcnd hsz _
  have hval : ∀ (j : Nat) t v, Try.f4.params[j]? = some t → args[j]? = some v → Value.okWide Try.prog W .any base t v := hval0
  have hW' := hW
  obtain ⟨p, q, hA0, hV, rfl, hfz, hnd⟩ := hW
  have hA : DataW.TrodAll enc Try.prog W 0 (fun _ => true) true Try.f4.params.toList args.toList ds p := hA0
  rw [Try.params4] at hA hval
  obtain ⟨v0, vs0, d0, ds0, p0, q0, hargs, rfl, rfl, h0, r0⟩ := trodAll_cons hA
  obtain ⟨v1, vs1, d1, ds1, p1, q1, rfl, rfl, rfl, h1, r1⟩ := trodAll_cons r0
  obtain ⟨rfl, rfl, rfl⟩ := trodAll_nil r1
  obtain rfl : args = #[v0, v1] := by cases args; simp_all
  obtain ⟨rfl, rfl⟩ := trodVars_none hV
  obtain ⟨a0, len0, c0, rfl⟩ := okWide_slice Try.underlying22 (hval 0 22 v0 rfl rfl)
  have k0 := h0
  have lt0 : ∀ x ∈ p0, x.block < W.heap.size := by obtain ⟨m, hm⟩ := k0; exact DataW.trod_lt m _ _ _ hm
  obtain ⟨l0, rfl, hc0, hx0, hb0, hz0, hr0⟩ := row8 h0
  obtain ⟨n1, rfl, rfl, rfl, w1⟩ := open_int Try.underlying3 (hval 1 3 v1 rfl rfl) h1
  have hn1 := i64_bounds w1
  clear hA0 hval0
  have hm0 : c0 ≤ 140737488355328 := reach8 hsz (j := 0) (d := d0) rfl rfl hr0
  refine (walk a0 c0 l0 n1 W hc0 hm0 hb0 hz0 hn1).mono fun e W' ⟨he, bel⟩ => ?_
  subst he
  exact ⟨_, rfl, _, _, _, [], _, [], hW', trodAll_mk1 (shut_bool Try.underlying4 _), (trodAll_cons_mk (Below.trod laidOut (by kernel_rfl) (of_decide_eq_true (by kernel_rfl)) k0 bel lt0) (trodAll_cons_mk (shut_int Try.underlying3 w1) trodAll_mk0)), rfl, bel.frame _, fun h => by cases h⟩

theorem proved : Rows.WireTakesSaid :=
  OpenClaim.holds_of_wide 4 Try.f4 rfl rfl rfl rfl rfl rfl rfl ⟨rfl, rfl, rfl, rfl, rfl⟩ rfl rfl rfl rfl rfl (by kernel_rfl) Try.func4 (by kernel_rfl)
    (of_decide_eq_true (by kernel_rfl)) (by unfold Func.isWrapper; first | (rw [if_pos (by decide +kernel)]; kernel_rfl) | (rw [if_neg (by decide +kernel)]; exact ⟨rfl, rfl⟩))
    (fun os started H enc _ => lifted os started H enc)
end Go.Proofs.Ytmnpokjccbafdaa.wireTakes
namespace Go.Proofs.Ytmnpokjccbafdaa
theorem wireTakes_holds : Rows.WireTakesSaid := wireTakes.proved
#print axioms wireTakes_holds
end Go.Proofs.Ytmnpokjccbafdaa
