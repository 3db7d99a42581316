/- Proved: for every entry wire.PutEntry answers the entry's bytes, or the error, as the document's answer does; no condition. -/
import Derived.Test.YtmnpokjccbafdaaStr
import Derived.Test.YtmnpokjccbafdaaWliv
import Derived.Test.YtmnpokjccbafdaaPue
namespace Go.Proofs.Ytmnpokjccbafdaa.wireEntries
open Go.ChangeShapes Go.WideShapes Go.ChangeAt Go.RowKit
set_option linter.unusedVariables false

theorem own : ownKnob Try.prog.godebug = none := by kernel_rfl
theorem laidOut : laidOutB Try.prog = true := by kernel_rfl

theorem str_same (l : List Nat) : ((strOf l).toList == (strOf l).toList) = true := by simp
set_option maxHeartbeats 1000000 in
theorem walk (k0 t0 u0 : Int) (a0 : Option Addr) (c0 : Nat) (l0 : List Nat) (w : World) (bk0 : -9223372036854775808 ≤ k0 ∧ k0 ≤ 9223372036854775807) (bt0 : -9223372036854775808 ≤ t0 ∧ t0 ≤ 9223372036854775807) (bu0 : -9223372036854775808 ≤ u0 ∧ u0 ≤ 9223372036854775807)
    (hc0 : l0.length ≤ c0) (hx0 : c0 ≤ maxLen) (hb0 : BytesAt w a0 l0) (hz0 : a0 = none → c0 = 0) :
    Calls Try.prog 6 #[.agg #[.int .i64 k0, .int .i64 t0, .int .i64 u0, .slice a0 l0.length c0]] w fun e w' => e = .returned (.bool true) ∧ Below w.heap.size w w' := by
  obtain ⟨b, x, hP, hQ⟩ := putEntry_both k0 t0 u0 a0 l0.length c0 l0 rfl hz0
  have HP := hide hP
  have HQ := hide hQ
  have HB := hide hb0
  have HX := hide (heap_new w (entB k0 t0 u0 a0 l0.length c0))
  obtain ⟨d0, d1, d2, d3⟩ := entB_cells (unhide HX)
  have bA := hide (show Below w.heap.size w (w.alloc (entB k0 t0 u0 a0 l0.length c0)) from (Below.refl _ _).alloc (Nat.le_refl _) _)
  have hsz := hide (size_alloc w (entB k0 t0 u0 a0 l0.length c0))
  clear hP hQ hb0 hz0 hc0 hx0 bk0 bt0 bu0
  go_enter Try.func6, Try.ntmps6
  go_wp2_with fail
  generalize w.alloc _ = W at *
  refine (unhide HP _ ((unhide HB).later (unhide bA))).mono ?_
  rintro e W1 ⟨sp1, n1, k1, rfl, hn1, hB1, hb1⟩
  obtain ⟨e0, e1, e2, e3⟩ := entB_cells ((hb1.block _ (by rw [unhide hsz]; omega)).trans (unhide HX))
  have B1 := hide hB1
  have F1 := hide ((unhide bA).trans (hb1.mono (unhide bA).size))
  clear hb1 hB1 bA d0 d1 d2 d3
  go_wp2_with fail
  refine (unhide HQ _ ((unhide HB).later (unhide F1))).mono ?_
  rintro e W2 ⟨sp2, n2, k2, rfl, hn2, hB2, hb2⟩
  have B2 := hide hB2
  have B1' := hide ((unhide B1).later hb2)
  have F2 := hide ((unhide F1).trans (hb2.mono (unhide F1).size))
  clear hb2 hB2 F1 B1 e0 e1 e2 e3
  go_wp2_with fail
  refine (live2_calls _).mono ?_
  rintro e W7 ⟨rfl, hb7⟩
  have s1 := run_string8 (c := k1) n1 (unhide hn1) ((unhide B1').later hb7)
  have s2 := run_string8 (c := k2) n2 (unhide hn2) ((unhide B2).later hb7)
  have t1 := str_same b
  have F7 := hide ((unhide F2).trans (hb7.mono (unhide F2).size))
  clear hb7
  go_wp2
  go_ret
  exact ⟨rfl, unhide F7⟩

set_option maxRecDepth 100000 in
theorem lifted (os : Os) (started : os.Started) (H : Type) (enc : TypeId × Value → H) :
    ReturnsInHanded {} Try.checked os 6 .any (Rows.wireEntriesSpec.pre6 enc Try.prog Try.f6 Rows.wireEntriesRow.domain false) (Rows.wireEntriesSpec.post enc Try.prog Try.f6 false true false false) := by
  refine returnsInHanded_of_change_sized (C := Try.checked) own started (by kernel_rfl) Try.func6
    (ChangeSpec.witness6 (enc := enc) (C := Try.checked) false ⟨#[], #[.agg #[.int .i64 0, .int .i64 0, .int .i64 0, .slice none 0 0]], []⟩ 8 (by kernel_rfl) (by kernel_rfl) (by kernel_rfl) (by kernel_rfl)) ?_
  intro W base args ds gs before hval0 hW hcnd hsz _
  have hval : ∀ (j : Nat) t v, Try.f6.params[j]? = some t → args[j]? = some v → Value.okWide Try.prog W .any base t v := hval0
  have hW' := hW
  obtain ⟨p, q, hA0, hV, rfl, hfz, hnd⟩ := hW
  have hA : DataW.TrodAll enc Try.prog W 0 (fun _ => true) true Try.f6.params.toList args.toList ds p := hA0
  rw [Try.params6] at hA hval
  obtain ⟨v0, vs0, d0, ds0, p0, q0, hargs, rfl, rfl, h0, r0⟩ := trodAll_cons hA
  obtain ⟨rfl, rfl, rfl⟩ := trodAll_nil r0
  obtain rfl : args = #[v0] := by cases args; simp_all
  obtain ⟨rfl, rfl⟩ := trodVars_none hV
  have k0 := h0
  have lt0 : ∀ x ∈ p0, x.block < W.heap.size := by obtain ⟨m, hm⟩ := k0; exact DataW.trod_lt m _ _ _ hm
  obtain ⟨k0e, t0, u0, a0, c0, l0, rfl, bk0, bt0, bu0, hc0, hx0, hb0, hz0⟩ := open_entry (hval 0 34 v0 rfl rfl) h0
  clear hA0 hval0
  refine (walk k0e t0 u0 a0 c0 l0 W bk0 bt0 bu0 hc0 hx0 hb0 hz0).mono fun e W' ⟨he, bel⟩ => ?_
  subst he
  exact ⟨_, rfl, _, _, _, [], _, [], hW', trodAll_mk1 (shut_bool Try.underlying4 _), (trodAll_cons_mk (Below.trod laidOut (by kernel_rfl) (of_decide_eq_true (by kernel_rfl)) k0 bel lt0) trodAll_mk0), rfl, bel.frame _, fun h => by cases h⟩

theorem proved : Rows.WireEntriesSaid :=
  OpenClaim.holds_of_wide 6 Try.f6 rfl rfl rfl rfl rfl rfl rfl ⟨rfl, rfl, rfl, rfl, rfl⟩ rfl rfl rfl rfl rfl (by kernel_rfl) Try.func6 (by kernel_rfl)
    (of_decide_eq_true (by kernel_rfl)) (by unfold Func.isWrapper; first | (rw [if_pos (by decide +kernel)]; kernel_rfl) | (rw [if_neg (by decide +kernel)]; exact ⟨rfl, rfl⟩))
    (fun os started H enc _ => lifted os started H enc)
end Go.Proofs.Ytmnpokjccbafdaa.wireEntries
namespace Go.Proofs.Ytmnpokjccbafdaa
theorem wireEntries_holds : Rows.WireEntriesSaid := wireEntries.proved
#print axioms wireEntries_holds
end Go.Proofs.Ytmnpokjccbafdaa
