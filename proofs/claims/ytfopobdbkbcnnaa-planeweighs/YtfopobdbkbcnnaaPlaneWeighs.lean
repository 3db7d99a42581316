/- Proved: the target that a draw takes, or none, is what the document says, by floats as they are; for all targets (the first 40 are weighed) and draws; no condition. -/
import Derived.Test.YtfopobdbkbcnnaaParg
import Derived.Test.YtfopobdbkbcnnaaPl8
namespace Go.Proofs.Ytfopobdbkbcnnaa.planeWeighs
open Go.ChangeShapes Go.WideShapes Go.ChangeAt Go.RowKit
set_option linter.unusedVariables false

theorem own : ownKnob Try.prog.godebug = none := by kernel_rfl
theorem laidOut : laidOutB Try.prog = true := by kernel_rfl

set_option maxRecDepth 20000 in
set_option maxHeartbeats 4000000 in
theorem walk (a : Option Addr) (c : Nat) (l : List Tg) (d : Nat) (w : World) (hx : l.length ≤ maxLen ∧ l.length ≤ c) (hb : TgsAt w a l) (hd : d < 18446744073709551616) :
    Calls Try.prog 6 #[.slice a l.length c, .float .f64 d] w fun e w' => e = .returned (.bool true) ∧ Below w.heap.size w w' := by
  have F1 := hide (fun (w : World) => few_calls (w := w) (a := a) l.length c hx.2)
  have hlen : (l.take 40).length = min l.length 40 := by rw [List.length_take, Nat.min_comm]
  have W1 := hide (fun W (hb2 : Below w.heap.size w W) => weigh_calls ((hb.later hb2).take 40) (min l.length 40) c hlen (by omega) d hd)
  have W2 := hide (fun W (hb2 : Below w.heap.size w W) => rweigh_calls ((hb.later hb2).take 40) (min l.length 40) c hlen (by omega) d hd)
  clear hlen hx hb hd
  generalize l.length = n at *
  generalize min n 40 = k at *
  cases hr : weighN (l.take 40) d with
  | none =>
    rw [hr] at W1 W2
    unfold firstV at W1 W2
    go_enter Try.func6, Try.ntmps6
    go_wp2_with (first
      | (go_at_call 19; refine (unhide F1 _).mono ?_; rintro e V ⟨rfl, rfl⟩)
      | (go_at_call 18; refine (unhide W1 _ (Below.refl _ _)).mono ?_; rintro e V1 ⟨rfl, b1⟩; have B1 := hide b1; clear b1)
      | (go_at_call 20; refine (unhide W2 _ (unhide B1)).mono ?_; rintro e V2 ⟨rfl, b2⟩; have B2 := hide ((unhide B1).trans (b2.mono (unhide B1).size)); clear b2)
      | (go_at_call 12; refine (live10_calls _).mono ?_; rintro e V3 ⟨rfl, b3⟩; have B3 := hide ((unhide B2).trans (b3.mono (unhide B2).size)); clear b3))
    go_ret
    exact ⟨rfl, unhide B3⟩
  | some i =>
    rw [hr] at W1 W2
    unfold firstV at W1 W2
    go_enter Try.func6, Try.ntmps6
    go_wp2_with (first
      | (go_at_call 19; refine (unhide F1 _).mono ?_; rintro e V ⟨rfl, rfl⟩)
      | (go_at_call 18; refine (unhide W1 _ (Below.refl _ _)).mono ?_; rintro e V1 ⟨rfl, b1⟩; have B1 := hide b1; clear b1)
      | (go_at_call 20; refine (unhide W2 _ (unhide B1)).mono ?_; rintro e V2 ⟨rfl, b2⟩; have B2 := hide ((unhide B1).trans (b2.mono (unhide B1).size)); clear b2)
      | (go_at_call 12; refine (live10_calls _).mono ?_; rintro e V3 ⟨rfl, b3⟩; have B3 := hide ((unhide B2).trans (b3.mono (unhide B2).size)); clear b3))
    go_ret
    exact ⟨rfl, unhide B3⟩

set_option maxRecDepth 100000 in
theorem lifted (os : Os) (started : os.Started) (H : Type) (enc : TypeId × Value → H) :
    ReturnsInHanded {} Try.checked os 6 .any (Rows.planeWeighsSpec.pre6 enc Try.prog Try.f6 Rows.planeWeighsRow.domain false) (Rows.planeWeighsSpec.post enc Try.prog Try.f6 false true false false) := by
  refine returnsInHanded_of_change_sized (C := Try.checked) own started (by kernel_rfl) Try.func6
    (ChangeSpec.witness6 (enc := enc) (C := Try.checked) false ⟨#[], #[.slice none 0 0, .float .f64 0], []⟩ 8 (by kernel_rfl) (by kernel_rfl) (by kernel_rfl) (by kernel_rfl)) ?_
  intro W base args ds gs before hval0 hW hcnd hsz _
  have hval : ∀ (j : Nat) t v, Try.f6.params[j]? = some t → args[j]? = some v → Value.okWide Try.prog W .any base t v := hval0
  have hW' := hW
  obtain ⟨p, q, hA0, hV, rfl, hfz, hnd⟩ := hW
  have hA : DataW.TrodAll enc Try.prog W 0 (fun _ => true) true Try.f6.params.toList args.toList ds p := hA0
  rw [Try.params6] at hA hval
  obtain ⟨v0, vs0, d0, ds0, p0, q0, hargs, rfl, rfl, h0, r0⟩ := trodAll_cons hA
  obtain ⟨v1, vs1, d1, ds1, p1, q1, rfl, rfl, rfl, h1, r1⟩ := trodAll_cons r0
  obtain ⟨rfl, rfl, rfl⟩ := trodAll_nil r1
  obtain rfl : args = #[v0, v1] := by cases args; simp_all
  obtain ⟨rfl, rfl⟩ := trodVars_none hV
  obtain ⟨a0, len0, c0, rfl⟩ := okWide_slice Try.underlying37 (hval 0 37 v0 rfl rfl)
  have k0 := h0
  have lt0 : ∀ x ∈ p0, x.block < W.heap.size := by obtain ⟨m, hm⟩ := k0; exact DataW.trod_lt m _ _ _ hm
  obtain ⟨l0, rfl, hx0, hb0⟩ := targets_arg h0
  obtain ⟨n1, rfl, rfl, rfl, w1⟩ := open_float Try.underlying38 (hval 1 38 v1 rfl rfl) h1
  have hn1 := f64_lt w1
  clear hA0 hval0
  refine (walk a0 c0 l0 n1 W hx0 hb0 hn1).mono fun e W' ⟨he, bel⟩ => ?_
  subst he
  exact ⟨_, rfl, _, _, _, [], _, [], hW', trodAll_mk1 (shut_bool Try.underlying4 _), (trodAll_cons_mk (Below.trod laidOut (by kernel_rfl) (of_decide_eq_true (by kernel_rfl)) k0 bel lt0) (trodAll_cons_mk (shut_float Try.underlying38 w1) trodAll_mk0)), rfl, bel.frame _, fun h => by cases h⟩

theorem proved : Rows.PlaneWeighsSaid :=
  OpenClaim.holds_of_wide 6 Try.f6 rfl rfl rfl rfl rfl rfl rfl ⟨rfl, rfl, rfl, rfl, rfl⟩ rfl rfl rfl rfl rfl (by kernel_rfl) Try.func6 (by kernel_rfl)
    (of_decide_eq_true (by kernel_rfl)) (by unfold Func.isWrapper; first | (rw [if_pos (by decide +kernel)]; kernel_rfl) | (rw [if_neg (by decide +kernel)]; exact ⟨rfl, rfl⟩))
    (fun os started H enc _ => lifted os started H enc)
end Go.Proofs.Ytfopobdbkbcnnaa.planeWeighs
namespace Go.Proofs.Ytfopobdbkbcnnaa
theorem planeWeighs_holds : Rows.PlaneWeighsSaid := planeWeighs.proved
#print axioms planeWeighs_holds
end Go.Proofs.Ytfopobdbkbcnnaa
