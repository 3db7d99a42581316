/- Proved: the sum of two rows of bytes, one behind the other, goes on from the first one's; for all rows whose values number at most 1048576. -/
import Derived.Test.YtmjojfngdfnabaaArg
import Derived.Test.YtmjojfngdfnabaaApp
import Derived.Test.YtmjojfngdfnabaaBulk
import Derived.JoinedCond
namespace Go.Proofs.Ytmjojfngdfnabaa.frameJoinedUpto
open Go.ChangeShapes Go.WideShapes Go.ChangeAt Go.RowKit
set_option linter.unusedVariables false

theorem own : ownKnob Try.prog.godebug = none := by kernel_rfl
theorem laidOut : laidOutB Try.prog = true := by kernel_rfl

set_option maxHeartbeats 1000000 in
theorem walk (a0 : Option Addr) (c0 : Nat) (l0 : List Nat) (a1 : Option Addr) (c1 : Nat) (l1 : List Nat) (w : World) (hc0 : l0.length ≤ c0) (hm0 : c0 ≤ 1048576) (hb0 : BytesAt w a0 l0) (hz0 : a0 = none → c0 = 0)
    (hc1 : l1.length ≤ c1) (hm1 : c1 ≤ 1048576) (hb1 : BytesAt w a1 l1) (hz1 : a1 = none → c1 = 0) :
    Calls Try.prog 4 #[.slice a0 l0.length c0, .slice a1 l1.length c1] w fun e w' => e = .returned (.bool true) ∧ Below w.heap.size w w' := by
  have HB0 := hide hb0
  have HB1 := hide hb1
  have Hz0 := hide hz0
  have Hz1 := hide hz1
  clear hb0 hb1 hz0 hz1
  have o1 := hide (OwnB.empty w w.heap.size (Nat.le_refl _))
  have b1 := hide (show Below w.heap.size w (w.alloc (.cells #[] 5)) from (Below.refl _ _).alloc (Nat.le_refl _) _)
  go_enter Try.func4, Try.ntmps4
  go_wp2_with (first
    | (at_builtin; refine wpList_append8 rfl (.tmp 6) (.tmp 7) rfl w.heap.size (some ⟨w.heap.size, 0, none⟩) 0 0 [] rfl rfl (by exact unhide o1) a0 l0.length c0 rfl l0 rfl (by exact (unhide HB0).later (unhide b1)) (unhide Hz0) ?s1 ?b1 ?_; rotate_right; intro sp1 n1 k1 W1 hn1 ho1 hg1 hb1')
    | (at_builtin; refine wpList_append8 rfl (.tmp 8) (.tmp 9) rfl w.heap.size sp1 n1 k1 ([] ++ l0) rfl (unhide hn1) (by exact ho1) a1 l1.length c1 rfl l1 rfl ?B2 (unhide Hz1) ?s2 ?b2 ?_; rotate_right; intro sp2 n2 k2 W2 hn2 ho2 hg2 hb2'))
  case s1 => simp only [List.length_nil]; omega
  case b1 => simp
  case B2 => exact (unhide HB1).later ((unhide b1).trans hb1')
  case s2 => simp only [List.nil_append]; omega
  case b2 => exact ((unhide b1).trans hb1').size
  have hbW2 : Below w.heap.size w W2 := ((unhide b1).trans hb1').trans hb2'
  have HO := hide ho2.bytes
  have HBW2 := hide hbW2
  rw [List.nil_append] at HO hn2
  clear ho1 hg1 hb1' ho2 hg2 hb2' hbW2 b1 o1
  refine (live_calls _).mono ?_
  rintro e W3 ⟨rfl, hb3⟩
  have O3 := hide ((unhide HO).later hb3)
  have A3 := hide ((unhide HB0).later ((unhide HBW2).trans (hb3.mono (unhide HBW2).size)))
  have B3 := hide ((unhide HB1).later ((unhide HBW2).trans (hb3.mono (unhide HBW2).size)))
  have hbW3 := hide ((unhide HBW2).trans (hb3.mono (unhide HBW2).size))
  clear hb3 HO HBW2
  go_wp2_with fail
  refine (sum_calls' _ _ _ (l0 ++ l1) _ (unhide hn2) (by simp only [List.length_append, maxLen]; omega) (unhide O3)).mono ?_
  rintro e W4 ⟨rfl, rfl⟩
  go_wp2_with fail
  refine (sum_calls _ _ l0 _ (by simp only [maxLen]; omega) (unhide A3)).mono ?_
  rintro e W5 ⟨rfl, rfl⟩
  go_wp2_with fail
  refine (extend_calls _ _ _ l1 _ (Crc.ext_lt _ _) (by simp only [maxLen]; omega) (unhide B3)).mono ?_
  rintro e W6 ⟨rfl, rfl⟩
  rw [Crc.ext_append 0 l0 l1 (unhide A3).lt]
  generalize Crc.ext 0 (l0 ++ l1) = s1 at *
  go_wp2_with fail
  refine (extend_calls 0 _ _ l1 _ (by decide) (by simp only [maxLen]; omega) (unhide B3)).mono ?_
  rintro e W7 ⟨rfl, rfl⟩
  go_wp2_with fail
  refine (sum_calls _ _ l1 _ (by simp only [maxLen]; omega) (unhide B3)).mono ?_
  rintro e W8 ⟨rfl, rfl⟩
  go_wp2
  go_ret
  exact ⟨rfl, unhide hbW3⟩

set_option maxRecDepth 100000 in
theorem lifted (os : Os) (started : os.Started) (H : Type) (enc : TypeId × Value → H) (F : Stop.Interp) :
    ReturnsInHanded {} Try.checked os 4 .any ((Rows.OpenSpec.upto Rows.frameJoinedSpec).pre6 enc Try.prog Try.f4 Rows.frameJoinedUptoRow.domain false) (((Rows.OpenSpec.upto Rows.frameJoinedSpec).at F).post enc Try.prog Try.f4 false true false false) := by
  refine returnsInHanded_of_cond (C := Try.checked) (s := Rows.OpenSpec.upto Rows.frameJoinedSpec) (k := Rows.uptoSmall) rfl own started (by kernel_rfl) Try.func4
    (OpenSpec.witness (enc := enc) (C := Try.checked) (s := Rows.OpenSpec.upto Rows.frameJoinedSpec) (k := Rows.uptoSmall) rfl false ⟨#[], #[.slice none 0 0, .slice none 0 0], []⟩ 8 (by kernel_rfl) (by kernel_rfl) (by kernel_rfl)
      (x := ([.nil, .nil], [], [])) (by kernel_rfl) rfl (by kernel_rfl)) ?_
  intro W base args ds gs before hval0 hW hcnd hk _
  have hval : ∀ (j : Nat) t v, Try.f4.params[j]? = some t → args[j]? = some v → Value.okWide Try.prog W .any base t v := hval0
  have hW' := hW
  obtain ⟨p, q, hA0, hV, rfl, hfz, hnd⟩ := hW
  have hA : DataW.TrodAll enc Try.prog W 0 (fun _ => true) true Try.f4.params.toList args.toList ds p := hA0
  rw [Try.params4] at hA hval
  obtain ⟨v0, vs0, d0, ds0, p0, q0, hargs, rfl, rfl, h0, r0⟩ := trodAll_cons hA
  obtain ⟨v1, vs1, d1, ds1, p1, q1, rfl, rfl, rfl, h1, r1⟩ := trodAll_cons r0
  obtain ⟨rfl, rfl, rfl⟩ := trodAll_nil r1
  obtain rfl : args = #[v0, v1] := by cases args; simp_all
  obtain ⟨rfl, rfl⟩ := trodVars_none hV
  obtain ⟨a0, len0, c0, rfl⟩ := okWide_slice Try.underlying23 (hval 0 23 v0 rfl rfl)
  have k0 := h0
  have lt0 : ∀ x ∈ p0, x.block < W.heap.size := by obtain ⟨m, hm⟩ := k0; exact DataW.trod_lt m _ _ _ hm
  obtain ⟨l0, rfl, hc0, hx0, hb0, hz0, hr0⟩ := row8 h0
  obtain ⟨a1, len1, c1, rfl⟩ := okWide_slice Try.underlying23 (hval 1 23 v1 rfl rfl)
  have k1 := h1
  have lt1 : ∀ x ∈ p1, x.block < W.heap.size := by obtain ⟨m, hm⟩ := k1; exact DataW.trod_lt m _ _ _ hm
  obtain ⟨l1, rfl, hc1, hx1, hb1, hz1, hr1⟩ := row8 h1
  clear hA0 hval0
  have hm0 := bulk8 hk (List.mem_append_left _ (by simp : d0 ∈ [d0, d1])) hr0
  have hm1 := bulk8 hk (List.mem_append_left _ (by simp : d1 ∈ [d0, d1])) hr1
  refine (walk a0 c0 l0 a1 c1 l1 W hc0 hm0 hb0 hz0 hc1 hm1 hb1 hz1).mono fun e W' ⟨he, bel⟩ => ?_
  subst he
  exact ⟨_, rfl, _, _, _, [], _, [], hW', trodAll_mk1 (shut_bool Try.underlying4 _), (trodAll_cons_mk (Below.trod laidOut (by kernel_rfl) (of_decide_eq_true (by kernel_rfl)) k0 bel lt0) (trodAll_cons_mk (Below.trod laidOut (by kernel_rfl) (of_decide_eq_true (by kernel_rfl)) k1 bel lt1) trodAll_mk0)), rfl, bel.frame _, fun h => by cases h⟩

theorem proved : Rows.FrameJoinedUptoSaid :=
  OpenClaim.holds_of_cond 4 Try.f4 rfl rfl rfl rfl rfl rfl rfl ⟨rfl, rfl, rfl, rfl, rfl⟩ rfl rfl rfl rfl rfl (by kernel_rfl) Try.func4 (by kernel_rfl)
    (of_decide_eq_true (by kernel_rfl)) (by unfold Func.isWrapper; first | (rw [if_pos (by decide +kernel)]; kernel_rfl) | (rw [if_neg (by decide +kernel)]; exact ⟨rfl, rfl⟩))
    (fun os started H enc _ F => lifted os started H enc F)
end Go.Proofs.Ytmjojfngdfnabaa.frameJoinedUpto
namespace Go.Proofs.Ytmjojfngdfnabaa
theorem frameJoinedUpto_holds : Rows.FrameJoinedUptoSaid := frameJoinedUpto.proved
#print axioms frameJoinedUpto_holds
end Go.Proofs.Ytmjojfngdfnabaa
