/- Proved: whether numbers are more than half of the voters is just what the document says, whatever the members and numbers; they stay; no condition. -/
import Derived.Test.YtnclkkoefejjiaaCpi
/- row64S -/
namespace Go.Proofs.Ytnclkkoefejjiaa.memberQuorums
open Go.ChangeShapes Go.WideShapes Go.ChangeAt Go.RowKit
set_option linter.unusedVariables false

theorem own : ownKnob Try.prog.godebug = none := by kernel_rfl
theorem laidOut : laidOutB Try.prog = true := by kernel_rfl

set_option maxRecDepth 20000 in
set_option maxHeartbeats 8000000 in
theorem walk (va0 : Option Addr) (vc0 : Nat) (vs0 : List Int) (la0 : Option Addr) (lc0 : Nat) (ls0 : List Int) (a1 : Option Addr) (c1 : Nat) (l1 : List Int) (w : World)
    (hsv0 : vs0.length * 8 ≤ 140737488351232) (hV0 : IntsAt w va0 vs0) (hzv0 : va0 = none → vc0 = 0) (hsl0 : ls0.length * 8 ≤ 140737488351232) (hL0 : IntsAt w la0 ls0) (hzl0 : la0 = none → lc0 = 0)
    (hs1 : l1.length * 8 ≤ 140737488351232) (hb1 : IntsAt w a1 l1) (hz1 : a1 = none → c1 = 0) :
    Calls Try.prog 4 #[mV va0 vs0.length vc0 la0 ls0.length lc0, .slice a1 l1.length c1] w fun e w' => e = .returned (.bool true) ∧ Below w.heap.size w w' := by
  obtain ⟨vn, hvn⟩ : ∃ n, vs0.length = n := ⟨_, rfl⟩
  obtain ⟨ln, hln⟩ : ∃ n, ls0.length = n := ⟨_, rfl⟩
  obtain ⟨n1, hn1⟩ : ∃ n, l1.length = n := ⟨_, rfl⟩
  rw [hvn] at hsv0
  rw [hln] at hsl0
  rw [hn1] at hs1
  rw [hvn, hln, hn1]
  have hvx : vn ≤ maxLen := by simp only [maxLen]; omega
  have hlx : ln ≤ maxLen := by simp only [maxLen]; omega
  have m1 : n1 ≤ maxLen := by simp only [maxLen]; omega
  have X1 := hide (heap_new w (mB va0 vn vc0 la0 ln lc0))
  have b1 := hide (show Below w.heap.size w (w.alloc (mB va0 vn vc0 la0 ln lc0)) from (Below.refl _ _).alloc (Nat.le_refl _) _)
  have V1 := hide (hV0.later (unhide b1))
  have L1 := hide (hL0.later (unhide b1))
  have P1 := hide (hb1.later (unhide b1))
  have VN := hide hvn
  have LN := hide hln
  have N1 := hide hn1
  have Z1 := hide hz1
  have c0 := box_cell (unhide X1) 0 _ rfl
  have c1' := box_cell (unhide X1) 1 _ rfl
  clear hV0 hL0 hb1 hvn hln hn1 hz1
  go_enter Try.func4, Try.ntmps4
  go_wp2_with fail
  generalize hD : w.heap.size = D at *
  generalize w.alloc (mB va0 vn vc0 la0 ln lc0) = w1 at *
  refine (copy_calls (unhide V1) (unhide L1) vn ln (unhide VN) (unhide LN) hsv0 hsl0 hzv0 hzl0).mono ?_
  rintro e w2 ⟨spA, cA, spB, cB, rfl, oA, oB, _, b2⟩
  have OA2 := hide oA.ints
  have OB2 := hide oB.ints
  have B2 := hide b2
  clear b2 oA oB c0 c1' hzv0 hzl0
  go_wp2_with (at_builtin; refine unhide ?_)
  refine hide ?_
  generalize hE : w2.heap.size = E at *
  have b3 : Below E w2 (w2.alloc (.cells #[] 3)) := (Below.refl _ _).alloc (by omega) _
  have o3 := OwnI.empty w2 E (by omega)
  rw [hE] at o3
  have P2 := hide ((unhide P1).later (unhide B2))
  refine wpList_appendI rfl (.tmp 10) (.tmp 11) rfl E (some ⟨E, 0, none⟩) 0 0 [] rfl rfl o3 a1 n1 c1 rfl l1 (unhide N1) ((unhide P2).later (by rw [hE]; exact b3)) (unhide Z1) (by simp only [List.length_nil]; omega) (by have := b3.size; omega) ?_
  intro sp4 n4 k4 w4 hn4 o4 g4
  rw [List.nil_append] at hn4 o4
  obtain rfl : n4 = n1 := (unhide hn4).symm.trans (unhide N1)
  have B4 := hide (b3.trans (GrewI.below g4 o3 (by have := b3.size; omega)))
  have O4 := hide o4.ints
  have F4 := hide ((unhide B2).trans ((unhide B4).mono (by have := (unhide B2).size; omega)))
  have OA4 := hide ((unhide OA2).later (by rw [hE]; exact unhide B4))
  have OB4 := hide ((unhide OB2).later (by rw [hE]; exact unhide B4))
  clear b3 o3 o4 g4 hn4 OA2 OB2 P2
  have b5 := hide (show Below w4.heap.size w4 (w4.alloc (mB spA vn cA spB ln cB)) from (Below.refl _ _).alloc (Nat.le_refl _) _)
  have Y5 := hide (heap_new w4 (mB spA vn cA spB ln cB))
  have F5 := hide ((unhide F4).trans ((unhide b5).mono (unhide F4).size))
  have OA5 := hide ((unhide OA4).later (unhide b5))
  have OB5 := hide ((unhide OB4).later (unhide b5))
  have O5 := hide ((unhide O4).later (unhide b5))
  clear OA4 OB4 O4
  have V5 := hide ((unhide V1).later (unhide F5))
  have L5 := hide ((unhide L1).later (unhide F5))
  have P5 := hide ((unhide P1).later (unhide F5))
  have X5 := hide (later_block (unhide F5) (unhide X1))
  have e0 := box_cell (unhide Y5) 0 _ rfl
  have e1 := box_cell (unhide Y5) 1 _ rfl
  go_wp2_with fail
  generalize hG : w4.heap.size = G at *
  generalize w4.alloc (mB spA vn cA spB ln cB) = w5 at *
  refine (quorum_calls (unhide OA5) (unhide OB5) (unhide O5) vn ln n4 (unhide VN) (unhide LN) (unhide N1) hvx hlx m1).mono ?_
  rintro e w6 ⟨rfl, b6⟩
  have F6 := hide ((unhide F5).trans (b6.mono (unhide F5).size))
  have G6 := hide b6
  clear b6 e0 e1
  generalize hQ : quorumM vs0 ls0 l1 = qq at *
  have HQ := hide hQ
  clear hQ
  go_wp2_with fail
  refine (live3_calls _).mono ?_
  rintro e w7 ⟨rfl, b7⟩
  have G7 := hide ((unhide G6).trans (b7.mono (unhide G6).size))
  have F7 := hide ((unhide F5).trans ((unhide G7).mono (unhide F5).size))
  have V7 := hide ((unhide V1).later (unhide F7))
  have L7 := hide ((unhide L1).later (unhide F7))
  have P7 := hide ((unhide P1).later (unhide F7))
  have X7 := hide (later_block (unhide F7) (unhide X1))
  clear b7
  have c0 := box_cell (unhide X7) 0 _ rfl
  have c1' := box_cell (unhide X7) 1 _ rfl
  go_wp2_with fail
  refine (refQuorum_calls (unhide V7) (unhide L7) (unhide P7) vn ln n4 (unhide VN) (unhide LN) (unhide N1) hvx hlx m1).mono ?_
  rw [unhide HQ]
  rintro e w8 ⟨rfl, b8⟩
  have G8 := hide ((unhide G7).trans (b8.mono (unhide G7).size))
  have F8 := hide ((unhide F5).trans ((unhide G8).mono (unhide F5).size))
  have V8 := hide ((unhide V1).later (unhide F8))
  have L8 := hide ((unhide L1).later (unhide F8))
  have A8 := hide ((unhide OA5).later (unhide G8))
  have C8 := hide ((unhide OB5).later (unhide G8))
  have X8 := hide (later_block (unhide F8) (unhide X1))
  have Y8 := hide (later_block (unhide G8) (unhide Y5))
  clear b8 c0 c1'
  have c0 := box_cell (unhide X8) 0 _ rfl
  have c1' := box_cell (unhide X8) 1 _ rfl
  have e0 := box_cell (unhide Y8) 0 _ rfl
  have e1 := box_cell (unhide Y8) 1 _ rfl
  go_wp2_with fail
  refine (same_calls (unhide A8) (unhide C8) (unhide V8) (unhide L8) vn ln vn ln (unhide VN) (unhide LN) (unhide VN) (unhide LN) hvx hlx hvx hlx).mono ?_
  rw [show (decide (vs0 = vs0) && decide (ls0 = ls0)) = true by simp]
  rintro e w9 ⟨rfl, b9⟩
  have G9 := hide ((unhide G8).trans (b9.mono (unhide G8).size))
  have F9 := hide ((unhide F5).trans ((unhide G9).mono (unhide F5).size))
  have O9 := hide ((unhide O5).later (unhide G9))
  have P9 := hide ((unhide P1).later (unhide F9))
  clear b9 c0 c1' e0 e1
  go_wp2_with fail
  refine (sameInts_calls (unhide O9) (unhide P9) n4 n4 (unhide N1) (unhide N1) m1 m1).mono ?_
  rw [show decide (l1 = l1) = true by simp]
  rintro e w10 ⟨rfl, b10⟩
  have F10 := hide ((unhide b1).trans (((unhide F9).trans (b10.mono (unhide F9).size)).mono (by have := (unhide b1).size; omega)))
  clear b10
  go_wp2
  go_ret
  exact ⟨rfl, by first | exact unhide F10 | (rw [hD]; exact unhide F10)⟩

set_option maxRecDepth 100000 in
theorem lifted (os : Os) (started : os.Started) (H : Type) (enc : TypeId × Value → H) :
    ReturnsInHanded {} Try.checked os 4 .any (Rows.memberQuorumsSpec.pre6 enc Try.prog Try.f4 Rows.memberQuorumsRow.domain false) (Rows.memberQuorumsSpec.post enc Try.prog Try.f4 false true false false) := by
  refine returnsInHanded_of_change_sized (C := Try.checked) own started (by kernel_rfl) Try.func4
    (ChangeSpec.witness6 (enc := enc) (C := Try.checked) false ⟨#[], #[.agg #[.slice none 0 0, .slice none 0 0], .slice none 0 0], []⟩ 8 (by kernel_rfl) (by kernel_rfl) (by kernel_rfl) (by kernel_rfl)) ?_
  intro W base args ds gs before hval0 hW hcnd hsz _
  have hval : ∀ (j : Nat) t v, Try.f4.params[j]? = some t → args[j]? = some v → Value.okWide Try.prog W .any base t v := hval0
  have hW' := hW
  obtain ⟨p, q, hA0, hV, rfl, hfz, hnd⟩ := hW
  have hA : DataW.TrodAll enc Try.prog W 0 (fun _ => true) true Try.f4.params.toList args.toList ds p := hA0
  rw [Try.params4] at hA hval
  obtain ⟨v0, vs0, d0, ds0, p0, q0, hargs, rfl, rfl, h0, r0⟩ := trodAll_cons hA
  obtain ⟨v1, vs1, d1, ds1, p1, q1, rfl, rfl, rfl, h1, r1⟩ := trodAll_cons r0
  obtain ⟨rfl, rfl, rfl⟩ := trodAll_nil r1
  obtain rfl : args = #[v0, v1] := by cases args; simp_all
  obtain ⟨rfl, rfl⟩ := trodVars_none hV
  have k0 := h0
  have lt0 : ∀ x ∈ p0, x.block < W.heap.size := by obtain ⟨m, hm⟩ := k0; exact DataW.trod_lt m _ _ _ hm
  obtain ⟨va0, vc0, vs0, la0, lc0, ls0, rfl, hsv0, hV0, hzv0, hsl0, hL0, hzl0⟩ := open_membersS (hval 0 24 v0 rfl rfl) h0 (fun n hn => of_decide_eq_true (List.all_eq_true.1 hsz n (DataW.weights_mem_each (j := 0) (d := d0) rfl rfl n hn)))
  obtain ⟨a1, len1, c1, rfl⟩ := okWide_slice Try.underlying22 (hval 1 22 v1 rfl rfl)
  have k1 := h1
  have lt1 : ∀ x ∈ p1, x.block < W.heap.size := by obtain ⟨m, hm⟩ := k1; exact DataW.trod_lt m _ _ _ hm
  obtain ⟨l1, rfl, hs1, hb1, hz1⟩ := row64S h1 (fun n hn => of_decide_eq_true (List.all_eq_true.1 hsz n (DataW.weights_mem_each (j := 1) (d := d1) rfl rfl n hn)))
  clear hA0 hval0
  refine (walk va0 vc0 vs0 la0 lc0 ls0 a1 c1 l1 W hsv0 hV0 hzv0 hsl0 hL0 hzl0 hs1 hb1 hz1).mono fun e W' ⟨he, bel⟩ => ?_
  subst he
  exact ⟨_, rfl, _, _, _, [], _, [], hW', trodAll_mk1 (shut_bool Try.underlying4 _), (trodAll_cons_mk (Below.trod laidOut (by kernel_rfl) (of_decide_eq_true (by kernel_rfl)) k0 bel lt0) (trodAll_cons_mk (Below.trod laidOut (by kernel_rfl) (of_decide_eq_true (by kernel_rfl)) k1 bel lt1) trodAll_mk0)), rfl, bel.frame _, fun h => by cases h⟩

theorem proved : Rows.MemberQuorumsSaid :=
  OpenClaim.holds_of_wide 4 Try.f4 rfl rfl rfl rfl rfl rfl rfl ⟨rfl, rfl, rfl, rfl, rfl⟩ rfl rfl rfl rfl rfl (by kernel_rfl) Try.func4 (by kernel_rfl)
    (of_decide_eq_true (by kernel_rfl)) (by unfold Func.isWrapper; first | (rw [if_pos (by decide +kernel)]; kernel_rfl) | (rw [if_neg (by decide +kernel)]; exact ⟨rfl, rfl⟩))
    (fun os started H enc _ => lifted os started H enc)
end Go.Proofs.Ytnclkkoefejjiaa.memberQuorums
namespace Go.Proofs.Ytnclkkoefejjiaa
theorem memberQuorums_holds : Rows.MemberQuorumsSaid := memberQuorums.proved
#print axioms memberQuorums_holds
end Go.Proofs.Ytnclkkoefejjiaa
