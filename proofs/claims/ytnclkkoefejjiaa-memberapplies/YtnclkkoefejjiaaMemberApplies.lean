/- Proved: what a change makes of members, or the error, is what the document says, and the members stay, whatever the members and the change; no condition. -/
import Derived.Test.YtnclkkoefejjiaaMap2
import Derived.Test.YtnclkkoefejjiaaMun
import Derived.Test.YtnclkkoefejjiaaCpi
import Derived.Test.YtnclkkoefejjiaaMc2
namespace Go.Proofs.Ytnclkkoefejjiaa.memberApplies
open Go.ChangeShapes Go.WideShapes Go.ChangeAt Go.RowKit
set_option linter.unusedVariables false

theorem own : ownKnob Try.prog.godebug = none := by kernel_rfl
theorem laidOut : laidOutB Try.prog = true := by kernel_rfl

def appA (v l : List Int) (d n : Int) : List Int := if applyE v l d n = 0 then votersTo v l n (turnedM (kindM v l n) d v.length).1 else []
def appB (v l : List Int) (d n : Int) : List Int := if applyE v l d n = 0 then learnersTo v l n (turnedM (kindM v l n) d v.length).1 else []
theorem appA_len (v l : List Int) (d n : Int) : (appA v l d n).length ≤ 9 := by
  unfold appA
  split
  · exact voters_len
  · simp
theorem appB_len (v l : List Int) (d n : Int) : (appB v l d n).length ≤ 9 := by
  unfold appB
  split
  · exact learners_len
  · simp
theorem apply_list {v l : List Int} {d n : Int} {base : Nat} {W : World} {e : Ending} (h : ApplyRes v l d n base e W) : ∃ spA nA cA spB nB cB, e = .returned (.tuple #[mV spA nA cA spB nB cB, .int .i64 (applyE v l d n)]) ∧ (appA v l d n).length = nA ∧ (appB v l d n).length = nB ∧ OwnI base W spA cA (appA v l d n) ∧ OwnI base W spB cB (appB v l d n) := by
  rcases h with ⟨h1, h2⟩ | ⟨h1, _, _, spA, nA, cA, spB, nB, cB, h2, h3, h4, h5, h6, _⟩
  · exact ⟨none, 0, 0, none, 0, 0, h2, by simp [appA, h1], by simp [appB, h1], by simp only [appA, if_neg h1]; exact OwnI.ofNil _ _, by simp only [appB, if_neg h1]; exact OwnI.ofNil _ _⟩
  · exact ⟨spA, nA, cA, spB, nB, cB, by rw [h1]; exact h2, by simp only [appA, if_pos h1]; exact h3, by simp only [appB, if_pos h1]; exact h4, by simp only [appA, if_pos h1]; exact h5, by simp only [appB, if_pos h1]; exact h6⟩
set_option maxRecDepth 20000 in
set_option maxHeartbeats 16000000 in
theorem walk (va0 : Option Addr) (vc0 : Nat) (vs0 : List Int) (la0 : Option Addr) (lc0 : Nat) (ls0 : List Int) (t1 u1 : Int) (w : World)
    (hsv0 : vs0.length * 8 ≤ 140737488351232) (hV0 : IntsAt w va0 vs0) (hzv : va0 = none → vc0 = 0) (hsl0 : ls0.length * 8 ≤ 140737488351232) (hL0 : IntsAt w la0 ls0) (hzl : la0 = none → lc0 = 0)
    (_ : -9223372036854775808 ≤ t1 ∧ t1 ≤ 9223372036854775807) (bu1 : -9223372036854775808 ≤ u1 ∧ u1 ≤ 9223372036854775807) :
    Calls Try.prog 6 #[mV va0 vs0.length vc0 la0 ls0.length lc0, .agg #[.int .i64 t1, .int .i64 u1]] w fun e w' => e = .returned (.bool true) ∧ Below w.heap.size w w' := by
  obtain ⟨vn, hvn⟩ : ∃ n, vs0.length = n := ⟨_, rfl⟩
  obtain ⟨ln, hln⟩ : ∃ n, ls0.length = n := ⟨_, rfl⟩
  rw [hvn] at hsv0
  rw [hln] at hsl0
  rw [hvn, hln]
  have hvx : vn ≤ maxLen := by simp only [maxLen]; omega
  have hlx : ln ≤ maxLen := by simp only [maxLen]; omega
  have b1 := hide (show Below w.heap.size w ((w.alloc (mB va0 vn vc0 la0 ln lc0)).alloc (cB t1 u1)) from ((Below.refl _ _).alloc (Nat.le_refl _) _).alloc (by simp) _)
  have X1 := hide (heap_old (cB t1 u1) (heap_new w (mB va0 vn vc0 la0 ln lc0)))
  have C1 := hide (show ((w.alloc (mB va0 vn vc0 la0 ln lc0)).alloc (cB t1 u1)).heap[w.heap.size + 1]? = some (cB t1 u1) by
    have := heap_new (w.alloc (mB va0 vn vc0 la0 ln lc0)) (cB t1 u1)
    rwa [World.size_alloc] at this)
  have V := hide (hV0.later (unhide b1))
  have L := hide (hL0.later (unhide b1))
  have VN := hide hvn
  have LN := hide hln
  have ZV := hide hzv
  have ZL := hide hzl
  have SV := hide hsv0
  have SL := hide hsl0
  have U64 := hide (show In64 u1 from bu1)
  have c0 := box_cell (unhide X1) 0 _ rfl
  have c1 := box_cell (unhide X1) 1 _ rfl
  clear hV0 hL0 hvn hln bu1 hzv hzl hsv0 hsl0
  go_enter Try.func6, Try.ntmps6
  go_wp2_with fail
  generalize hD : w.heap.size = D at *
  generalize (w.alloc (mB va0 vn vc0 la0 ln lc0)).alloc (cB t1 u1) = w1 at *
  refine (copy_calls (unhide V) (unhide L) vn ln (unhide VN) (unhide LN) (unhide SV) (unhide SL) (unhide ZV) (unhide ZL)).mono ?_
  rintro e w2 ⟨spO, cO, spP, cP, rfl, oO, oP, _, b2⟩
  have b3 := hide (show Below w2.heap.size w2 (w2.alloc (mB spO vn cO spP ln cP)) from (Below.refl _ _).alloc (Nat.le_refl _) _)
  have Z3 := hide (heap_new w2 (mB spO vn cO spP ln cP))
  have F3 := hide (b2.trans ((unhide b3).mono b2.size))
  have O3 := hide (oO.ints.later (unhide b3))
  have P3 := hide (oP.ints.later (unhide b3))
  have C3 := hide (later_block (unhide F3) (unhide C1))
  have z0 := box_cell (unhide Z3) 0 _ rfl
  have z1 := box_cell (unhide Z3) 1 _ rfl
  have e0 := box_cell (unhide C3) 0 _ rfl
  have e1 := box_cell (unhide C3) 1 _ rfl
  clear oO oP b2 c0 c1 b3
  go_wp2_with fail
  generalize hX : w2.heap.size = X at *
  generalize w2.alloc (mB spO vn cO spP ln cP) = w3 at *
  refine (apply_calls (unhide O3) (unhide P3) vn ln (unhide VN) (unhide LN) hvx hlx t1 u1 (unhide U64)).mono ?_
  rintro e w4 ⟨hres, b4⟩
  obtain ⟨spA, nA, cA, spB, nB, cB', rfl, hnA, hnB, oA, oB⟩ := apply_list hres
  have lA := appA_len vs0 ls0 t1 u1
  have lB := appB_len vs0 ls0 t1 u1
  have MA := hide (show nA ≤ maxLen by simp only [maxLen]; omega)
  have MB := hide (show nB ≤ maxLen by simp only [maxLen]; omega)
  have b5 := hide (show Below w4.heap.size w4 (w4.alloc (mB spA nA cA spB nB cB')) from (Below.refl _ _).alloc (Nat.le_refl _) _)
  have Y5 := hide (heap_new w4 (mB spA nA cA spB nB cB'))
  have G5 := hide (b4.trans ((unhide b5).mono b4.size))
  have F5 := hide ((unhide F3).trans ((unhide G5).mono (unhide F3).size))
  have A5 := hide (oA.ints.later (unhide b5))
  have B5 := hide (oB.ints.later (unhide b5))
  have NA := hide hnA
  have NB := hide hnB
  have X5 := hide (later_block (unhide F5) (unhide X1))
  have C5 := hide (later_block (unhide F5) (unhide C1))
  clear z0 z1 e0 e1
  have c0 := box_cell (unhide X5) 0 _ rfl
  have c1 := box_cell (unhide X5) 1 _ rfl
  have e0 := box_cell (unhide C5) 0 _ rfl
  have e1 := box_cell (unhide C5) 1 _ rfl
  clear oA oB b4 hnA hnB lA lB b5 hres
  go_wp2_with fail
  generalize hY : w4.heap.size = Y at *
  generalize w4.alloc (mB spA nA cA spB nB cB') = w5 at *
  refine (rapply_calls ((unhide V).later (unhide F5)) ((unhide L).later (unhide F5)) vn ln (unhide VN) (unhide LN) hvx hlx t1 u1).mono ?_
  rintro e w6 ⟨hres, b6⟩
  obtain ⟨spC, nC, cC, spE, nE, cE, rfl, hnC, hnE, oC, oE⟩ := apply_list hres
  have lA := appA_len vs0 ls0 t1 u1
  have lB := appB_len vs0 ls0 t1 u1
  have MC := hide (show nC ≤ maxLen by simp only [maxLen]; omega)
  have ME := hide (show nE ≤ maxLen by simp only [maxLen]; omega)
  have b7 := hide (show Below w6.heap.size w6 (w6.alloc (mB spC nC cC spE nE cE)) from (Below.refl _ _).alloc (Nat.le_refl _) _)
  have E7 := hide (heap_new w6 (mB spC nC cC spE nE cE))
  have G7 := hide (b6.trans ((unhide b7).mono b6.size))
  have F7 := hide ((unhide F5).trans ((unhide G7).mono (unhide F5).size))
  have CC := hide (oC.ints.later (unhide b7))
  have EE := hide (oE.ints.later (unhide b7))
  have A7 := hide ((unhide A5).later (unhide G7))
  have B7 := hide ((unhide B5).later (unhide G7))
  have Y7 := hide (later_block (unhide G7) (unhide Y5))
  have O7 := hide ((unhide O3).later ((unhide G5).trans ((unhide G7).mono (unhide G5).size)))
  have P7 := hide ((unhide P3).later ((unhide G5).trans ((unhide G7).mono (unhide G5).size)))
  have Z7 := hide (later_block ((unhide G5).trans ((unhide G7).mono (unhide G5).size)) (unhide Z3))
  have NC := hide hnC
  have NE := hide hnE
  clear oC oE b6 hnC hnE lA lB b7 hres c0 c1 e0 e1
  generalize applyE vs0 ls0 t1 u1 = er at *
  generalize appA vs0 ls0 t1 u1 = xs at *
  generalize appB vs0 ls0 t1 u1 = ys at *
  go_wp2_with fail
  generalize hE : w6.heap.size = E at *
  generalize w6.alloc (mB spC nC cC spE nE cE) = w7 at *
  refine (live3_calls _).mono ?_
  rintro e w8 ⟨rfl, b8⟩
  have G8 := hide b8
  have F8 := hide ((unhide F7).trans (b8.mono (unhide F7).size))
  have Y8 := hide (later_block b8 (unhide Y7))
  have E8 := hide (later_block b8 (unhide E7))
  have y0 := box_cell (unhide Y8) 0 _ rfl
  have y1 := box_cell (unhide Y8) 1 _ rfl
  have x0 := box_cell (unhide E8) 0 _ rfl
  have x1 := box_cell (unhide E8) 1 _ rfl
  clear b8
  go_wp2_with fail
  refine (same_calls ((unhide A7).later (unhide G8)) ((unhide B7).later (unhide G8)) ((unhide CC).later (unhide G8)) ((unhide EE).later (unhide G8)) nA nB nC nE (unhide NA) (unhide NB) (unhide NC) (unhide NE) (unhide MA) (unhide MB) (unhide MC) (unhide ME)).mono ?_
  rintro e w9 ⟨rfl, b9⟩
  have G9 := hide ((unhide G8).trans (b9.mono (unhide G8).size))
  have F9 := hide ((unhide F7).trans ((unhide G9).mono (unhide F7).size))
  have Z9 := hide (later_block (unhide G9) (unhide Z7))
  have X9 := hide (later_block (unhide F9) (unhide X1))
  rw [show (decide (xs = xs) && decide (ys = ys)) = true by simp]
  clear b9 y0 y1 x0 x1
  have z0 := box_cell (unhide Z9) 0 _ rfl
  have z1 := box_cell (unhide Z9) 1 _ rfl
  have c0 := box_cell (unhide X9) 0 _ rfl
  have c1 := box_cell (unhide X9) 1 _ rfl
  go_wp2_with fail
  refine (same_calls ((unhide O7).later (unhide G9)) ((unhide P7).later (unhide G9)) ((unhide V).later (unhide F9)) ((unhide L).later (unhide F9)) vn ln vn ln (unhide VN) (unhide LN) (unhide VN) (unhide LN) hvx hlx hvx hlx).mono ?_
  rintro e w10 ⟨rfl, b10⟩
  have F10 := hide ((unhide b1).trans (((unhide F9).trans (b10.mono (unhide F9).size)).mono (by have := (unhide b1).size; omega)))
  rw [show (decide (vs0 = vs0) && decide (ls0 = ls0)) = true by simp]
  clear b10
  go_wp2
  go_ret
  exact ⟨rfl, by first | exact unhide F10 | (rw [hD]; exact unhide F10)⟩

set_option maxRecDepth 100000 in
theorem lifted (os : Os) (started : os.Started) (H : Type) (enc : TypeId × Value → H) :
    ReturnsInHanded {} Try.checked os 6 .any (Rows.memberAppliesSpec.pre6 enc Try.prog Try.f6 Rows.memberAppliesRow.domain false) (Rows.memberAppliesSpec.post enc Try.prog Try.f6 false true false false) := by
  refine returnsInHanded_of_change_sized (C := Try.checked) own started (by kernel_rfl) Try.func6
    (ChangeSpec.witness6 (enc := enc) (C := Try.checked) false ⟨#[], #[.agg #[.slice none 0 0, .slice none 0 0], .agg #[.int .i64 0, .int .i64 0]], []⟩ 8 (by kernel_rfl) (by kernel_rfl) (by kernel_rfl) (by kernel_rfl)) ?_
  intro W base args ds gs before hval0 hW hcnd hsz _
  have hval : ∀ (j : Nat) t v, Try.f6.params[j]? = some t → args[j]? = some v → Value.okWide Try.prog W .any base t v := hval0
  have hW' := hW
  obtain ⟨p, q, hA0, hV, rfl, hfz, hnd⟩ := hW
  have hA : DataW.TrodAll enc Try.prog W 0 (fun _ => true) true Try.f6.params.toList args.toList ds p := hA0
  rw [Try.params6] at hA hval
  obtain ⟨v0, vs0, d0, ds0, p0, q0, hargs, rfl, rfl, h0, r0⟩ := trodAll_cons hA
  obtain ⟨v1, vs1, d1, ds1, p1, q1, rfl, rfl, rfl, h1, r1⟩ := trodAll_cons r0
  obtain ⟨rfl, rfl, rfl⟩ := trodAll_nil r1
  obtain rfl : args = #[v0, v1] := by cases args; simp_all
  obtain ⟨rfl, rfl⟩ := trodVars_none hV
  have k0 := h0
  have lt0 : ∀ x ∈ p0, x.block < W.heap.size := by obtain ⟨m, hm⟩ := k0; exact DataW.trod_lt m _ _ _ hm
  obtain ⟨va0, vc0, vs0, la0, lc0, ls0, rfl, hsv0, hV0, hzv0, hsl0, hL0, hzl0⟩ := open_membersS (hval 0 24 v0 rfl rfl) h0 (fun n hn => of_decide_eq_true (List.all_eq_true.1 hsz n (DataW.weights_mem_each (j := 0) (d := d0) rfl rfl n hn)))
  have k1 := h1
  have lt1 : ∀ x ∈ p1, x.block < W.heap.size := by obtain ⟨m, hm⟩ := k1; exact DataW.trod_lt m _ _ _ hm
  obtain ⟨t1, u1, rfl, bt1, bu1⟩ := open_change (hval 1 40 v1 rfl rfl) h1
  clear hA0 hval0
  refine (walk va0 vc0 vs0 la0 lc0 ls0 t1 u1 W hsv0 hV0 hzv0 hsl0 hL0 hzl0 bt1 bu1).mono fun e W' ⟨he, bel⟩ => ?_
  subst he
  exact ⟨_, rfl, _, _, _, [], _, [], hW', trodAll_mk1 (shut_bool Try.underlying4 _), (trodAll_cons_mk (Below.trod laidOut (by kernel_rfl) (of_decide_eq_true (by kernel_rfl)) k0 bel lt0) (trodAll_cons_mk (Below.trod laidOut (by kernel_rfl) (of_decide_eq_true (by kernel_rfl)) k1 bel lt1) trodAll_mk0)), rfl, bel.frame _, fun h => by cases h⟩

theorem proved : Rows.MemberAppliesSaid :=
  OpenClaim.holds_of_wide 6 Try.f6 rfl rfl rfl rfl rfl rfl rfl ⟨rfl, rfl, rfl, rfl, rfl⟩ rfl rfl rfl rfl rfl (by kernel_rfl) Try.func6 (by kernel_rfl)
    (of_decide_eq_true (by kernel_rfl)) (by unfold Func.isWrapper; first | (rw [if_pos (by decide +kernel)]; kernel_rfl) | (rw [if_neg (by decide +kernel)]; exact ⟨rfl, rfl⟩))
    (fun os started H enc _ => lifted os started H enc)
end Go.Proofs.Ytnclkkoefejjiaa.memberApplies
namespace Go.Proofs.Ytnclkkoefejjiaa
theorem memberApplies_holds : Rows.MemberAppliesSaid := memberApplies.proved
#print axioms memberApplies_holds
end Go.Proofs.Ytnclkkoefejjiaa
