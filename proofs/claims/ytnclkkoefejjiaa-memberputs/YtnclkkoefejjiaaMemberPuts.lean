/- Proved: members' and changes' bytes, or the error, are just what the document says, whatever the members and the change; no condition. -/
import Derived.Test.YtnclkkoefejjiaaMp2
namespace Go.Proofs.Ytnclkkoefejjiaa.memberPuts
open Go.ChangeShapes Go.WideShapes Go.ChangeAt Go.RowKit
set_option linter.unusedVariables false

theorem own : ownKnob Try.prog.godebug = none := by kernel_rfl
theorem laidOut : laidOutB Try.prog = true := by kernel_rfl

set_option maxRecDepth 20000 in
set_option maxHeartbeats 16000000 in
theorem walk (va0 : Option Addr) (vc0 : Nat) (vs0 : List Int) (la0 : Option Addr) (lc0 : Nat) (ls0 : List Int) (t1 u1 : Int) (w : World)
    (hsv0 : vs0.length * 8 ≤ 140737488351232) (hV0 : IntsAt w va0 vs0) (_ : va0 = none → vc0 = 0) (hsl0 : ls0.length * 8 ≤ 140737488351232) (hL0 : IntsAt w la0 ls0) (_ : la0 = none → lc0 = 0)
    (_ : -9223372036854775808 ≤ t1 ∧ t1 ≤ 9223372036854775807) (_ : -9223372036854775808 ≤ u1 ∧ u1 ≤ 9223372036854775807) :
    Calls Try.prog 12 #[mV va0 vs0.length vc0 la0 ls0.length lc0, .agg #[.int .i64 t1, .int .i64 u1]] w fun e w' => e = .returned (.bool true) ∧ Below w.heap.size w w' := by
  obtain ⟨vn, hvn⟩ : ∃ n, vs0.length = n := ⟨_, rfl⟩
  obtain ⟨ln, hln⟩ : ∃ n, ls0.length = n := ⟨_, rfl⟩
  rw [hvn] at hsv0
  rw [hln] at hsl0
  rw [hvn, hln]
  have hvx : vn ≤ maxLen := by simp only [maxLen]; omega
  have hlx : ln ≤ maxLen := by simp only [maxLen]; omega
  have b1 := hide (show Below w.heap.size w ((w.alloc (mB va0 vn vc0 la0 ln lc0)).alloc (cB t1 u1)) from ((Below.refl _ _).alloc (Nat.le_refl _) _).alloc (by simp) _)
  have X1 := hide (heap_old (cB t1 u1) (heap_new w (mB va0 vn vc0 la0 ln lc0)))
  have C1 := hide (show ((w.alloc (mB va0 vn vc0 la0 ln lc0)).alloc (cB t1 u1)).heap[w.heap.size + 1]? = some (cB t1 u1) by
    have := heap_new (w.alloc (mB va0 vn vc0 la0 ln lc0)) (cB t1 u1)
    rwa [World.size_alloc] at this)
  have V := hide (hV0.later (unhide b1))
  have L := hide (hL0.later (unhide b1))
  have VN := hide hvn
  have LN := hide hln
  have c0 := box_cell (unhide X1) 0 _ rfl
  have c1 := box_cell (unhide X1) 1 _ rfl
  clear hV0 hL0 hvn hln
  go_enter Try.func12, Try.ntmps12
  go_wp2_with fail
  generalize hD : w.heap.size = D at *
  generalize (w.alloc (mB va0 vn vc0 la0 ln lc0)).alloc (cB t1 u1) = w1 at *
  refine (mput_calls (unhide V) (unhide L) vn ln (unhide VN) (unhide LN) hvx hlx).mono ?_
  rintro e w2 ⟨sp2, n2, k2, rfl, hn2, ho2, b2⟩
  have F2 := hide b2
  have N2 := hide (unhide hn2)
  have O2 := hide ho2.bytes
  have X2 := hide (later_block b2 (unhide X1))
  clear b2 ho2 hn2 c0 c1
  have c0 := box_cell (unhide X2) 0 _ rfl
  have c1 := box_cell (unhide X2) 1 _ rfl
  go_wp2_with fail
  refine (rput_calls ((unhide V).later (unhide F2)) ((unhide L).later (unhide F2)) vn ln (unhide VN) (unhide LN) hvx hlx).mono ?_
  rintro e w3 ⟨sp3, n3, k3, rfl, hn3, ho3, b3⟩
  have F3 := hide ((unhide F2).trans (b3.mono (unhide F2).size))
  have N3 := hide (unhide hn3)
  have O3 := hide ho3.bytes
  have P3 := hide ((unhide O2).later b3)
  have C3 := hide (later_block (unhide F3) (unhide C1))
  clear b3 ho3 hn3 c0 c1
  have c0 := box_cell (unhide C3) 0 _ rfl
  have c1 := box_cell (unhide C3) 1 _ rfl
  go_wp2_with fail
  refine (mputC_calls t1 u1).mono ?_
  rintro e w4 ⟨sp4, n4, k4, rfl, hn4, ho4, b4⟩
  have F4 := hide ((unhide F3).trans (b4.mono (unhide F3).size))
  have N4 := hide (unhide hn4)
  have O4 := hide ho4.bytes
  have P4 := hide ((unhide P3).later b4)
  have Q4 := hide ((unhide O3).later b4)
  have C4 := hide (later_block (unhide F4) (unhide C1))
  clear b4 ho4 hn4 c0 c1
  have c0 := box_cell (unhide C4) 0 _ rfl
  have c1 := box_cell (unhide C4) 1 _ rfl
  go_wp2_with fail
  refine (rputC_calls t1 u1).mono ?_
  rintro e w5 ⟨sp5, n5, k5, rfl, hn5, ho5, b5⟩
  have F5 := hide ((unhide F4).trans (b5.mono (unhide F4).size))
  have N5 := hide (unhide hn5)
  have O5 := hide ho5.bytes
  have P5 := hide ((unhide P4).later b5)
  have Q5 := hide ((unhide Q4).later b5)
  have R5 := hide ((unhide O4).later b5)
  clear b5 ho5 hn5 c0 c1
  go_wp2_with fail
  refine (live3_calls _).mono ?_
  rintro e w6 ⟨rfl, b6⟩
  have F6 := hide ((unhide b1).trans (((unhide F5).trans (b6.mono (unhide F5).size)).mono (by have := (unhide b1).size; omega)))
  have s1 := run_string8 n2 k2 (unhide N2) ((unhide P5).later b6)
  have s2 := run_string8 n3 k3 (unhide N3) ((unhide Q5).later b6)
  have s3 := run_string8 n4 k4 (unhide N4) ((unhide R5).later b6)
  have s4 := run_string8 n5 k5 (unhide N5) ((unhide O5).later b6)
  generalize strOf (putB vs0 ls0) = str1 at *
  generalize strOf (putCB t1 u1) = str2 at *
  generalize putE vs0 ls0 = er1 at *
  generalize putCE t1 u1 = er2 at *
  clear b6
  go_wp2
  go_ret
  exact ⟨by simp, by first | exact unhide F6 | (rw [hD]; exact unhide F6)⟩

set_option maxRecDepth 100000 in
theorem lifted (os : Os) (started : os.Started) (H : Type) (enc : TypeId × Value → H) :
    ReturnsInHanded {} Try.checked os 12 .any (Rows.memberPutsSpec.pre6 enc Try.prog Try.f12 Rows.memberPutsRow.domain false) (Rows.memberPutsSpec.post enc Try.prog Try.f12 false true false false) := by
  refine returnsInHanded_of_change_sized (C := Try.checked) own started (by kernel_rfl) Try.func12
    (ChangeSpec.witness6 (enc := enc) (C := Try.checked) false ⟨#[], #[.agg #[.slice none 0 0, .slice none 0 0], .agg #[.int .i64 0, .int .i64 0]], []⟩ 8 (by kernel_rfl) (by kernel_rfl) (by kernel_rfl) (by kernel_rfl)) ?_
  intro W base args ds gs before hval0 hW hcnd hsz _
  have hval : ∀ (j : Nat) t v, Try.f12.params[j]? = some t → args[j]? = some v → Value.okWide Try.prog W .any base t v := hval0
  have hW' := hW
  obtain ⟨p, q, hA0, hV, rfl, hfz, hnd⟩ := hW
  have hA : DataW.TrodAll enc Try.prog W 0 (fun _ => true) true Try.f12.params.toList args.toList ds p := hA0
  rw [Try.params12] at hA hval
  obtain ⟨v0, vs0, d0, ds0, p0, q0, hargs, rfl, rfl, h0, r0⟩ := trodAll_cons hA
  obtain ⟨v1, vs1, d1, ds1, p1, q1, rfl, rfl, rfl, h1, r1⟩ := trodAll_cons r0
  obtain ⟨rfl, rfl, rfl⟩ := trodAll_nil r1
  obtain rfl : args = #[v0, v1] := by cases args; simp_all
  obtain ⟨rfl, rfl⟩ := trodVars_none hV
  have k0 := h0
  have lt0 : ∀ x ∈ p0, x.block < W.heap.size := by obtain ⟨m, hm⟩ := k0; exact DataW.trod_lt m _ _ _ hm
  obtain ⟨va0, vc0, vs0, la0, lc0, ls0, rfl, hsv0, hV0, hzv0, hsl0, hL0, hzl0⟩ := open_membersS (hval 0 24 v0 rfl rfl) h0 (fun n hn => of_decide_eq_true (List.all_eq_true.1 hsz n (DataW.weights_mem_each (j := 0) (d := d0) rfl rfl n hn)))
  have k1 := h1
  have lt1 : ∀ x ∈ p1, x.block < W.heap.size := by obtain ⟨m, hm⟩ := k1; exact DataW.trod_lt m _ _ _ hm
  obtain ⟨t1, u1, rfl, bt1, bu1⟩ := open_change (hval 1 40 v1 rfl rfl) h1
  clear hA0 hval0
  refine (walk va0 vc0 vs0 la0 lc0 ls0 t1 u1 W hsv0 hV0 hzv0 hsl0 hL0 hzl0 bt1 bu1).mono fun e W' ⟨he, bel⟩ => ?_
  subst he
  exact ⟨_, rfl, _, _, _, [], _, [], hW', trodAll_mk1 (shut_bool Try.underlying4 _), (trodAll_cons_mk (Below.trod laidOut (by kernel_rfl) (of_decide_eq_true (by kernel_rfl)) k0 bel lt0) (trodAll_cons_mk (Below.trod laidOut (by kernel_rfl) (of_decide_eq_true (by kernel_rfl)) k1 bel lt1) trodAll_mk0)), rfl, bel.frame _, fun h => by cases h⟩

theorem proved : Rows.MemberPutsSaid :=
  OpenClaim.holds_of_wide 12 Try.f12 rfl rfl rfl rfl rfl rfl rfl ⟨rfl, rfl, rfl, rfl, rfl⟩ rfl rfl rfl rfl rfl (by kernel_rfl) Try.func12 (by kernel_rfl)
    (of_decide_eq_true (by kernel_rfl)) (by unfold Func.isWrapper; first | (rw [if_pos (by decide +kernel)]; kernel_rfl) | (rw [if_neg (by decide +kernel)]; exact ⟨rfl, rfl⟩))
    (fun os started H enc _ => lifted os started H enc)
end Go.Proofs.Ytnclkkoefejjiaa.memberPuts
namespace Go.Proofs.Ytnclkkoefejjiaa
theorem memberPuts_holds : Rows.MemberPutsSaid := memberPuts.proved
#print axioms memberPuts_holds
end Go.Proofs.Ytnclkkoefejjiaa
