/- Proved: the greatest index that more than half have reached is just what the document says, whatever the members and places; they stay; no condition. -/
import Derived.Test.YtnclkkoefejjiaaApt
import Derived.Test.YtnclkkoefejjiaaHld
namespace Go.Proofs.Ytnclkkoefejjiaa.memberAgrees
open Go.ChangeShapes Go.WideShapes Go.ChangeAt Go.RowKit
set_option linter.unusedVariables false

theorem own : ownKnob Try.prog.godebug = none := by kernel_rfl
theorem laidOut : laidOutB Try.prog = true := by kernel_rfl

set_option maxRecDepth 20000 in
set_option maxHeartbeats 8000000 in
theorem walk (va0 : Option Addr) (vc0 : Nat) (vs0 : List Int) (la0 : Option Addr) (lc0 : Nat) (ls0 : List Int) (a1 : Option Addr) (c1 : Nat) (l1 : List (Int × Int)) (w : World)
    (hsv0 : vs0.length * 8 ≤ 140737488351232) (hV0 : IntsAt w va0 vs0) (_ : va0 = none → vc0 = 0) (hsl0 : ls0.length * 8 ≤ 140737488351232) (hL0 : IntsAt w la0 ls0) (_ : la0 = none → lc0 = 0)
    (hs1 : l1.length * 16 ≤ 140737488351232) (hb1 : AtsAt w a1 l1) (hz1 : a1 = none → c1 = 0) :
    Calls Try.prog 5 #[mV va0 vs0.length vc0 la0 ls0.length lc0, .slice a1 l1.length c1] w fun e w' => e = .returned (.bool true) ∧ Below w.heap.size w w' := by
  obtain ⟨vn, hvn⟩ : ∃ n, vs0.length = n := ⟨_, rfl⟩
  obtain ⟨ln, hln⟩ : ∃ n, ls0.length = n := ⟨_, rfl⟩
  obtain ⟨n1, hn1⟩ : ∃ n, l1.length = n := ⟨_, rfl⟩
  rw [hvn] at hsv0
  rw [hln] at hsl0
  rw [hn1] at hs1
  rw [hvn, hln, hn1]
  have hvx : vn ≤ maxLen := by simp only [maxLen]; omega
  have hlx : ln ≤ maxLen := by simp only [maxLen]; omega
  have m1 : n1 ≤ maxLen := by simp only [maxLen]; omega
  have X1 := hide (heap_new w (mB va0 vn vc0 la0 ln lc0))
  have b1 := hide (show Below w.heap.size w (w.alloc (mB va0 vn vc0 la0 ln lc0)) from (Below.refl _ _).alloc (Nat.le_refl _) _)
  have V1 := hide (hV0.later (unhide b1))
  have L1 := hide (hL0.later (unhide b1))
  have P1 := hide (hb1.later (unhide b1))
  have VN := hide hvn
  have LN := hide hln
  have N1 := hide hn1
  have Z1 := hide hz1
  clear hV0 hL0 hb1 hvn hln hn1 hz1
  have ZE := hide (show (w.alloc (mB va0 vn vc0 la0 ln lc0)).heap.size = w.heap.size + 1 by simp)
  go_enter Try.func5, Try.ntmps5
  go_wp2_with (at_builtin; refine unhide ?_)
  refine hide ?_
  generalize hD : w.heap.size = D at *
  generalize w.alloc (mB va0 vn vc0 la0 ln lc0) = w1 at *
  have hE := unhide ZE
  have b2 : Below (D + 1) w1 (w1.alloc (.cells #[] 36)) := (Below.refl _ _).alloc (by omega) _
  have o2 := OwnA.empty w1 (D + 1) (by omega)
  rw [hE] at o2
  refine wpList_appendA rfl (.tmp 8) (.tmp 9) rfl (D + 1) (some ⟨D + 1, 0, none⟩) 0 0 [] rfl rfl o2 a1 n1 c1 rfl l1 (unhide N1) ((unhide P1).later (by rw [hE]; exact b2)) (unhide Z1) (by simp only [List.length_nil]; omega) (by have := b2.size; omega) ?_
  intro sp3 n3 k3 w3 hn3 o3 g3
  rw [List.nil_append] at hn3 o3
  have B3 := hide (b2.trans (GrewA.below g3 o2 (by have := b2.size; omega)))
  have O3 := hide o3.ats
  have N3 := hide (unhide hn3)
  obtain rfl : n3 = n1 := by rw [← unhide N1, ← unhide hn3]
  have V3 := hide ((unhide V1).later (by rw [hE]; exact unhide B3))
  have L3 := hide ((unhide L1).later (by rw [hE]; exact unhide B3))
  have P3 := hide ((unhide P1).later (by rw [hE]; exact unhide B3))
  have X3 := hide (((unhide B3).block D (by omega)).trans (unhide X1))
  have c0 := box_cell (unhide X3) 0 _ rfl
  have c1' := box_cell (unhide X3) 1 _ rfl
  clear b2 o2 o3 g3 hn3 hE
  go_wp2_with fail
  refine (agreed_calls (unhide V3) (unhide L3) (unhide O3) vn ln n3 (unhide VN) (unhide LN) (unhide N3) hvx hlx m1).mono ?_
  rintro e w4 ⟨rfl, b4⟩
  have O4 := hide ((unhide O3).later b4)
  have P4 := hide ((unhide P3).later b4)
  have V4 := hide ((unhide V3).later b4)
  have L4 := hide ((unhide L3).later b4)
  have X4 := hide (later_block b4 (unhide X3))
  have B4 := hide ((unhide B3).trans (b4.mono (by have := (unhide B3).size; have := unhide ZE; omega)))
  generalize hag : agreedM vs0 ls0 l1 = ag at *
  have AG := hide hag
  clear b4 c0 c1' hag
  go_wp2_with fail
  go_loopw [7] (fun i wr => ∃ (j : Nat), j ≤ n3 ∧ i = .int .i64 (j : Int) ∧ Hid (Below w4.heap.size w4 wr)) (fun i _ => n3 - (intOf i).toNat)
  case atStart => exact ⟨0, by omega, rfl, Below.refl _ _⟩
  case round =>
    obtain ⟨j, hj, rfl, F⟩ := hrel
    by_cases hjm : j < n3
    · have hjl : j < l1.length := by rw [unhide N1]; exact hjm
      obtain ⟨b, off, rfl, p0, p1⟩ := ((unhide O4).later (unhide F)).cell j hjl
      obtain ⟨b', off', rfl, q0, q1⟩ := ((unhide P4).later (unhide F)).cell j hjl
      have hj0 : (0 : Int) ≤ (j : Int) := by omega
      have hj1 : (j : Int) < (n3 : Int) := by omega
      have hjx : (j : Int) ≤ 9223372036854775806 := by omega
      generalize l1[j] = x at *
      obtain ⟨x1, x2⟩ := x
      dsimp only at p0 p1 q0 q1
      go_wp2_with fail
      go_region_held3 (fun w' => (w'.cell? ⟨b, off + j * 2, none⟩ = some (.int .i64 x1) ∧ w'.cell? ⟨b, off + j * 2 + 1, none⟩ = some (.int .i64 x2)) ∧ w'.cell? ⟨b', off' + j * 2, none⟩ = some (.int .i64 x1) ∧ w'.cell? ⟨b', off' + j * 2 + 1, none⟩ = some (.int .i64 x2)) (first | go_keep | exact ⟨⟨p0, p1⟩, q0, q1⟩) (fail)
      have F2 := hide (unhide F).drew
      go_wp2
      exact ⟨⟨j + 1, by omega, by go_num, unhide F2⟩, by simp [intOf]; omega⟩
    · obtain rfl : j = n3 := by omega
      have B5 := hide ((unhide B4).trans ((unhide F).mono (by have := (unhide B4).size; have := unhide ZE; omega)))
      go_wp2_with fail
      refine (live3_calls _).mono ?_
      rintro e w5 ⟨rfl, b5⟩
      have B6 := hide ((unhide F).trans (b5.mono (unhide F).size))
      have V6 := hide ((unhide V4).later (unhide B6))
      have L6 := hide ((unhide L4).later (unhide B6))
      have P6 := hide ((unhide P4).later (unhide B6))
      have X6 := hide (later_block (unhide B6) (unhide X4))
      have A6 := hide ((unhide B4).trans ((unhide B6).mono (by have := (unhide B4).size; have := unhide ZE; omega)))
      clear b5
      have c0 := box_cell (unhide X6) 0 _ rfl
      have c1' := box_cell (unhide X6) 1 _ rfl
      go_wp2_with fail
      refine (refAgreed_calls (unhide V6) (unhide L6) (unhide P6) vn ln j (unhide VN) (unhide LN) (unhide N1) hvx hlx m1).mono ?_
      rw [unhide AG]
      rintro e w7 ⟨rfl, b7⟩
      have A7 := hide ((unhide A6).trans (b7.mono (by have := (unhide A6).size; have := unhide ZE; omega)))
      clear b7
      go_wp2
      go_ret
      exact ⟨by simp, by first | exact (unhide b1).trans ((unhide A7).mono (by omega)) | (rw [hD]; exact (unhide b1).trans ((unhide A7).mono (by omega)))⟩

set_option maxRecDepth 100000 in
theorem lifted (os : Os) (started : os.Started) (H : Type) (enc : TypeId × Value → H) :
    ReturnsInHanded {} Try.checked os 5 .any (Rows.memberAgreesSpec.pre6 enc Try.prog Try.f5 Rows.memberAgreesRow.domain false) (Rows.memberAgreesSpec.post enc Try.prog Try.f5 false true false false) := by
  refine returnsInHanded_of_change_sized (C := Try.checked) own started (by kernel_rfl) Try.func5
    (ChangeSpec.witness6 (enc := enc) (C := Try.checked) false ⟨#[], #[.agg #[.slice none 0 0, .slice none 0 0], .slice none 0 0], []⟩ 8 (by kernel_rfl) (by kernel_rfl) (by kernel_rfl) (by kernel_rfl)) ?_
  intro W base args ds gs before hval0 hW hcnd hsz _
  have hval : ∀ (j : Nat) t v, Try.f5.params[j]? = some t → args[j]? = some v → Value.okWide Try.prog W .any base t v := hval0
  have hW' := hW
  obtain ⟨p, q, hA0, hV, rfl, hfz, hnd⟩ := hW
  have hA : DataW.TrodAll enc Try.prog W 0 (fun _ => true) true Try.f5.params.toList args.toList ds p := hA0
  rw [Try.params5] at hA hval
  obtain ⟨v0, vs0, d0, ds0, p0, q0, hargs, rfl, rfl, h0, r0⟩ := trodAll_cons hA
  obtain ⟨v1, vs1, d1, ds1, p1, q1, rfl, rfl, rfl, h1, r1⟩ := trodAll_cons r0
  obtain ⟨rfl, rfl, rfl⟩ := trodAll_nil r1
  obtain rfl : args = #[v0, v1] := by cases args; simp_all
  obtain ⟨rfl, rfl⟩ := trodVars_none hV
  have k0 := h0
  have lt0 : ∀ x ∈ p0, x.block < W.heap.size := by obtain ⟨m, hm⟩ := k0; exact DataW.trod_lt m _ _ _ hm
  obtain ⟨va0, vc0, vs0, la0, lc0, ls0, rfl, hsv0, hV0, hzv0, hsl0, hL0, hzl0⟩ := open_membersS (hval 0 24 v0 rfl rfl) h0 (fun n hn => of_decide_eq_true (List.all_eq_true.1 hsz n (DataW.weights_mem_each (j := 0) (d := d0) rfl rfl n hn)))
  obtain ⟨a1, len1, c1, rfl⟩ := okWide_slice Try.underlying33 (hval 1 33 v1 rfl rfl)
  have k1 := h1
  have lt1 : ∀ x ∈ p1, x.block < W.heap.size := by obtain ⟨m, hm⟩ := k1; exact DataW.trod_lt m _ _ _ hm
  obtain ⟨l1, rfl, hs1, hb1, hz1⟩ := ats_argS h1 (fun n hn => of_decide_eq_true (List.all_eq_true.1 hsz n (DataW.weights_mem_each (j := 1) (d := d1) rfl rfl n hn)))
  clear hA0 hval0
  refine (walk va0 vc0 vs0 la0 lc0 ls0 a1 c1 l1 W hsv0 hV0 hzv0 hsl0 hL0 hzl0 hs1 hb1 hz1).mono fun e W' ⟨he, bel⟩ => ?_
  subst he
  exact ⟨_, rfl, _, _, _, [], _, [], hW', trodAll_mk1 (shut_bool Try.underlying4 _), (trodAll_cons_mk (Below.trod laidOut (by kernel_rfl) (of_decide_eq_true (by kernel_rfl)) k0 bel lt0) (trodAll_cons_mk (Below.trod laidOut (by kernel_rfl) (of_decide_eq_true (by kernel_rfl)) k1 bel lt1) trodAll_mk0)), rfl, bel.frame _, fun h => by cases h⟩

theorem proved : Rows.MemberAgreesSaid :=
  OpenClaim.holds_of_wide 5 Try.f5 rfl rfl rfl rfl rfl rfl rfl ⟨rfl, rfl, rfl, rfl, rfl⟩ rfl rfl rfl rfl rfl (by kernel_rfl) Try.func5 (by kernel_rfl)
    (of_decide_eq_true (by kernel_rfl)) (by unfold Func.isWrapper; first | (rw [if_pos (by decide +kernel)]; kernel_rfl) | (rw [if_neg (by decide +kernel)]; exact ⟨rfl, rfl⟩))
    (fun os started H enc _ => lifted os started H enc)
end Go.Proofs.Ytnclkkoefejjiaa.memberAgrees
namespace Go.Proofs.Ytnclkkoefejjiaa
theorem memberAgrees_holds : Rows.MemberAgreesSaid := memberAgrees.proved
#print axioms memberAgrees_holds
end Go.Proofs.Ytnclkkoefejjiaa
