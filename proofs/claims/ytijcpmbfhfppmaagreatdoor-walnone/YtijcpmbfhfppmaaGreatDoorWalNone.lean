/- Proved: a nil disk and a nil log answer as the document says, for every number, entry and hard state; no condition beyond the tables that the row lists (tz_of). -/
import Derived.Test.YtijcpmbfhfppmaaGreatDoorB26
import Derived.Test.YtijcpmbfhfppmaaGreatDoorTie
import Derived.Test.YtijcpmbfhfppmaaGreatDoorCards
import Derived.Lay
import Derived.MakeChecks
import Derived.SevenTiedAt
import Derived.Stop.Joined
namespace Go.Proofs.YtijcpmbfhfppmaaGreatDoor.walNone
open Go.ChangeShapes Go.WideShapes Go.ChangeAt Go.RowKit
set_option linter.unusedVariables false

theorem own : ownKnob Tryz.prog.godebug = none := by kernel_rfl
theorem laidOut : laidOutB Tryz.prog = true := by kernel_rfl

set_option maxRecDepth 20000 in
set_option maxHeartbeats 8000000 in
theorem walk (n0 : Int) (k1 t1 u1 : Int) (a1 : Option Addr) (c1 : Nat) (l1 : List Nat) (t2 u2 : Int) (w : World) (bn : -9223372036854775808 ≤ n0 ∧ n0 ≤ 9223372036854775807) (bk1 : -9223372036854775808 ≤ k1 ∧ k1 ≤ 9223372036854775807) (bt1 : -9223372036854775808 ≤ t1 ∧ t1 ≤ 9223372036854775807) (bu1 : -9223372036854775808 ≤ u1 ∧ u1 ≤ 9223372036854775807)
    (hc1 : l1.length ≤ c1) (hx1 : c1 ≤ maxLen) (hb1 : BytesAt w a1 l1) (hz1 : a1 = none → c1 = 0) (bt2 : -9223372036854775808 ≤ t2 ∧ t2 ≤ 9223372036854775807) (bu2 : -9223372036854775808 ≤ u2 ∧ u2 ≤ 9223372036854775807) (hTz : Tz w) :
    Calls Tryz.prog 12 #[.int .i64 n0, .agg #[.int .i64 k1, .int .i64 t1, .int .i64 u1, .slice a1 l1.length c1], .agg #[.int .i64 t2, .int .i64 u2]] w fun e w' => e = .returned (.bool true) ∧ Below w.heap.size w w' := by
  generalize l1.length = m1 at *
  have U0 := hide (show Below w.heap.size w ((w.alloc (.cells #[.int .i64 k1, .int .i64 t1, .int .i64 u1, .slice a1 m1 c1] 60)).alloc (.cells #[.int .i64 t2, .int .i64 u2] 29)) from ((Below.refl _ _).alloc (Nat.le_refl _) _).alloc (by simp) _)
  have X1 := heap_new w (.cells #[.int .i64 k1, .int .i64 t1, .int .i64 u1, .slice a1 m1 c1] 60)
  have X2 := heap_new (w.alloc (.cells #[.int .i64 k1, .int .i64 t1, .int .i64 u1, .slice a1 m1 c1] 60)) (.cells #[.int .i64 t2, .int .i64 u2] 29)
  rw [show (w.alloc (.cells #[.int .i64 k1, .int .i64 t1, .int .i64 u1, .slice a1 m1 c1] 60)).heap.size = w.heap.size + 1 by simp] at X2
  have X1 := later_block (w' := (w.alloc (.cells #[.int .i64 k1, .int .i64 t1, .int .i64 u1, .slice a1 m1 c1] 60)).alloc (.cells #[.int .i64 t2, .int .i64 u2] 29)) ((Below.refl _ _).alloc (Nat.le_refl _) _) X1
  have Y1 := hide X1
  have Y2 := hide X2
  have TZ := hide hTz
  clear X1 X2 hTz hb1 hz1 hx1 hc1
  go_enter Tryz.func12, Tryz.ntmps12
  go_wp2_with fail
  generalize (w.alloc _).alloc _ = W0 at *
  go_at_call 25
  refine (openN_calls _).mono ?_
  rintro e V1 ⟨rfl, v1⟩
  have U1 := hide ((unhide U0).trans (v1.mono (unhide U0).size))
  have C1 := hide (show Below W0.heap.size W0 V1 from v1)
  clear v1
  go_wp2_with fail
  go_at_call 19
  refine (termN_calls _ n0).mono ?_
  rintro e V2 ⟨rfl, v2⟩
  have U2 := hide ((unhide U1).trans (v2.mono (unhide U1).size))
  have C2 := hide ((unhide C1).trans (v2.mono (unhide C1).size))
  clear v2
  go_wp2_with fail
  go_at_call 18
  refine (live6_calls _ ((unhide TZ).later (unhide U2))).mono ?_
  rintro e V3 ⟨rfl, v3⟩
  have U3 := hide ((unhide U2).trans (v3.mono (unhide U2).size))
  have C3 := hide ((unhide C2).trans (v3.mono (unhide C2).size))
  clear v3
  have x0 : V3.cell? ⟨w.heap.size, 0, none⟩ = some (.int .i64 k1) := box_cell (later_block (unhide C3) (unhide Y1)) 0 _ rfl
  have x1 : V3.cell? ⟨w.heap.size, 1, none⟩ = some (.int .i64 t1) := box_cell (later_block (unhide C3) (unhide Y1)) 1 _ rfl
  have x2 : V3.cell? ⟨w.heap.size, 2, none⟩ = some (.int .i64 u1) := box_cell (later_block (unhide C3) (unhide Y1)) 2 _ rfl
  have x3 : V3.cell? ⟨w.heap.size, 3, none⟩ = some (.slice a1 m1 c1) := box_cell (later_block (unhide C3) (unhide Y1)) 3 _ rfl
  go_wp2_with fail
  have UA := hide ((Below.refl V3.heap.size V3).alloc (Nat.le_refl _) (.cells #[.int .i64 k1, .int .i64 t1, .int .i64 u1, .slice a1 m1 c1] 60))
  have UB := hide ((unhide U3).trans ((unhide UA).mono (unhide U3).size))
  have CA := hide ((unhide C3).trans ((unhide UA).mono (unhide C3).size))
  clear x0 x1 x2 x3
  generalize V3.alloc _ = VA at *
  go_at_call 27
  refine (appendN_calls _ _).mono ?_
  rintro e V4 ⟨rfl, v4⟩
  have U4 := hide ((unhide UB).trans (v4.mono (unhide UB).size))
  have C4 := hide ((unhide CA).trans (v4.mono (unhide CA).size))
  clear v4
  have y0 : V4.cell? ⟨w.heap.size + 1, 0, none⟩ = some (.int .i64 t2) := box_cell (later_block (unhide C4) (unhide Y2)) 0 _ rfl
  have y1 : V4.cell? ⟨w.heap.size + 1, 1, none⟩ = some (.int .i64 u2) := box_cell (later_block (unhide C4) (unhide Y2)) 1 _ rfl
  go_wp2_with fail
  go_at_call 28
  refine (setHardN_calls _ t2 u2).mono ?_
  rintro e V5 ⟨rfl, v5⟩
  have U5 := hide ((unhide U4).trans (v5.mono (unhide U4).size))
  have C5 := hide ((unhide C4).trans (v5.mono (unhide C4).size))
  clear v5
  go_wp2_with fail
  go_at_call 29
  refine (syncN_calls _).mono ?_
  rintro e V6 ⟨rfl, v6⟩
  have U6 := hide ((unhide U5).trans (v6.mono (unhide U5).size))
  have C6 := hide ((unhide C5).trans (v6.mono (unhide C5).size))
  clear v6
  go_wp2_with fail
  go_at_call 30
  refine (compactN_calls _ n0).mono ?_
  rintro e V7 ⟨rfl, v7⟩
  have U7 := hide ((unhide U6).trans (v7.mono (unhide U6).size))
  have C7 := hide ((unhide C6).trans (v7.mono (unhide C6).size))
  clear v7
  go_wp2_with fail
  go_at_call 31
  refine (resetN_calls _ n0 0).mono ?_
  rintro e V8 ⟨rfl, v8⟩
  have U8 := hide ((unhide U7).trans (v8.mono (unhide U7).size))
  have C8 := hide ((unhide C7).trans (v8.mono (unhide C7).size))
  clear v8
  go_wp2_with fail
  go_at_call 40
  refine (hardN_calls _).mono ?_
  rintro e V9 ⟨rfl, v9⟩
  have U9 := hide ((unhide U8).trans (v9.mono (unhide U8).size))
  have C9 := hide ((unhide C8).trans (v9.mono (unhide C8).size))
  clear v9
  go_wp2_with fail
  go_at_call 41
  refine (baseN_calls _).mono ?_
  rintro e V10 ⟨rfl, v10⟩
  have U10 := hide ((unhide U9).trans (v10.mono (unhide U9).size))
  have C10 := hide ((unhide C9).trans (v10.mono (unhide C9).size))
  clear v10
  go_wp2_with fail
  go_at_call 39
  refine (lastN_calls _).mono ?_
  rintro e V11 ⟨rfl, v11⟩
  have U11 := hide ((unhide U10).trans (v11.mono (unhide U10).size))
  have C11 := hide ((unhide C10).trans (v11.mono (unhide C10).size))
  clear v11
  go_wp2_with fail
  go_at_call 22
  refine (entriesN_calls _ n0 n0).mono ?_
  rintro e V12 ⟨rfl, v12⟩
  have U12 := hide ((unhide U11).trans (v12.mono (unhide U11).size))
  have C12 := hide ((unhide C11).trans (v12.mono (unhide C11).size))
  clear v12
  go_wp2_with fail
  go_at_call 34
  refine (fileN_calls _).mono ?_
  rintro e V13 ⟨rfl, v13⟩
  have U13 := hide ((unhide U12).trans (v13.mono (unhide U12).size))
  have C13 := hide ((unhide C12).trans (v13.mono (unhide C12).size))
  clear v13
  go_wp2
  go_ret
  exact ⟨rfl, unhide U13⟩

set_option maxRecDepth 100000 in
theorem lifted (os : Os) (started : os.Started) (H : Type) (enc : TypeId × Value → H) :
    ReturnsInHanded {} Tryz.checked os 12 .any (fun w args => (Rows.walNoneSpec.pre enc Tryz.prog Tryz.f12 Rows.walNoneRow.domain false w args ∧ laidMetH Tryz.prog Rows.walNoneRow.laid w) ∧ sizedMet enc Tryz.prog Tryz.f12 (OpenSpec.ofChange Rows.walNoneSpec) false w args)
      (Rows.walNoneSpec.post enc Tryz.prog Tryz.f12 false true false false) := by
  refine returnsInHanded_of_change_and (C := Tryz.checked) (X := fun w _ => laidMetH Tryz.prog Rows.walNoneRow.laid w) (fun _ _ _ hh h => h.of_heap hh) own started (by kernel_rfl) Tryz.func12
    (ChangeSpec.witness_shaped (enc := enc) (C := Tryz.checked) (os := os) (X := fun w _ => laidMetH Tryz.prog Rows.walNoneRow.laid w) false (World.laidAll Tryz.prog os Rows.walNoneRow.laid) #[.int .i64 0, .agg #[.int .i64 0, .int .i64 0, .int .i64 0, .slice none 0 0], .agg #[.int .i64 0, .int .i64 0]] 8 (World.laidAll_os _ _ _)
      (World.shaped_of_ZipB (by kernel_rfl) (by kernel_rfl)) (by kernel_rfl) (by kernel_rfl) (by kernel_rfl)
      (by rw [MakeChecks.laidMetH_plain _ _ _ (by kernel_rfl)]; exact laidMet_laidAll _ (by kernel_rfl) (by kernel_rfl))) ?_
  intro W base args ds gs before hval0 hW hcnd hsz hL _
  have hTz : Tz W := tz_of (by rw [MakeChecks.laidMetH_plain _ _ _ (by kernel_rfl)] at hL; exact hL)
  have hval : ∀ (j : Nat) t v, Tryz.f12.params[j]? = some t → args[j]? = some v → Value.okWide Tryz.prog W .any base t v := hval0
  have hW' := hW
  obtain ⟨p, q, hA0, hV, rfl, hfz, hnd⟩ := hW
  have hA : DataW.TrodAll enc Tryz.prog W 0 (fun _ => true) true Tryz.f12.params.toList args.toList ds p := hA0
  rw [Tryz.params12] at hA hval
  obtain ⟨v0, vs0, d0, ds0, p0, q0, hargs, rfl, rfl, h0, r0⟩ := trodAll_cons hA
  obtain ⟨v1, vs1, d1, ds1, p1, q1, rfl, rfl, rfl, h1, r1⟩ := trodAll_cons r0
  obtain ⟨v2, vs2, d2, ds2, p2, q2, rfl, rfl, rfl, h2, r2⟩ := trodAll_cons r1
  obtain ⟨rfl, rfl, rfl⟩ := trodAll_nil r2
  obtain rfl : args = #[v0, v1, v2] := by cases args; simp_all
  obtain ⟨rfl, rfl⟩ := trodVars_none hV
  obtain ⟨n0, rfl, rfl, rfl, w0⟩ := open_int Tryz.underlying3 (hval 0 3 v0 rfl rfl) h0
  have hn0 := i64_bounds w0
  have k1 := h1
  have lt1 : ∀ x ∈ p1, x.block < W.heap.size := by obtain ⟨m, hm⟩ := k1; exact DataW.trod_lt m _ _ _ hm
  obtain ⟨k1e, t1, u1, a1, c1, l1, rfl, bk1, bt1, bu1, hc1, hx1, hb1, hz1⟩ := open_entry (hval 1 60 v1 rfl rfl) h1
  have k2 := h2
  have lt2 : ∀ x ∈ p2, x.block < W.heap.size := by obtain ⟨m, hm⟩ := k2; exact DataW.trod_lt m _ _ _ hm
  obtain ⟨t2, u2, rfl, bt2, bu2⟩ := open_hard (hval 2 29 v2 rfl rfl) h2
  clear hA0 hval0
  refine (walk n0 k1e t1 u1 a1 c1 l1 t2 u2 W hn0 bk1 bt1 bu1 hc1 hx1 hb1 hz1 bt2 bu2 hTz).mono fun e W' ⟨he, bel⟩ => ?_
  subst he
  exact ⟨_, rfl, _, _, _, [], _, [], hW', trodAll_mk1 (shut_bool Tryz.underlying4 _), (trodAll_cons_mk (shut_int Tryz.underlying3 w0) (trodAll_cons_mk (Below.trod laidOut (by kernel_rfl) (of_decide_eq_true (by kernel_rfl)) k1 bel lt1) (trodAll_cons_mk (Below.trod laidOut (by kernel_rfl) (of_decide_eq_true (by kernel_rfl)) k2 bel lt2) trodAll_mk0))), rfl, bel.frame _, fun h => by cases h⟩

theorem proved : Rows.WalNoneSaid :=
  OpenClaim.holds_of_wide 12 Tryz.f12 rfl rfl rfl rfl rfl rfl rfl ⟨rfl, rfl, rfl, rfl, rfl⟩ rfl rfl rfl rfl rfl (by kernel_rfl) Tryz.func12 (by kernel_rfl)
    (of_decide_eq_true (by kernel_rfl)) (by unfold Func.isWrapper; first | (rw [if_pos (by decide +kernel)]; kernel_rfl) | (rw [if_neg (by decide +kernel)]; exact ⟨rfl, rfl⟩))
    (fun os started H enc _ => lifted os started H enc)
theorem card : Rows.WalNoneCardSaid :=
  Claim7.holds_tied_plain_at .later [] [.data, .data, .data, .sentinel, .sentinel] true (true, "88ca12b5e2985bf86c8c037a77f67510c0f31dea6bd67df2758923acb4652b36") true proved (fun _ h => by cases h) (by kernel_rfl) (fun _ h => by cases h) walNone_row_tie rfl ⟨rfl, rfl⟩ (by kernel_rfl) rfl
    (fun f fn hf hfn => by
      obtain rfl : f = 12 := Option.some.inj ((show Tryz.prog.funcNamed "tollgate/tollgatelaw06.WalNone" = some 12 by kernel_rfl).symm.trans hf) |>.symm
      obtain rfl : fn = Tryz.f12 := (Option.some.inj (Tryz.func12.symm.trans hfn)).symm
      exact ⟨by kernel_rfl, fun j t ht => by
        rw [Tryz.params12] at ht
        have hm : t ∈ [3, 60, 29] := by simpa using Array.mem_of_getElem? ht
        have hall : ([3, 60, 29].all fun u => !Tryz.prog.wantsStandIn u) = true := by kernel_rfl
        exact (show Tryz.prog.wantsStandIn t = false by simpa using List.all_eq_true.1 hall t hm)⟩)
    (by kernel_rfl)
end Go.Proofs.YtijcpmbfhfppmaaGreatDoor.walNone
namespace Go.Proofs.YtijcpmbfhfppmaaGreatDoor
theorem walNone_holds : Rows.WalNoneCardSaid := walNone.card
#print axioms walNone_holds
end Go.Proofs.YtijcpmbfhfppmaaGreatDoor
