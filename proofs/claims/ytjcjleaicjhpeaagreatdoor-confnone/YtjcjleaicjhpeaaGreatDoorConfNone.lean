/- Proved: a nil store answers so; for every command and number; no condition beyond the library's variable that is read (lz_of). -/
import Derived.Test.YtjcjleaicjhpeaaGreatDoorB22
import Derived.Test.YtjcjleaicjhpeaaGreatDoorTie
import Derived.Test.YtjcjleaicjhpeaaGreatDoorCards
import Derived.Lay
import Derived.MakeChecks
import Derived.SevenTiedAt
import Derived.Stop.Joined
namespace Go.Proofs.YtjcjleaicjhpeaaGreatDoor.confNone
open Go.ChangeShapes Go.WideShapes Go.ChangeAt Go.RowKit
set_option linter.unusedVariables false

theorem own : ownKnob Tryz.prog.godebug = none := by kernel_rfl
theorem laidOut : laidOutB Tryz.prog = true := by kernel_rfl

theorem eqR1 (W : World) : (binOp .eql 38 (.agg #[.int .i64 1, .int .i64 0]) (.agg #[.int .i64 1, .int .i64 0])).run Tryz.prog W = .ok (.bool true) W := by kernel_rfl
theorem eqR0 (W : World) : (binOp .eql 38 (.agg #[.int .i64 0, .int .i64 0]) (.agg #[.int .i64 0, .int .i64 0])).run Tryz.prog W = .ok (.bool true) W := by kernel_rfl
theorem nilCf (W : World) : CfAt W ⟨0, [], []⟩ ⟨none, 0, none, 0⟩ := ⟨by simp, ⟨by simp, fun i hi => by simp at hi⟩, ⟨fun i hi => by simp at hi⟩, by simp [maxLen], by simp [maxLen], fun _ => rfl⟩
set_option maxRecDepth 20000 in
set_option maxHeartbeats 8000000 in
theorem walk (c : Cmd) (q : Option Addr × Nat) (n : Int) (w : World) (hc : CmdM w c q.1 q.2) (hn : -9223372036854775808 ≤ n ∧ n ≤ 9223372036854775807) (hLz : Lz w) :
    Calls Tryz.prog 11 #[cmdVal c q.1 q.2, .int .i64 n] w fun e w' => e = .returned (.bool true) ∧ Below w.heap.size w w' := by
  obtain ⟨a, tc⟩ := q
  have b1 := hide (show Below w.heap.size w (w.alloc (.cells (cmdRow c a tc) 33)) from (Below.refl _ _).alloc (Nat.le_refl _) _)
  have X1 := hide (heap_new w (.cells (cmdRow c a tc) 33))
  have MX := hide (fun (W : World) (hb : Below w.heap.size w W) => Mx.later hLz hb)
  have SN := hide (seenN_calls (w.alloc (.cells (cmdRow c a tc) 33)) n)
  have DN := hide (fun W => doN_calls W c a tc)
  clear hc hLz
  unfold cmdRow cmdVal at *
  obtain ⟨act, cli, seq, exp, host, pre, pool, ts⟩ := c
  simp only at *
  go_enter Tryz.func11, Tryz.ntmps11
  go_wp2_with fail
  generalize (w.alloc (.cells #[.int .i64 act, .int .i64 cli, .int .i64 seq, .int .i64 exp, .string host, .string pre, .string pool, .slice a ts.length tc] 33)) = V at *
  refine (unhide SN).mono ?_
  rintro e V1 ⟨rfl, v1⟩
  have XA := hide (later_block v1 (unhide X1))
  have B2 := hide ((unhide b1).trans (v1.mono (by have := (unhide b1).size; omega)))
  have bA := hide (show Below V1.heap.size V1 (V1.alloc (.cells #[.int .i64 0, .int .i64 0] 38)) from (Below.refl _ _).alloc (Nat.le_refl _) _)
  have XR := hide (heap_new V1 (.cells #[.int .i64 0, .int .i64 0] 38))
  have XB := hide (later_block (unhide bA) (unhide XA))
  have B3 := hide ((unhide B2).trans ((unhide bA).mono (by have := (unhide B2).size; omega)))
  have LV := hide (live8_calls (V1.alloc (.cells #[.int .i64 0, .int .i64 0] 38)) (unhide MX _ (unhide B3)))
  clear v1 SN b1 X1 XA bA B2
  go_wp2_with fail
  generalize hT : V1.heap.size = T at *
  generalize V1.alloc (.cells #[.int .i64 0, .int .i64 0] 38) = V2 at *
  refine (unhide LV).mono ?_
  rintro e V3 ⟨rfl, v3⟩
  have XC := hide (later_block v3 (unhide XB))
  have XS := hide (later_block v3 (unhide XR))
  have B4 := hide ((unhide B3).trans (v3.mono (by have := (unhide B3).size; omega)))
  have k0 := fcell0 (unhide XC) 0 _ rfl
  have k1 := fcell0 (unhide XC) 1 _ rfl
  have k2 := fcell0 (unhide XC) 2 _ rfl
  have k3 := fcell0 (unhide XC) 3 _ rfl
  have k4 := fcell0 (unhide XC) 4 _ rfl
  have k5 := fcell0 (unhide XC) 5 _ rfl
  have k6 := fcell0 (unhide XC) 6 _ rfl
  have k7 := fcell0 (unhide XC) 7 _ rfl
  have h1 := eqR1
  have h0 := eqR0
  clear v3 LV XB XR B3
  go_wp2_with fail
  refine (unhide DN V3).mono ?_
  rintro e V4 ⟨rfl, v4⟩
  have XT := hide (later_block v4 (unhide XS))
  have B5 := hide ((unhide B4).trans (v4.mono (by have := (unhide B4).size; omega)))
  have CN := hide (configN_calls V4)
  clear k0 k1 k2 k3 k4 k5 k6 k7 v4 XC XS DN B4
  go_wp2_with fail
  refine (unhide CN).mono ?_
  rintro e V5 ⟨rfl, v5⟩
  have XU := hide (later_block v5 (unhide XT))
  have B6 := hide ((unhide B5).trans (v5.mono (by have := (unhide B5).size; omega)))
  have SC := hide (sameC_calls (nilCf V5) (nilCf V5))
  clear v5 CN XT B5
  go_wp2_with fail
  refine (unhide SC).mono ?_
  rintro e V6 ⟨rfl, v6⟩
  have XV := hide (later_block v6 (unhide XU))
  have B7 := hide ((unhide B6).trans (v6.mono (by have := (unhide B6).size; omega)))
  have z0 := fcell0 (unhide XV) 0 _ rfl
  have z1 := fcell0 (unhide XV) 1 _ rfl
  have PN := hide (putN_calls V6)
  have FN := hide (forkN_calls V6)
  clear v6 SC XU B6
  go_wp2_with fail
  refine (unhide PN).mono ?_
  rintro e V7 ⟨rfl, rfl⟩
  go_wp2_with fail
  refine (unhide FN).mono ?_
  rintro e V8 ⟨rfl, rfl⟩
  go_wp2
  go_ret
  exact ⟨rfl, unhide B7⟩

set_option maxRecDepth 100000 in
theorem lifted (os : Os) (started : os.Started) (H : Type) (enc : TypeId × Value → H) :
    ReturnsInHanded {} Tryz.checked os 11 .any (fun w args => (Rows.confNoneSpec.pre enc Tryz.prog Tryz.f11 Rows.confNoneRow.domain false w args ∧ laidMetH Tryz.prog Rows.confNoneRow.laid w) ∧ sizedMet enc Tryz.prog Tryz.f11 (OpenSpec.ofChange Rows.confNoneSpec) false w args)
      (Rows.confNoneSpec.post enc Tryz.prog Tryz.f11 false true false false) := by
  refine handed_both (C := Tryz.checked) (X := fun w _ => laidMetH Tryz.prog Rows.confNoneRow.laid w) (fun _ _ _ hh h => h.of_heap hh) own started (by kernel_rfl) Tryz.func11
    (ChangeSpec.witness_shaped (enc := enc) (C := Tryz.checked) (os := os) (X := fun w _ => laidMetH Tryz.prog Rows.confNoneRow.laid w) false (World.laidAll Tryz.prog os Rows.confNoneRow.laid) #[.agg #[.int .i64 0, .int .i64 0, .int .i64 0, .int .i64 0, .string ⟨#[]⟩, .string ⟨#[]⟩, .string ⟨#[]⟩, .slice none 0 0], .int .i64 0] 8 (World.laidAll_os _ _ _)
      (World.shaped_of_ZipB (by kernel_rfl) (by kernel_rfl)) (by kernel_rfl) (by kernel_rfl) (by kernel_rfl)
      (by rw [MakeChecks.laidMetH_plain _ _ _ (by kernel_rfl)]; exact laidMet_laidAll _ (by kernel_rfl) (by kernel_rfl))) ?_
  intro W base args ds gs before hval0 hW hcnd hsz hL hsh _
  have hLz : Lz W := lz_of (by rw [MakeChecks.laidMetH_plain _ _ _ (by kernel_rfl)] at hL; exact hL) hsh
  have hval : ∀ (j : Nat) t v, Tryz.f11.params[j]? = some t → args[j]? = some v → Value.okWide Tryz.prog W .any base t v := hval0
  have hW' := hW
  obtain ⟨p, q, hA0, hV, rfl, hfz, hnd⟩ := hW
  have hA : DataW.TrodAll enc Tryz.prog W 0 (fun _ => true) true Tryz.f11.params.toList args.toList ds p := hA0
  rw [Tryz.params11] at hA hval
  obtain ⟨v0, vs0, d0, ds0, p0, q0, hargs, rfl, rfl, h0, r0⟩ := trodAll_cons hA
  obtain ⟨v1, vs1, d1, ds1, p1, q1, rfl, rfl, rfl, h1, r1⟩ := trodAll_cons r0
  obtain ⟨rfl, rfl, rfl⟩ := trodAll_nil r1
  obtain rfl : args = #[v0, v1] := by cases args; simp_all
  obtain ⟨rfl, rfl⟩ := trodVars_none hV
  have k0 := h0
  have lt0 : ∀ x ∈ p0, x.block < W.heap.size := by obtain ⟨m, hm⟩ := k0; exact DataW.trod_lt m _ _ _ hm
  obtain ⟨e0, q0, rfl, hb0⟩ := open_cmd (hval 0 33 v0 rfl rfl) h0
  obtain ⟨n1, rfl, rfl, rfl, w1⟩ := open_int Tryz.underlying3 (hval 1 3 v1 rfl rfl) h1
  have hn1 := i64_bounds w1
  clear hA0 hval0
  refine (walk e0 q0 n1 W hb0 hn1 hLz).mono fun e W' ⟨he, bel⟩ => ?_
  subst he
  exact ⟨_, rfl, _, _, _, [], _, [], hW', trodAll_mk1 (shut_bool Tryz.underlying4 _), (trodAll_cons_mk (Below.trod laidOut (by kernel_rfl) (of_decide_eq_true (by kernel_rfl)) k0 bel lt0) (trodAll_cons_mk (shut_int Tryz.underlying3 w1) trodAll_mk0)), rfl, bel.frame _, fun h => by cases h⟩

theorem proved : Rows.ConfNoneSaid :=
  OpenClaim.holds_of_wide 11 Tryz.f11 rfl rfl rfl rfl rfl rfl rfl ⟨rfl, rfl, rfl, rfl, rfl⟩ rfl rfl rfl rfl rfl (by kernel_rfl) Tryz.func11 (by kernel_rfl)
    (of_decide_eq_true (by kernel_rfl)) (by unfold Func.isWrapper; first | (rw [if_pos (by decide +kernel)]; kernel_rfl) | (rw [if_neg (by decide +kernel)]; exact ⟨rfl, rfl⟩))
    (fun os started H enc _ => lifted os started H enc)
theorem card : Rows.ConfNoneCardSaid :=
  Claim7.holds_tied_plain_at .later [] [.data, .pinned] true (true, "89d1760e23aee8cb48403b92d66bdb27becc73d2bdf8439e6d812ff72b70fd86") true proved (fun _ h => by cases h) (by kernel_rfl) (fun _ h => by cases h) confNone_row_tie rfl ⟨rfl, rfl⟩ (by kernel_rfl) rfl
    (fun f fn hf hfn => by
      obtain rfl : f = 11 := Option.some.inj ((show Tryz.prog.funcNamed "tollgate/tollgatelaw08.ConfNone" = some 11 by kernel_rfl).symm.trans hf) |>.symm
      obtain rfl : fn = Tryz.f11 := (Option.some.inj (Tryz.func11.symm.trans hfn)).symm
      exact ⟨by kernel_rfl, fun j t ht => by
        rw [Tryz.params11] at ht
        have hm : t ∈ [33, 3] := by simpa using Array.mem_of_getElem? ht
        have hall : ([33, 3].all fun u => !Tryz.prog.wantsStandIn u) = true := by kernel_rfl
        exact (show Tryz.prog.wantsStandIn t = false by simpa using List.all_eq_true.1 hall t hm)⟩)
    (by kernel_rfl)
end Go.Proofs.YtjcjleaicjhpeaaGreatDoor.confNone
namespace Go.Proofs.YtjcjleaicjhpeaaGreatDoor
theorem confNone_holds : Rows.ConfNoneCardSaid := confNone.card
#print axioms confNone_holds
end Go.Proofs.YtjcjleaicjhpeaaGreatDoor
