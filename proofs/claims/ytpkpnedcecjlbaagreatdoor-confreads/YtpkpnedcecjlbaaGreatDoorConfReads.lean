/- Proved: the program and the document take any bytes for the same command, or refuse them with the same error; for all bytes; no condition beyond the library's variable that is read (lz_of). -/
import Derived.Test.YtpkpnedcecjlbaaGreatDoorB47
import Derived.Test.YtpkpnedcecjlbaaGreatDoorB33
import Derived.Test.YtpkpnedcecjlbaaGreatDoorB35
import Derived.Test.YtpkpnedcecjlbaaGreatDoorB14
import Derived.Test.YtpkpnedcecjlbaaGreatDoorTie
import Derived.Test.YtpkpnedcecjlbaaGreatDoorCards
import Derived.Lay
import Derived.MakeChecks
import Derived.SevenTiedAt
import Derived.Stop.Joined
namespace Go.Proofs.YtpkpnedcecjlbaaGreatDoor.confReads
open Go.ChangeShapes Go.WideShapes Go.ChangeAt Go.RowKit
set_option linter.unusedVariables false

theorem own : ownKnob Tryz.prog.godebug = none := by kernel_rfl
theorem laidOut : laidOutB Tryz.prog = true := by kernel_rfl

theorem get_same {l : List Nat} {w : World} (hb : ∀ c ∈ l, c < 256) : GetZE l w = GetKE l w := by
  funext en w'
  unfold GetZE GetKE
  rw [rgetV_is hb]
set_option maxRecDepth 20000 in
set_option maxHeartbeats 8000000 in
theorem walk (a1 : Option Addr) (c1 : Nat) (l1 : List Nat) (w : World) (hc1 : l1.length ≤ c1) (hm1 : c1 ≤ 140737488355328) (hb1 : BytesAt w a1 l1) (hz1 : a1 = none → c1 = 0) (hLz : Lz w) :
    Calls Tryz.prog 4 #[.slice a1 l1.length c1] w fun e w' => e = .returned (.bool true) ∧ Below w.heap.size w w' := by
  have MX := hide (fun (W : World) (hb : Below w.heap.size w W) => Mx.later hLz hb)
  have GC := hide (kget_calls a1 c1 l1 w hc1 (by simp only [maxLen]; omega) hb1 hz1 (unhide MX w (Below.refl _ _)))
  have RG := hide (fun (W : World) (hb : Below w.heap.size w W) => (get_same (l := l1) (w := W) hb1.lt) ▸ zget_calls a1 c1 l1 W hc1 (by simp only [maxLen]; omega) (hb1.later hb) hz1 (by omega))
  unfold GetKE at GC RG
  clear hc1 hm1 hb1 hz1 hLz
  generalize getV l1 = g at *
  obtain ⟨C, x⟩ := g
  dsimp only at *
  obtain ⟨act, cli, seq, exp, host, pre, pool, ts⟩ := C
  unfold cmdVal at *
  dsimp only at *
  go_enter Tryz.func4, Tryz.ntmps4
  go_wp2_with fail
  go_at_call 14
  refine (unhide GC).mono ?_
  rintro e V1 ⟨ta, tt, rfl, ca, _, v1⟩
  have B1 := hide v1
  have T1 := hide ca.tgs
  have TN := hide ca.tn.1
  have TZ := hide (show host.size ≤ 140737488355328 ∧ pre.size ≤ 140737488355328 ∧ pool.size ≤ 140737488355328 from ⟨ca.th, ca.tp, ca.tl⟩)
  dsimp only at T1 TN
  clear ca v1 GC
  have bA := hide (show Below V1.heap.size V1 (V1.alloc (.cells #[.int .i64 act, .int .i64 cli, .int .i64 seq, .int .i64 exp, .string host, .string pre, .string pool, .slice ta ts.length tt] 25)) from (Below.refl _ _).alloc (Nat.le_refl _) _)
  have XA := hide (heap_new V1 (.cells #[.int .i64 act, .int .i64 cli, .int .i64 seq, .int .i64 exp, .string host, .string pre, .string pool, .slice ta ts.length tt] 25))
  have B2 := hide ((unhide B1).trans ((unhide bA).mono (unhide B1).size))
  have T2 := hide ((unhide T1).later (unhide bA))
  have G2 := hide (unhide RG _ (unhide B2))
  clear bA T1 RG
  go_wp2_with fail
  generalize (V1.alloc (.cells #[.int .i64 act, .int .i64 cli, .int .i64 seq, .int .i64 exp, .string host, .string pre, .string pool, .slice ta ts.length tt] 25)) = U1 at *
  go_at_call 15
  refine (unhide G2).mono ?_
  rintro e V2 ⟨ua, ut, rfl, ca, _, v2⟩
  have bB := hide (show Below V2.heap.size V2 (V2.alloc (.cells #[.int .i64 act, .int .i64 cli, .int .i64 seq, .int .i64 exp, .string host, .string pre, .string pool, .slice ua ts.length ut] 25)) from (Below.refl _ _).alloc (Nat.le_refl _) _)
  have XB := hide (heap_new V2 (.cells #[.int .i64 act, .int .i64 cli, .int .i64 seq, .int .i64 exp, .string host, .string pre, .string pool, .slice ua ts.length ut] 25))
  have B3 := hide ((unhide B2).trans (v2.mono (unhide B2).size))
  have B4 := hide ((unhide B3).trans ((unhide bB).mono (unhide B3).size))
  have T4 := hide (((unhide T2).later v2).later (unhide bB))
  have S4 := hide (ca.tgs.later (unhide bB))
  have XA4 := hide (later_block (unhide bB) (later_block v2 (unhide XA)))
  have LV := hide (live8_calls _ (unhide MX _ (unhide B4)))
  dsimp only at S4
  clear v2 G2 ca bB XA T2
  go_wp2_with fail
  generalize (V2.alloc (.cells #[.int .i64 act, .int .i64 cli, .int .i64 seq, .int .i64 exp, .string host, .string pre, .string pool, .slice ua ts.length ut] 25)) = U2 at *
  go_at_call 10
  refine (unhide LV).mono ?_
  rintro e V3 ⟨rfl, v3⟩
  have B5 := hide ((unhide B4).trans (v3.mono (unhide B4).size))
  have XA5 := hide (later_block v3 (unhide XA4))
  have XB5 := hide (later_block v3 (unhide XB))
  have SC := hide (sameM_calls (w := V3) (c := ⟨act, cli, seq, exp, host, pre, pool, ts⟩) (a := ta) (t := tt) (a' := ua) (t' := ut) ((unhide T4).later v3) ((unhide S4).later v3) (unhide TN) (unhide TZ))
  unfold cmdVal at SC
  dsimp only at SC
  have d0 := fcell0 (unhide XA5) 0 (.int .i64 act) rfl
  have e0 := fcell0 (unhide XB5) 0 (.int .i64 act) rfl
  have d1 := fcell0 (unhide XA5) 1 (.int .i64 cli) rfl
  have e1 := fcell0 (unhide XB5) 1 (.int .i64 cli) rfl
  have d2 := fcell0 (unhide XA5) 2 (.int .i64 seq) rfl
  have e2 := fcell0 (unhide XB5) 2 (.int .i64 seq) rfl
  have d3 := fcell0 (unhide XA5) 3 (.int .i64 exp) rfl
  have e3 := fcell0 (unhide XB5) 3 (.int .i64 exp) rfl
  have d4 := fcell0 (unhide XA5) 4 (.string host) rfl
  have e4 := fcell0 (unhide XB5) 4 (.string host) rfl
  have d5 := fcell0 (unhide XA5) 5 (.string pre) rfl
  have e5 := fcell0 (unhide XB5) 5 (.string pre) rfl
  have d6 := fcell0 (unhide XA5) 6 (.string pool) rfl
  have e6 := fcell0 (unhide XB5) 6 (.string pool) rfl
  have d7 := fcell0 (unhide XA5) 7 (.slice ta ts.length tt) rfl
  have e7 := fcell0 (unhide XB5) 7 (.slice ua ts.length ut) rfl
  clear v3 LV
  go_wp2_with fail
  go_at_call 13
  refine (unhide SC).mono ?_
  rintro e V4 ⟨rfl, v4⟩
  have B6 := hide ((unhide B5).trans (v4.mono (unhide B5).size))
  clear v4 SC d0 d1 d2 d3 d4 d5 d6 d7 e0 e1 e2 e3 e4 e5 e6 e7
  go_wp2
  go_ret
  exact ⟨rfl, unhide B6⟩

set_option maxRecDepth 100000 in
theorem lifted (os : Os) (started : os.Started) (H : Type) (enc : TypeId × Value → H) :
    ReturnsInHanded {} Tryz.checked os 4 .any (fun w args => (Rows.confReadsSpec.pre enc Tryz.prog Tryz.f4 Rows.confReadsRow.domain false w args ∧ laidMetH Tryz.prog Rows.confReadsRow.laid w) ∧ sizedMet enc Tryz.prog Tryz.f4 (OpenSpec.ofChange Rows.confReadsSpec) false w args)
      (Rows.confReadsSpec.post enc Tryz.prog Tryz.f4 false true false false) := by
  refine handed_both (C := Tryz.checked) (X := fun w _ => laidMetH Tryz.prog Rows.confReadsRow.laid w) (fun _ _ _ hh h => h.of_heap hh) own started (by kernel_rfl) Tryz.func4
    (ChangeSpec.witness_shaped (enc := enc) (C := Tryz.checked) (os := os) (X := fun w _ => laidMetH Tryz.prog Rows.confReadsRow.laid w) false (World.laidAll Tryz.prog os Rows.confReadsRow.laid) #[.slice none 0 0] 8 (World.laidAll_os _ _ _)
      (World.shaped_of_ZipB (by kernel_rfl) (by kernel_rfl)) (by kernel_rfl) (by kernel_rfl) (by kernel_rfl)
      (by rw [MakeChecks.laidMetH_plain _ _ _ (by kernel_rfl)]; exact laidMet_laidAll _ (by kernel_rfl) (by kernel_rfl))) ?_
  intro W base args ds gs before hval0 hW hcnd hsz hL hsh _
  have hLz : Lz W := lz_of (by rw [MakeChecks.laidMetH_plain _ _ _ (by kernel_rfl)] at hL; exact hL) hsh
  have hval : ∀ (j : Nat) t v, Tryz.f4.params[j]? = some t → args[j]? = some v → Value.okWide Tryz.prog W .any base t v := hval0
  have hW' := hW
  obtain ⟨p, q, hA0, hV, rfl, hfz, hnd⟩ := hW
  have hA : DataW.TrodAll enc Tryz.prog W 0 (fun _ => true) true Tryz.f4.params.toList args.toList ds p := hA0
  rw [Tryz.params4] at hA hval
  obtain ⟨v0, vs0, d0, ds0, p0, q0, hargs, rfl, rfl, h0, r0⟩ := trodAll_cons hA
  obtain ⟨rfl, rfl, rfl⟩ := trodAll_nil r0
  obtain rfl : args = #[v0] := by cases args; simp_all
  obtain ⟨rfl, rfl⟩ := trodVars_none hV
  obtain ⟨a0, len0, c0, rfl⟩ := okWide_slice Tryz.underlying26 (hval 0 26 v0 rfl rfl)
  have k0 := h0
  have lt0 : ∀ x ∈ p0, x.block < W.heap.size := by obtain ⟨m, hm⟩ := k0; exact DataW.trod_lt m _ _ _ hm
  obtain ⟨l0, rfl, hc0, hx0, hb0, hz0, hr0⟩ := row8 h0
  clear hA0 hval0
  have hm0 : c0 ≤ 140737488355328 := reach8 hsz (j := 0) (d := d0) rfl rfl hr0
  refine (walk a0 c0 l0 W hc0 hm0 hb0 hz0 hLz).mono fun e W' ⟨he, bel⟩ => ?_
  subst he
  exact ⟨_, rfl, _, _, _, [], _, [], hW', trodAll_mk1 (shut_bool Tryz.underlying4 _), (trodAll_cons_mk (Below.trod laidOut (by kernel_rfl) (of_decide_eq_true (by kernel_rfl)) k0 bel lt0) trodAll_mk0), rfl, bel.frame _, fun h => by cases h⟩

theorem proved : Rows.ConfReadsSaid :=
  OpenClaim.holds_of_wide 4 Tryz.f4 rfl rfl rfl rfl rfl rfl rfl ⟨rfl, rfl, rfl, rfl, rfl⟩ rfl rfl rfl rfl rfl (by kernel_rfl) Tryz.func4 (by kernel_rfl)
    (of_decide_eq_true (by kernel_rfl)) (by unfold Func.isWrapper; first | (rw [if_pos (by decide +kernel)]; kernel_rfl) | (rw [if_neg (by decide +kernel)]; exact ⟨rfl, rfl⟩))
    (fun os started H enc _ => lifted os started H enc)
theorem card : Rows.ConfReadsCardSaid :=
  Claim7.holds_tied_plain_at .later [] [.data, .pinned] true (true, "b7fa9f903173f51ff5646f2ce31a9d2e1f2bb21ed41642c1f1054eddabb198cc") true proved (fun _ h => by cases h) (by kernel_rfl) (fun _ h => by cases h) confReads_row_tie rfl ⟨rfl, rfl⟩ (by kernel_rfl) rfl
    (fun f fn hf hfn => by
      obtain rfl : f = 4 := Option.some.inj ((show Tryz.prog.funcNamed "tollgate/tollgatelaw08.ConfReads" = some 4 by kernel_rfl).symm.trans hf) |>.symm
      obtain rfl : fn = Tryz.f4 := (Option.some.inj (Tryz.func4.symm.trans hfn)).symm
      exact ⟨by kernel_rfl, fun j t ht => by
        rw [Tryz.params4] at ht
        have hm : t ∈ [26] := by simpa using Array.mem_of_getElem? ht
        have hall : ([26].all fun u => !Tryz.prog.wantsStandIn u) = true := by kernel_rfl
        exact (show Tryz.prog.wantsStandIn t = false by simpa using List.all_eq_true.1 hall t hm)⟩)
    (by kernel_rfl)
end Go.Proofs.YtpkpnedcecjlbaaGreatDoor.confReads
namespace Go.Proofs.YtpkpnedcecjlbaaGreatDoor
theorem confReads_holds : Rows.ConfReadsCardSaid := confReads.card
#print axioms confReads_holds
end Go.Proofs.YtpkpnedcecjlbaaGreatDoor
