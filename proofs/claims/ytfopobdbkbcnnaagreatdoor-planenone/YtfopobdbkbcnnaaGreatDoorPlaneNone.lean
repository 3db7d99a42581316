/- Proved: a plane that is none answers as the document says; for all configurations, bytes and draws; no condition beyond the tables that the row lists. plainB -/
import Derived.Test.YtfopobdbkbcnnaaGreatDoorPlk
import Derived.Test.YtfopobdbkbcnnaaGreatDoorTie
import Derived.Test.YtfopobdbkbcnnaaGreatDoorCards
import Derived.Lay
import Derived.MakeChecks
import Derived.SevenTiedAt
import Derived.Stop.Joined
namespace Go.Proofs.YtfopobdbkbcnnaaGreatDoor.planeNone
open Go.ChangeShapes Go.WideShapes Go.ChangeAt Go.RowKit
set_option linter.unusedVariables false

theorem own : ownKnob Tryz.prog.godebug = none := by kernel_rfl
theorem laidOut : laidOutB Tryz.prog = true := by kernel_rfl

set_option maxRecDepth 20000 in
set_option maxHeartbeats 8000000 in
theorem walk (e : Cf) (h : CfH) (sp : Option Addr) (bn bc x : Nat) (w : World) (_hc : CfAt w e h) (_hx : x < 18446744073709551616) :
    Calls Tryz.prog 6 #[cfVal e h, .slice sp bn bc, .float .f64 x] w fun e w' => e = .returned (.bool true) ∧ Below w.heap.size w w' := by
  obtain ⟨ver, rs, ps⟩ := e
  obtain ⟨ra, rc, pa, pc⟩ := h
  unfold cfVal
  simp only
  generalize rs.length = n at *
  generalize ps.length = m at *
  have b1 : Below w.heap.size w (w.alloc (.cells #[.int .i64 ver, .slice ra n rc, .slice pa m pc] 28)) := (Below.refl _ _).alloc (Nat.le_refl _) _
  have X1 := heap_new w (.cells #[.int .i64 ver, .slice ra n rc, .slice pa m pc] 28)
  have c0 := fcell0 X1 0 _ rfl
  have c1 := fcell0 X1 1 _ rfl
  have c2 := fcell0 X1 2 _ rfl
  have B1 := hide b1
  have SA := hide (show ∀ W : World, Calls Tryz.prog 14 #[.agg #[.int .i64 0, .slice none 0 0, .slice none 0 0], .agg #[.int .i64 0, .slice none 0 0, .slice none 0 0]] W fun r w' => r = .returned (.bool true) ∧ Below W.heap.size W w' from sameN_calls)
  clear b1 X1
  go_enter Tryz.func6, Tryz.ntmps6
  go_wp2_with (first
    | (go_at_call 16; refine (live10_calls _).mono ?_; rintro r V1 ⟨rfl, v1⟩; have k0 := cell_later v1 c0; have k1 := cell_later v1 c1; have k2 := cell_later v1 c2; have D1 := hide ((unhide B1).trans (v1.mono (unhide B1).size)); clear v1 c0 c1 c2)
    | (go_at_call 10; refine (applyN_calls _ ver ra n rc pa m pc).mono ?_; rintro r V2 ⟨rfl, v2⟩; have D2 := hide ((unhide D1).trans (v2.mono (unhide D1).size)); clear v2)
    | (go_at_call 11; refine (serveN_calls _ sp bn bc x).mono ?_; rintro r V3 ⟨rfl, v3⟩; have D3 := hide ((unhide D2).trans (v3.mono (unhide D2).size)); clear v3)
    | (go_at_call 15; refine (configN_calls _).mono ?_; rintro r V4 ⟨rfl, v4⟩; have D4 := hide ((unhide D3).trans (v4.mono (unhide D3).size)); clear v4)
    | (go_at_call 14; refine (unhide SA _).mono ?_; rintro r V5 ⟨rfl, v5⟩; have D5 := hide ((unhide D4).trans (v5.mono (unhide D4).size)); clear v5)
    | (go_at_call 13; refine (versionN_calls _).mono ?_; rintro r V6 ⟨rfl, hv6⟩; subst hv6))
  go_ret
  exact ⟨rfl, unhide D5⟩

set_option maxRecDepth 100000 in
theorem lifted (os : Os) (started : os.Started) (H : Type) (enc : TypeId × Value → H) :
    ReturnsInHanded {} Tryz.checked os 6 .any (fun w args => (Rows.planeNoneSpec.pre enc Tryz.prog Tryz.f6 Rows.planeNoneRow.domain false w args ∧ laidMetH Tryz.prog Rows.planeNoneRow.laid w) ∧ sizedMet enc Tryz.prog Tryz.f6 (OpenSpec.ofChange Rows.planeNoneSpec) false w args)
      (Rows.planeNoneSpec.post enc Tryz.prog Tryz.f6 false true false false) := by
  refine returnsInHanded_of_change_and (C := Tryz.checked) (X := fun w _ => laidMetH Tryz.prog Rows.planeNoneRow.laid w) (fun _ _ _ hh h => h.of_heap hh) own started (by kernel_rfl) Tryz.func6
    (ChangeSpec.witness_shaped (enc := enc) (C := Tryz.checked) (os := os) (X := fun w _ => laidMetH Tryz.prog Rows.planeNoneRow.laid w) false (World.laidAll Tryz.prog os Rows.planeNoneRow.laid) #[.agg #[.int .i64 0, .slice none 0 0, .slice none 0 0], .slice none 0 0, .float .f64 0] 8 (World.laidAll_os _ _ _)
      (World.shaped_of_ZipB (by kernel_rfl) (by kernel_rfl)) (by kernel_rfl) (by kernel_rfl) (by kernel_rfl)
      (by rw [MakeChecks.laidMetH_plain _ _ _ (by kernel_rfl)]; exact laidMet_laidAll _ (by kernel_rfl) (by kernel_rfl))) ?_
  intro W base args ds gs before hval0 hW hcnd hsz hL _
  have hval : ∀ (j : Nat) t v, Tryz.f6.params[j]? = some t → args[j]? = some v → Value.okWide Tryz.prog W .any base t v := hval0
  have hW' := hW
  obtain ⟨p, q, hA0, hV, rfl, hfz, hnd⟩ := hW
  have hA : DataW.TrodAll enc Tryz.prog W 0 (fun _ => true) true Tryz.f6.params.toList args.toList ds p := hA0
  rw [Tryz.params6] at hA hval
  obtain ⟨v0, vs0, d0, ds0, p0, q0, hargs, rfl, rfl, h0, r0⟩ := trodAll_cons hA
  obtain ⟨v1, vs1, d1, ds1, p1, q1, rfl, rfl, rfl, h1, r1⟩ := trodAll_cons r0
  obtain ⟨v2, vs2, d2, ds2, p2, q2, rfl, rfl, rfl, h2, r2⟩ := trodAll_cons r1
  obtain ⟨rfl, rfl, rfl⟩ := trodAll_nil r2
  obtain rfl : args = #[v0, v1, v2] := by cases args; simp_all
  obtain ⟨rfl, rfl⟩ := trodVars_none hV
  have k0 := h0
  have lt0 : ∀ x ∈ p0, x.block < W.heap.size := by obtain ⟨m, hm⟩ := k0; exact DataW.trod_lt m _ _ _ hm
  obtain ⟨e0, q0, rfl, hb0⟩ := open_conf (hval 0 28 v0 rfl rfl) h0
  obtain ⟨a1, len1, c1, rfl⟩ := okWide_slice Tryz.underlying29 (hval 1 29 v1 rfl rfl)
  have k1 := h1
  have lt1 : ∀ x ∈ p1, x.block < W.heap.size := by obtain ⟨m, hm⟩ := k1; exact DataW.trod_lt m _ _ _ hm
  obtain ⟨n2, rfl, rfl, rfl, w2⟩ := open_float Tryz.underlying30 (hval 2 30 v2 rfl rfl) h2
  have hn2 := f64_lt w2
  clear hA0 hval0
  refine (walk e0 q0 a1 len1 c1 n2 W hb0  hn2).mono fun e W' ⟨he, bel⟩ => ?_
  subst he
  exact ⟨_, rfl, _, _, _, [], _, [], hW', trodAll_mk1 (shut_bool Tryz.underlying4 _), (trodAll_cons_mk (Below.trod laidOut (by kernel_rfl) (of_decide_eq_true (by kernel_rfl)) k0 bel lt0) (trodAll_cons_mk (Below.trod laidOut (by kernel_rfl) (of_decide_eq_true (by kernel_rfl)) k1 bel lt1) (trodAll_cons_mk (shut_float Tryz.underlying30 w2) trodAll_mk0))), rfl, bel.frame _, fun h => by cases h⟩

theorem proved : Rows.PlaneNoneSaid :=
  OpenClaim.holds_of_wide 6 Tryz.f6 rfl rfl rfl rfl rfl rfl rfl ⟨rfl, rfl, rfl, rfl, rfl⟩ rfl rfl rfl rfl rfl (by kernel_rfl) Tryz.func6 (by kernel_rfl)
    (of_decide_eq_true (by kernel_rfl)) (by unfold Func.isWrapper; first | (rw [if_pos (by decide +kernel)]; kernel_rfl) | (rw [if_neg (by decide +kernel)]; exact ⟨rfl, rfl⟩))
    (fun os started H enc _ => lifted os started H enc)
theorem card : Rows.PlaneNoneCardSaid :=
  Claim7.holds_tied_plain_at .later [] [.data, .pinned, .pinned] true (true, "6c6017175fe422c8deb209e74c9dfea7679747bce4674083a1b607777356bcf7") false proved (fun _ h => by cases h) (by kernel_rfl) (fun _ h => by cases h) planeNone_row_tie rfl ⟨rfl, rfl⟩ (by kernel_rfl) rfl
    (fun f fn hf hfn => by
      obtain rfl : f = 6 := Option.some.inj ((show Tryz.prog.funcNamed "tollgate/tollgatelaw10.PlaneNone" = some 6 by kernel_rfl).symm.trans hf) |>.symm
      obtain rfl : fn = Tryz.f6 := (Option.some.inj (Tryz.func6.symm.trans hfn)).symm
      exact ⟨by kernel_rfl, fun j t ht => by
        rw [Tryz.params6] at ht
        have hm : t ∈ [28, 29, 30] := by simpa using Array.mem_of_getElem? ht
        have hall : ([28, 29, 30].all fun u => !Tryz.prog.wantsStandIn u) = true := by kernel_rfl
        exact (show Tryz.prog.wantsStandIn t = false by simpa using List.all_eq_true.1 hall t hm)⟩)
    (by kernel_rfl)
end Go.Proofs.YtfopobdbkbcnnaaGreatDoor.planeNone
namespace Go.Proofs.YtfopobdbkbcnnaaGreatDoor
theorem planeNone_holds : Rows.PlaneNoneCardSaid := planeNone.card
#print axioms planeNone_holds
end Go.Proofs.YtfopobdbkbcnnaaGreatDoor
