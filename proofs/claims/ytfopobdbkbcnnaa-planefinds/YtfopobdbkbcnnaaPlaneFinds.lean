/- Proved: the route that is found is the document's, of a copy of the configuration, which stays as it was; for all configurations (those that are short are looked at), hosts and paths; no condition. -/
import Derived.Test.YtfopobdbkbcnnaaPlg
import Derived.Test.YtfopobdbkbcnnaaPlh
import Derived.Test.YtfopobdbkbcnnaaPlj
namespace Go.Proofs.Ytfopobdbkbcnnaa.planeFinds
open Go.ChangeShapes Go.WideShapes Go.ChangeAt Go.RowKit
set_option linter.unusedVariables false

theorem own : ownKnob Try.prog.godebug = none := by kernel_rfl
theorem laidOut : laidOutB Try.prog = true := by kernel_rfl

theorem findV_form (l : List Rt) (o : Option Nat) : ∃ rh rp rl bb, findV l o = .tuple #[.agg #[.string rh, .string rp, .string rl], .bool bb] := by
  cases o with
  | none => exact ⟨_, _, _, _, rfl⟩
  | some b => exact ⟨_, _, _, _, rfl⟩
set_option maxRecDepth 20000 in
set_option maxHeartbeats 8000000 in
theorem walk (e : Cf) (h : CfH) (ho q : ByteArray) (w : World) (hc : CfAt w e h) (_h1 : ho.size ≤ maxLen) (h2 : q.size ≤ maxLen) :
    Calls Try.prog 3 #[cfVal e h, .string ho, .string q] w fun e w' => e = .returned (.bool true) ∧ Below w.heap.size w w' := by
  have b1 : Below w.heap.size w (w.alloc (.cells #[.int .i64 e.ver, .slice h.ra e.rs.length h.rc, .slice h.pa e.ps.length h.pc] 25)) := (Below.refl _ _).alloc (Nat.le_refl _) _
  have X1 := hide (heap_new w (.cells #[.int .i64 e.ver, .slice h.ra e.rs.length h.rc, .slice h.pa e.ps.length h.pc] 25))
  have SC := hide (short_calls (hc.later b1))
  obtain ⟨rh, rp, rl, bb, hfv⟩ := findV_form e.rs (bestN ho q e.rs e.rs.length)
  have FC := hide (show ∀ (W : World) (h' : CfH), CfAt W e h' → Calls Try.prog 14 #[cfVal e h', .string ho, .string q] W fun r w' => r = .returned (.tuple #[.agg #[.string rh, .string rp, .string rl], .bool bb]) ∧ Below W.heap.size W w' from fun W h' hc' => by rw [← hfv]; exact find_calls hc'.rts e.rs.length h'.rc rfl hc'.rl.1 e.ver h'.pa e.ps.length h'.pc ho q)
  have RC := hide (show ∀ (W : World), CfAt W e h → Calls Try.prog 15 #[cfVal e h, .string ho, .string q] W fun r w' => r = .returned (.tuple #[.agg #[.string rh, .string rp, .string rl], .bool bb]) ∧ Below W.heap.size W w' from fun W hc' => by rw [← hfv]; exact rfind_calls hc'.rts e.rs.length h.rc rfl hc'.rl.1 e.ver h.pa e.ps.length h.pc ho q h2)
  have SA := hide (show ∀ (W : World) (h' : CfH), CfAt W e h' → CfAt W e h → Calls Try.prog 16 #[cfVal e h', cfVal e h] W fun r w' => r = .returned (.bool true) ∧ Below W.heap.size W w' from fun W h' a b => sameC_calls a b)
  have H := hide hc
  have B1 := hide b1
  have CC := hide (fun (hs : shortC e = true) (W : World) (hb : Below w.heap.size w W) => copyC_calls (hc.later hb) hs)
  obtain ⟨ver, rs, ps⟩ := e
  obtain ⟨ra, rc, pa, pc⟩ := h
  unfold cfVal at *
  simp only at *
  simp only [maxLen] at h2
  generalize hn : rs.length = n at *
  generalize hm : ps.length = m at *
  clear hc b1 hn hm hfv
  have c0 := fcell0 (unhide X1) 0 _ rfl
  have c1 := fcell0 (unhide X1) 1 _ rfl
  have c2 := fcell0 (unhide X1) 2 _ rfl
  cases hs : shortC ⟨ver, rs, ps⟩ with
  | false =>
    rw [hs] at SC
    clear CC FC RC SA
    go_enter Try.func3, Try.ntmps3
    go_wp2_with (first
      | (go_at_call 11; refine (unhide SC).mono ?_; rintro r V1 ⟨rfl, v1⟩; have D1 := hide ((unhide B1).trans (v1.mono (unhide B1).size)); clear v1)
      | (go_at_call 12; refine (live10_calls _).mono ?_; rintro r V2 ⟨rfl, v2⟩; have D2 := hide ((unhide D1).trans (v2.mono (unhide D1).size)); clear v2))
    go_ret
    exact ⟨rfl, unhide D2⟩
  | true =>
    rw [hs] at SC
    by_cases hq : q.size ≤ 3000
    · have y0 : ¬ (3000 : Int) < (q.size : Int) := by omega
      have CC := hide (unhide CC hs)
      have hbb : (bb == bb) = true := by simp
      clear hq
      go_enter Try.func3, Try.ntmps3
      go_wp2_with (first
        | (go_at_call 11; refine (unhide SC).mono ?_; rintro r V1 ⟨rfl, v1⟩; have D1 := hide ((unhide B1).trans (v1.mono (unhide B1).size)); have k0 := cell_later v1 c0; have k1 := cell_later v1 c1; have k2 := cell_later v1 c2; clear v1 c0 c1 c2)
        | (go_at_call 13
           refine (unhide CC _ (unhide D1)).mono ?_
           rintro r V2 ⟨⟨ra', rc', pa', pc'⟩, rfl, cf, v2⟩
           have a2 := v2.alloc v2.size (.cells #[.int .i64 ver, .slice ra' n rc', .slice pa' m pc'] 25)
           have l0 := cell_later a2 k0
           have l1 := cell_later a2 k1
           have l2 := cell_later a2 k2
           have Y2 := heap_new V2 (.cells #[.int .i64 ver, .slice ra' n rc', .slice pa' m pc'] 25)
           have x0 := fcell0 Y2 0 _ rfl
           have x1 := fcell0 Y2 1 _ rfl
           have x2 := fcell0 Y2 2 _ rfl
           have CF2 := hide (cf.later ((Below.refl V2.heap.size V2).alloc (Nat.le_refl _) (.cells #[.int .i64 ver, .slice ra' n rc', .slice pa' m pc'] 25)))
           have D2 := hide ((unhide D1).trans (a2.mono (unhide D1).size))
           clear v2 a2 Y2 k0 k1 k2 cf)
        | (go_at_call 14
           refine (unhide FC _ _ (unhide CF2)).mono ?_
           rintro r V3 ⟨rfl, v3⟩
           have a3 := v3.alloc v3.size (.cells #[.string rh, .string rp, .string rl] 30)
           have n0 := cell_later a3 l0
           have n1 := cell_later a3 l1
           have n2 := cell_later a3 l2
           have o0 := cell_later a3 x0
           have o1 := cell_later a3 x1
           have o2 := cell_later a3 x2
           have Y3 := heap_new V3 (.cells #[.string rh, .string rp, .string rl] 30)
           have r0 := fcell0 Y3 0 _ rfl
           have r1 := fcell0 Y3 1 _ rfl
           have r2 := fcell0 Y3 2 _ rfl
           have CF3 := hide ((unhide CF2).later a3)
           have D3 := hide ((unhide D2).trans (a3.mono (unhide D2).size))
           have HC3 := hide ((unhide H).later (unhide D3))
           clear v3 a3 Y3 l0 l1 l2 x0 x1 x2)
        | (go_at_call 15
           refine (unhide RC _ (unhide HC3)).mono ?_
           rintro r V4 ⟨rfl, v4⟩
           have a4 := v4.alloc v4.size (.cells #[.string rh, .string rp, .string rl] 30)
           have Y4 := heap_new V4 (.cells #[.string rh, .string rp, .string rl] 30)
           have pn0 := cell_later a4 n0
           have pn1 := cell_later a4 n1
           have pn2 := cell_later a4 n2
           have po0 := cell_later a4 o0
           have po1 := cell_later a4 o1
           have po2 := cell_later a4 o2
           have pr0 := cell_later a4 r0
           have pr1 := cell_later a4 r1
           have pr2 := cell_later a4 r2
           have ps0 := fcell0 Y4 0 _ rfl
           have ps1 := fcell0 Y4 1 _ rfl
           have ps2 := fcell0 Y4 2 _ rfl
           have CF4 := hide ((unhide CF3).later a4)
           have D4 := hide ((unhide D3).trans (a4.mono (unhide D3).size))
           clear v4 a4 Y4 n0 n1 n2 o0 o1 o2 r0 r1 r2)
        | (go_at_call 12
           refine (live10_calls _).mono ?_
           rintro r V5 ⟨rfl, v5⟩
           have n0 := cell_later v5 pn0
           have n1 := cell_later v5 pn1
           have n2 := cell_later v5 pn2
           have o0 := cell_later v5 po0
           have o1 := cell_later v5 po1
           have o2 := cell_later v5 po2
           have r0 := cell_later v5 pr0
           have r1 := cell_later v5 pr1
           have r2 := cell_later v5 pr2
           have s0 := cell_later v5 ps0
           have s1 := cell_later v5 ps1
           have s2 := cell_later v5 ps2
           have CF5 := hide ((unhide CF4).later v5)
           have D5 := hide ((unhide D4).trans (v5.mono (unhide D4).size))
           have HC5 := hide ((unhide H).later (unhide D5))
           clear v5 pn0 pn1 pn2 po0 po1 po2 pr0 pr1 pr2 ps0 ps1 ps2)
        | (go_at_call 16
           refine (unhide SA _ _ (unhide CF5) (unhide HC5)).mono ?_
           rintro r V6 ⟨rfl, v6⟩
           have D6 := hide ((unhide D5).trans (v6.mono (unhide D5).size))
           clear v6))
      go_ret
      exact ⟨rfl, unhide D6⟩
    · have y0 : (3000 : Int) < (q.size : Int) := by omega
      clear CC FC RC SA
      go_enter Try.func3, Try.ntmps3
      go_wp2_with (first
        | (go_at_call 11; refine (unhide SC).mono ?_; rintro r V1 ⟨rfl, v1⟩; have D1 := hide ((unhide B1).trans (v1.mono (unhide B1).size)); clear v1)
        | (go_at_call 12; refine (live10_calls _).mono ?_; rintro r V2 ⟨rfl, v2⟩; have D2 := hide ((unhide D1).trans (v2.mono (unhide D1).size)); clear v2))
      go_ret
      exact ⟨rfl, unhide D2⟩

set_option maxRecDepth 100000 in
theorem lifted (os : Os) (started : os.Started) (H : Type) (enc : TypeId × Value → H) :
    ReturnsInHanded {} Try.checked os 3 .any (Rows.planeFindsSpec.pre6 enc Try.prog Try.f3 Rows.planeFindsRow.domain false) (Rows.planeFindsSpec.post enc Try.prog Try.f3 false true false false) := by
  refine returnsInHanded_of_change_sized (C := Try.checked) own started (by kernel_rfl) Try.func3
    (ChangeSpec.witness6 (enc := enc) (C := Try.checked) false ⟨#[], #[.agg #[.int .i64 0, .slice none 0 0, .slice none 0 0], .string ⟨#[]⟩, .string ⟨#[]⟩], []⟩ 8 (by kernel_rfl) (by kernel_rfl) (by kernel_rfl) (by kernel_rfl)) ?_
  intro W base args ds gs before hval0 hW hcnd hsz _
  have hval : ∀ (j : Nat) t v, Try.f3.params[j]? = some t → args[j]? = some v → Value.okWide Try.prog W .any base t v := hval0
  have hW' := hW
  obtain ⟨p, q, hA0, hV, rfl, hfz, hnd⟩ := hW
  have hA : DataW.TrodAll enc Try.prog W 0 (fun _ => true) true Try.f3.params.toList args.toList ds p := hA0
  rw [Try.params3] at hA hval
  obtain ⟨v0, vs0, d0, ds0, p0, q0, hargs, rfl, rfl, h0, r0⟩ := trodAll_cons hA
  obtain ⟨v1, vs1, d1, ds1, p1, q1, rfl, rfl, rfl, h1, r1⟩ := trodAll_cons r0
  obtain ⟨v2, vs2, d2, ds2, p2, q2, rfl, rfl, rfl, h2, r2⟩ := trodAll_cons r1
  obtain ⟨rfl, rfl, rfl⟩ := trodAll_nil r2
  obtain rfl : args = #[v0, v1, v2] := by cases args; simp_all
  obtain ⟨rfl, rfl⟩ := trodVars_none hV
  have k0 := h0
  have lt0 : ∀ x ∈ p0, x.block < W.heap.size := by obtain ⟨m, hm⟩ := k0; exact DataW.trod_lt m _ _ _ hm
  obtain ⟨e0, q0, rfl, hb0⟩ := open_conf (hval 0 25 v0 rfl rfl) h0
  obtain ⟨n1, rfl, rfl, rfl, hn1⟩ := ChangeMaps.open_string Try.underlying9 (hval 1 9 v1 rfl rfl) h1
  obtain ⟨n2, rfl, rfl, rfl, hn2⟩ := ChangeMaps.open_string Try.underlying9 (hval 2 9 v2 rfl rfl) h2
  clear hA0 hval0
  refine (walk e0 q0 n1 n2 W hb0 hn1 hn2).mono fun e W' ⟨he, bel⟩ => ?_
  subst he
  exact ⟨_, rfl, _, _, _, [], _, [], hW', trodAll_mk1 (shut_bool Try.underlying4 _), (trodAll_cons_mk (Below.trod laidOut (by kernel_rfl) (of_decide_eq_true (by kernel_rfl)) k0 bel lt0) (trodAll_cons_mk (ChangeMaps.shut_string Try.underlying9 hn1) (trodAll_cons_mk (ChangeMaps.shut_string Try.underlying9 hn2) trodAll_mk0))), rfl, bel.frame _, fun h => by cases h⟩

theorem proved : Rows.PlaneFindsSaid :=
  OpenClaim.holds_of_wide 3 Try.f3 rfl rfl rfl rfl rfl rfl rfl ⟨rfl, rfl, rfl, rfl, rfl⟩ rfl rfl rfl rfl rfl (by kernel_rfl) Try.func3 (by kernel_rfl)
    (of_decide_eq_true (by kernel_rfl)) (by unfold Func.isWrapper; first | (rw [if_pos (by decide +kernel)]; kernel_rfl) | (rw [if_neg (by decide +kernel)]; exact ⟨rfl, rfl⟩))
    (fun os started H enc _ => lifted os started H enc)
end Go.Proofs.Ytfopobdbkbcnnaa.planeFinds
namespace Go.Proofs.Ytfopobdbkbcnnaa
theorem planeFinds_holds : Rows.PlaneFindsSaid := planeFinds.proved
#print axioms planeFinds_holds
end Go.Proofs.Ytfopobdbkbcnnaa
