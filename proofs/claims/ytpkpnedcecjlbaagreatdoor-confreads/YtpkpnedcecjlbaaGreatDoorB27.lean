/- Conf: placeOf, putRoute. -/
import Derived.Test.YtpkpnedcecjlbaaGreatDoorB26
namespace Go.Proofs.YtpkpnedcecjlbaaGreatDoor
open Go.ChangeShapes Go.WideShapes Go.ChangeAt Go.RowKit
set_option linter.unusedVariables false

theorem StAt.lts {w : World} {h : StH} {x : Sm} (s : StAt w h x) : h.S < w.heap.size ∧ h.P < w.heap.size ∧ h.R < w.heap.size ∧ h.C < w.heap.size := ⟨(Array.getElem?_eq_some_iff.1 s.hd).1, s.pm.lt, s.rm.lt, s.cm.lt⟩
theorem placeOf_calls (w : World) (r : Rt) : Calls Tryz.prog 132 #[.agg #[.string r.h, .string r.p, .string r.l]] w fun e w' => e = .returned (.agg #[.string r.h, .string r.p]) ∧ Below w.heap.size w w' := by
  have b1 : Below w.heap.size w (w.alloc (.cells #[.string r.h, .string r.p, .string r.l] 67)) := (Below.refl _ _).alloc (Nat.le_refl _) _
  have b2 := b1.alloc b1.size (.cells #[.string r.h, .string r.p] 98)
  have b3 := b1.alloc b1.size (.cells #[.string ⟨#[]⟩, .string ⟨#[]⟩] 98)
  have s1 : (w.alloc (.cells #[.string r.h, .string r.p, .string r.l] 67)).heap.size = w.heap.size + 1 := by simp
  have X1 := heap_new w (.cells #[.string r.h, .string r.p, .string r.l] 67)
  have X3 := later_block ((Below.refl _ _).alloc (Nat.le_refl _) (.cells #[.string ⟨#[]⟩, .string ⟨#[]⟩] 98) : Below (w.alloc (.cells #[.string r.h, .string r.p, .string r.l] 67)).heap.size (w.alloc (.cells #[.string r.h, .string r.p, .string r.l] 67)) _) X1
  have X2 := (show ((w.alloc (.cells #[.string r.h, .string r.p, .string r.l] 67)).alloc (.cells #[.string r.h, .string r.p] 98)).heap[w.heap.size + 1]? = some (.cells #[.string r.h, .string r.p] 98 (0, 0)) by rw [← s1]; exact heap_new _ _)
  have c0 := fcell0 X3 0 _ rfl
  have c1 := fcell0 X3 1 _ rfl
  have g0 := fcell0 X2 0 _ rfl
  have g1 := fcell0 X2 1 _ rfl
  have B2 := hide b2
  clear b1 b2 b3 s1 X1 X2 X3
  go_enter Tryz.func132, Tryz.ntmps132
  go_wp2
  exact bodyPost_ret (v := .agg #[.string r.h, .string r.p]) (by simp [results, Tryz.results132, go_sem, g0, g1]) rfl ⟨rfl, unhide B2⟩
/-- A route put. -/
def putRS (r : Rt) (x : Sm) : Int × Sm := match lget qnm r.l x.ps with
  | none => (8, x)
  | some _ => match lget rpl (r.h, r.p) x.rs with
    | none => if 64 ≤ x.rs.length then (6, x) else if ((confB x.cf).length : Int) + ((routeB r).length : Int) ≤ 12000 then (0, { x with rs := lput rpl r x.rs }) else (6, x)
    | some o => if ((confB x.cf).length : Int) + (((routeB r).length : Int) - ((routeB o).length : Int)) ≤ 12000 then (0, { x with rs := lput rpl r x.rs }) else (6, x)
/-- addRoute to nothing. -/
theorem addRoute0 (w : World) (r : Rt) (hr : r.h.size ≤ 1000000 ∧ r.p.size ≤ 1000000 ∧ r.l.size ≤ 1000000) :
    Calls Tryz.prog 133 #[.slice none 0 0, .agg #[.string r.h, .string r.p, .string r.l]] w fun e w' => ∃ sp' c', e = .returned (.slice sp' (routeB r).length c') ∧ Below w.heap.size w w' := by
  refine (addRoute_calls w.heap.size r (sp := none) (n0 := 0) (c := 0) (l := []) rfl (OwnB.ofNil _ _) hr (by simp) (Nat.le_refl _)).mono ?_
  rintro e w' ⟨s1, n1, c1, rfl, h1, h2, h3⟩
  have h4 := unhide h1
  rw [List.nil_append] at h4
  exact ⟨s1, c1, by rw [h4], h3.below (OwnB.ofNil _ _) (Nat.le_refl _)⟩
set_option maxRecDepth 20000 in
set_option maxHeartbeats 16000000 in
theorem putRoute_calls {w : World} {h : StH} {x : Sm} (s : StAt w h x) (hx : SmOk x) (rh rp rl : ByteArray) (hr : rh.size ≤ 1000000 ∧ rp.size ≤ 1000000 ∧ rl.size ≤ 1000000) :
    Calls Tryz.prog 104 #[.pointer (some ⟨h.S, 0, none⟩), .agg #[.string rh, .string rp, .string rl]] w fun e w' => e = .returned (.int .i64 (putRS ⟨rh, rp, rl⟩ x).1) ∧ StAt w' h (putRS ⟨rh, rp, rl⟩ x).2 ∧ Chg h w w' := by
  have b1 := hide (show Below w.heap.size w (w.alloc (.cells #[.string rh, .string rp, .string rl] 67)) from (Below.refl _ _).alloc (Nat.le_refl _) _)
  have X1 := hide (heap_new w (.cells #[.string rh, .string rp, .string rl] 67))
  have hrn : x.rs.length ≤ 1000 := by have := hx.t.rn; simpa [Sm.cf] using this
  have SS := hide (show ∀ W : World, Below (w.alloc (.cells #[.string rh, .string rp, .string rl] 67)).heap.size (w.alloc (.cells #[.string rh, .string rp, .string rl] 67)) W → W.cell? ⟨h.S, 1, none⟩ = some (.map (some h.P)) ∧ W.cell? ⟨h.S, 2, none⟩ = some (.map (some h.R)) ∧ W.cell? ⟨w.heap.size, 0, none⟩ = some (.string rh) ∧ W.cell? ⟨w.heap.size, 1, none⟩ = some (.string rp) ∧ W.cell? ⟨w.heap.size, 2, none⟩ = some (.string rl) ∧ (Instr.lookup 82 (.map (some h.P)) (.string rl) true).run Tryz.prog W = .ok (.tuple #[pqV ((lget qnm rl x.ps).getD ⟨⟨⟨#[]⟩, []⟩, none, 0⟩), .bool (lget qnm rl x.ps).isSome]) W ∧ (Instr.lookup 83 (.map (some h.R)) (.agg #[.string rh, .string rp]) true).run Tryz.prog W = .ok (.tuple #[rtVal ((lget rpl (rh, rp) x.rs).getD rt0), .bool (lget rpl (rh, rp) x.rs).isSome]) W ∧ ∀ ty, (Builtin.len_ #[83] ty #[.map (some h.R)]).run Tryz.prog W = .ok (.int .i64 (x.rs.length : Int)) W from fun W hb => by
    have st := s.later ((unhide b1).trans (hb.mono (unhide b1).size))
    have hk := later_block hb (unhide X1)
    exact ⟨st.cell.2.1, st.cell.2.2.1, fcell0 hk 0 _ rfl, fcell0 hk 1 _ rfl, fcell0 hk 2 _ rfl, lookP st rl (by simp only [maxLen]; omega), lookR st (rh, rp) (by simp only [maxLen]; omega), fun ty => by have := st.rm.len mapTR ty; rwa [Sm.fr_length] at this⟩)
  have DR := hide (show putRS ⟨rh, rp, rl⟩ x = (match lget qnm rl x.ps with
    | none => (8, x)
    | some _ => match lget rpl (rh, rp) x.rs with
      | none => if 64 ≤ x.rs.length then (6, x) else if ((confB x.cf).length : Int) + ((routeB ⟨rh, rp, rl⟩).length : Int) ≤ 12000 then (0, { x with rs := lput rpl ⟨rh, rp, rl⟩ x.rs }) else (6, x)
      | some o => if ((confB x.cf).length : Int) + (((routeB ⟨rh, rp, rl⟩).length : Int) - ((routeB o).length : Int)) ≤ 12000 then (0, { x with rs := lput rpl ⟨rh, rp, rl⟩ x.rs }) else (6, x)) from rfl)
  have hlp := routeB_len ⟨rh, rp, rl⟩ hr
  have GO := hide (show ∀ o, lget rpl (rh, rp) x.rs = some o → o.h.size ≤ 1000000 ∧ o.p.size ≤ 1000000 ∧ o.l.size ≤ 1000000 from fun o ho => hx.t.rs o (by simp only [Sm.cf]; exact (lget_mem _ _ _ _ ho).1))
  go_enter Tryz.func104, Tryz.ntmps104
  go_wp2_with fail
  generalize hB : w.heap.size = B at *
  generalize w.alloc (.cells #[.string rh, .string rp, .string rl] 67) = V at *
  have BV := hide (show B < V.heap.size from (Array.getElem?_eq_some_iff.1 (unhide X1)).1)
  generalize hq : ((lget qnm rl x.ps).getD ⟨⟨⟨#[]⟩, []⟩, none, 0⟩) = q at *
  generalize hi : (lget qnm rl x.ps).isSome = ii at *
  have HI := hide hi
  generalize hq2 : ((lget rpl (rh, rp) x.rs).getD rt0) = q2 at *
  generalize hi2 : (lget rpl (rh, rp) x.rs).isSome = jj at *
  have HJ := hide hi2
  have HQ := hide hq2
  have F := hide (show Below V.heap.size V V.drew from (Below.refl _ _).drew)
  clear hi hq hi2 hq2
  obtain ⟨⟨qn, qt⟩, qa, qc⟩ := q
  obtain ⟨oh, op, ol⟩ := q2
  simp only [pqV, rtVal] at SS
  refine wp_region_held_drew (S := fun w' => w'.cell? ⟨h.S, 1, none⟩ = some (.map (some h.P)) ∧ w'.cell? ⟨B, 2, none⟩ = some (.string rl) ∧ (Instr.lookup 82 (.map (some h.P)) (.string rl) true).run Tryz.prog w' = .ok (.tuple #[.agg #[.string qn, .slice qa qt.length qc], .bool ii]) w') (by kernel_rfl) ?_ (fun hHeld => ?_)
  · try dsimp only
    exact ⟨(unhide SS _ (unhide F)).1, (unhide SS _ (unhide F)).2.2.2.2.1, (unhide SS _ (unhide F)).2.2.2.2.2.1⟩
  refine hT 0 ?_
  refine hT 1 ?_
  refine hT 2 ?_
  refine hT 3 ?_
  refine hT 4 ?_
  refine hT 5 ?_
  refine hT 6 ?_
  refine hT 7 ?_
  refine hT 8 ?_
  refine hT 9 ?_
  refine wpAnyH_ready (rs := [10]) (by kernel_rfl) (by simp) ?_
  refine AllReadyH.cons rfl (fun K hK => ?_) ?_
  · refine step_zP rfl rfl ?_
    intro E U hE hEn hb
    have LE := hide (show V.heap.size ≤ E by rw [← hE]; exact (unhide F).size)
    have HE := hide hEn
    have F := hide ((unhide F).trans (hb.mono (unhide F).size))
    clear hE hEn hb
    refine hK.out _ _ ?_ (fun hHeld => ?_)
    · try dsimp only
      exact ⟨(unhide SS _ (unhide F)).1, (unhide SS _ (unhide F)).2.2.2.2.1, (unhide SS _ (unhide F)).2.2.2.2.2.1⟩
    clear hK K
    refine hP ?_
    refine wpAnyH_ready (rs := [11]) (by kernel_rfl) (by simp) ?_
    refine AllReadyH.cons rfl (fun K hK => ?_) ?_
    · have z0 := fcell0 (unhide HE) 0 _ rfl
      have z1 := fcell0 (unhide HE) 1 _ rfl
      have f0 : U.frozen? ⟨E, 0, none⟩ = false := by simp [World.frozen?, unhide HE]
      have f1 : U.frozen? ⟨E, 1, none⟩ = false := by simp [World.frozen?, unhide HE]
      have a1 := set2 (x := .string qn) (y := .slice qa qt.length qc) (unhide HE)
      have F := hide ((unhide F).grown a1.2 (unhide F).size (fun g e => by have := Option.some.inj e; have := unhide LE; omega))
      clear a1
      go_simp
      clear z0 z1 f0 f1
      refine hK.out _ _ ?_ (fun hHeld => ?_)
      · try dsimp only
        exact ⟨(unhide SS _ (unhide F)).1, (unhide SS _ (unhide F)).2.2.2.2.1, (unhide SS _ (unhide F)).2.2.2.2.2.1⟩
      clear hK K
      refine hP ?_
      refine hT 12 ?_
      refine wpAnyH_done (by kernel_rfl) ?_ _
      generalize ((U.setCell ⟨E, 0, none⟩ (.string qn)).setCell ⟨E, 1, none⟩ (.slice qa qt.length qc)) = U2 at *
      clear hHeld HE LE
      have b2 := hide (show Below w.heap.size w U2 by rw [hB]; exact (unhide b1).trans ((unhide F).mono (by have := (unhide b1).size; omega)))
      cases ii with
      | false => as_aux_lemma =>
        have hg : lget qnm rl x.ps = none := by
          have h1 := unhide HI
          cases hg : lget qnm rl x.ps with
          | none => rfl
          | some v => rw [hg] at h1; cases h1
        have hd : putRS ⟨rh, rp, rl⟩ x = (8, x) := by rw [unhide DR, hg]
        have ch := hide (Chg.below (h := h) (unhide b2))
        have st3 := hide (s.later (unhide b2))
        clear DR
        go_wp2
        go_ret
        rw [hd]
        exact ⟨rfl, unhide st3, unhide ch⟩
      | true => as_aux_lemma =>
        have LP := hide (show ∃ v, lget qnm rl x.ps = some v by
          have h1 := unhide HI
          cases hg : lget qnm rl x.ps with
          | none => rw [hg] at h1; cases h1
          | some v => exact ⟨v, rfl⟩)
        obtain ⟨pv, hpv⟩ := unhide LP
        have LP := hide hpv
        clear hpv
        go_wp2_with fail
        have F2 := hide (unhide F)
        have F := hide ((unhide F2).drew)
        refine wp_region_held_drew (S := fun w' => w'.cell? ⟨h.S, 2, none⟩ = some (.map (some h.R)) ∧ w'.cell? ⟨B, 0, none⟩ = some (.string rh) ∧ w'.cell? ⟨B, 1, none⟩ = some (.string rp) ∧ w'.cell? ⟨B, 2, none⟩ = some (.string rl) ∧ (Instr.lookup 83 (.map (some h.R)) (.agg #[.string rh, .string rp]) true).run Tryz.prog w' = .ok (.tuple #[.agg #[.string oh, .string op, .string ol], .bool jj]) w') (by kernel_rfl) ?_ (fun hHeld => ?_)
        · try dsimp only
          exact ⟨(unhide SS _ (unhide F)).2.1, (unhide SS _ (unhide F)).2.2.1, (unhide SS _ (unhide F)).2.2.2.1, (unhide SS _ (unhide F)).2.2.2.2.1, (unhide SS _ (unhide F)).2.2.2.2.2.2.1⟩
        refine hT 0 ?_
        refine hT 1 ?_
        refine hT 2 ?_
        refine hT 3 ?_
        refine hT 4 ?_
        refine wpAnyH_ready (rs := [5, 10]) (by kernel_rfl) (by simp) ?_
        refine AllReadyH.cons rfl (fun K hK => ?_) ?_
        · go_simp
          go_at_call 132
          refine (placeOf_calls _ ⟨rh, rp, rl⟩).mono ?_
          rintro e U6 ⟨rfl, hb⟩
          have F := hide ((unhide F).trans (hb.mono (unhide F).size))
          first
            | (have hV : HE = HE := rfl
               clear hV
               have HE := hide (later_block hb (unhide HE)))
            | skip
          clear hb
          go_wp2_with fail
          refine hK.out _ _ ?_ (fun hHeld => ?_)
          · try dsimp only
            exact ⟨(unhide SS _ (unhide F)).2.1, (unhide SS _ (unhide F)).2.2.1, (unhide SS _ (unhide F)).2.2.2.1, (unhide SS _ (unhide F)).2.2.2.2.1, (unhide SS _ (unhide F)).2.2.2.2.2.2.1⟩
          clear hK K
          refine hP ?_
          refine hT 6 ?_
          refine hT 7 ?_
          refine hT 8 ?_
          refine hT 9 ?_
          refine wpAnyH_ready (rs := [10]) (by kernel_rfl) (by simp) ?_
          refine AllReadyH.cons rfl (fun K hK => ?_) ?_
          · refine step_zR rfl rfl ?_
            intro E2 U6 hE hEn hb
            have LE := hide (show V.heap.size ≤ E2 by rw [← hE]; exact (unhide F).size)
            have HE := hide hEn
            have F := hide ((unhide F).trans (hb.mono (unhide F).size))
            clear hE hEn hb
            refine hK.out _ _ ?_ (fun hHeld => ?_)
            · try dsimp only
              exact ⟨(unhide SS _ (unhide F)).2.1, (unhide SS _ (unhide F)).2.2.1, (unhide SS _ (unhide F)).2.2.2.1, (unhide SS _ (unhide F)).2.2.2.2.1, (unhide SS _ (unhide F)).2.2.2.2.2.2.1⟩
            clear hK K
            refine hP ?_
            refine wpAnyH_ready (rs := [11]) (by kernel_rfl) (by simp) ?_
            refine AllReadyH.cons rfl (fun K hK => ?_) ?_
            · have z0 := fcell0 (unhide HE) 0 _ rfl
              have z1 := fcell0 (unhide HE) 1 _ rfl
              have z2 := fcell0 (unhide HE) 2 _ rfl
              have f0 : U6.frozen? ⟨E2, 0, none⟩ = false := by simp [World.frozen?, unhide HE]
              have f1 : U6.frozen? ⟨E2, 1, none⟩ = false := by simp [World.frozen?, unhide HE]
              have f2 : U6.frozen? ⟨E2, 2, none⟩ = false := by simp [World.frozen?, unhide HE]
              have a1 := set3 (x := .string oh) (y := .string op) (z := .string ol) (unhide HE)
              have HE2 := hide a1.1
              have F := hide ((unhide F).grown a1.2 (unhide F).size (fun g e => by have := Option.some.inj e; have := unhide LE; omega))
              clear a1
              go_simp
              clear z0 z1 z2 f0 f1 f2
              refine hK.out _ _ ?_ (fun hHeld => ?_)
              · try dsimp only
                exact ⟨(unhide SS _ (unhide F)).2.1, (unhide SS _ (unhide F)).2.2.1, (unhide SS _ (unhide F)).2.2.2.1, (unhide SS _ (unhide F)).2.2.2.2.1, (unhide SS _ (unhide F)).2.2.2.2.2.2.1⟩
              clear hK K
              refine hP ?_
              refine hT 12 ?_
              refine wpAnyH_done (by kernel_rfl) ?_ _
              as_aux_lemma =>
              generalize (((U6.setCell ⟨E2, 0, none⟩ (.string oh)).setCell ⟨E2, 1, none⟩ (.string op)).setCell ⟨E2, 2, none⟩ (.string ol)) = U7 at *
              clear hHeld HE LE F2 b2
              have b2 := hide (show Below w.heap.size w U7 by rw [hB]; exact (unhide b1).trans ((unhide F).mono (by have := (unhide b1).size; omega)))
              have k0 := (unhide SS _ (unhide F)).2.2.1
              have k1 := (unhide SS _ (unhide F)).2.2.2.1
              have k2 := (unhide SS _ (unhide F)).2.2.2.2.1
              have A1 := hide (addRoute0 U7 ⟨rh, rp, rl⟩ hr)
              go_wp2_with fail
              refine (unhide A1).mono ?_
              rintro e U3 ⟨s3, c3, rfl, hb3⟩
              have F3 := hide ((unhide F).trans (hb3.mono (unhide F).size))
              have b3 := hide ((unhide b2).trans (hb3.mono (unhide b2).size))
              have HE3 := hide (later_block hb3 (unhide HE2))
              clear hb3 A1 k0 k1 k2 F b2 HE2
              have m1 := (unhide SS _ (unhide F3)).2.1
              have m2 := (unhide SS _ (unhide F3)).2.2.2.2.2.2.2
              generalize hlv : (routeB ⟨rh, rp, rl⟩).length = lv at *
              cases jj with
              | false => as_aux_lemma =>
                have hg : lget rpl (rh, rp) x.rs = none := by
                  have h1 := unhide HJ
                  cases hg : lget rpl (rh, rp) x.rs with
                  | none => rfl
                  | some v => rw [hg] at h1; cases h1
                by_cases h32 : 64 ≤ x.rs.length
                · as_aux_lemma =>
                  have hd : putRS ⟨rh, rp, rl⟩ x = (6, x) := by rw [unhide DR, unhide LP, hg]; simp only [if_pos h32]
                  have hc : (64 : Int) ≤ (x.rs.length : Int) := by omega
                  have ch := hide (Chg.below (h := h) (unhide b3))
                  have st3 := hide (s.later (unhide b3))
                  clear DR
                  go_wp2
                  go_ret
                  rw [hd]
                  exact ⟨rfl, unhide st3, unhide ch⟩
                · as_aux_lemma =>
                  have hc : ¬ (64 : Int) ≤ (x.rs.length : Int) := by omega
                  have b4 := hide (unhide b3)
                  have F4 := hide (unhide F3)
                  have MG := hide (mayGrow_calls (s.later (unhide b3)) hx (lv : Int) (by omega))
                  clear b3 F3
                  go_wp2_with fail
                  refine (unhide MG).mono ?_
                  rintro e U5 ⟨rfl, hb5⟩
                  clear MG m1 m2 hc
                  cases hmg : decide (((confB x.cf).length : Int) + (lv : Int) ≤ 12000) with
                  | false =>
                    have hm2 : ¬ (((confB x.cf).length : Int) + (lv : Int) ≤ 12000) := of_decide_eq_false hmg
                    have hd : putRS ⟨rh, rp, rl⟩ x = (6, x) := by
                      rw [unhide DR, unhide LP, hg]
                      simp only [if_neg h32, if_neg hm2]
                    have ch := hide (Chg.below (h := h) ((unhide b4).trans (hb5.mono (unhide b4).size)))
                    have st5 := hide (s.later ((unhide b4).trans (hb5.mono (unhide b4).size)))
                    clear DR hb5 hmg hm2
                    go_wp2
                    go_ret
                    rw [hd]
                    exact ⟨rfl, unhide st5, unhide ch⟩
                  | true =>
                    have hm2 : (((confB x.cf).length : Int) + (lv : Int) ≤ 12000) := of_decide_eq_true hmg
                    have hd : putRS ⟨rh, rp, rl⟩ x = (0, { x with rs := lput rpl ⟨rh, rp, rl⟩ x.rs }) := by
                      rw [unhide DR, unhide LP, hg]
                      simp only [if_neg h32, if_pos hm2]
                    have b5 := hide ((unhide b4).trans (hb5.mono (unhide b4).size))
                    have F := hide (((unhide F4).trans (hb5.mono (unhide F4).size)).trans ((Below.refl _ _).drew.mono (show V.heap.size ≤ U5.heap.size by have := (unhide F4).size; have := hb5.size; omega)))
                    have G := hide (show Below U5.heap.size U5 U5.drew from (Below.refl _ _).drew)
                    have SB := hide (show ∀ W : World, Below V.heap.size V W → W.cell? ⟨h.S, 2, none⟩ = some (.map (some h.R)) ∧ W.cell? ⟨B, 0, none⟩ = some (.string rh) ∧ W.cell? ⟨B, 1, none⟩ = some (.string rp) ∧ W.cell? ⟨B, 2, none⟩ = some (.string rl) from fun W hb => ⟨(unhide SS W hb).2.1, (unhide SS W hb).2.2.1, (unhide SS W hb).2.2.2.1, (unhide SS W hb).2.2.2.2.1⟩)
                    clear DR hb5 hmg hm2
                    go_wp2_with fail
                    refine wp_region_held_drew (S := fun w' => w'.cell? ⟨h.S, 2, none⟩ = some (.map (some h.R)) ∧ w'.cell? ⟨B, 0, none⟩ = some (.string rh) ∧ w'.cell? ⟨B, 1, none⟩ = some (.string rp) ∧ w'.cell? ⟨B, 2, none⟩ = some (.string rl)) (by kernel_rfl) ?_ (fun hHeld => ?_)
                    · try dsimp only
                      first | exact unhide KC | exact unhide SB _ (unhide F)
                    refine hT 0 ?_
                    refine hT 1 ?_
                    refine hT 2 ?_
                    refine hT 3 ?_
                    refine hT 4 ?_
                    refine hT 6 ?_
                    refine wpAnyH_ready (rs := [5]) (by kernel_rfl) (by simp) ?_
                    refine AllReadyH.cons rfl (fun K hK => ?_) ?_
                    · go_simp
                      go_at_call 132
                      refine (placeOf_calls _ ⟨rh, rp, rl⟩).mono ?_
                      rintro e U6 ⟨rfl, hb⟩
                      have F := hide ((unhide F).trans (hb.mono (unhide F).size))
                      have G := hide ((unhide G).trans (hb.mono (unhide G).size))
                      clear hb
                      go_wp2_with fail
                      refine hK.out _ _ ?_ (fun hHeld => ?_)
                      · try dsimp only
                        first | exact unhide KC | exact unhide SB _ (unhide F)
                      clear hK K
                      refine hP ?_
                      refine wpAnyH_ready (rs := [7]) (by kernel_rfl) (by simp) ?_
                      refine AllReadyH.cons rfl (fun K hK => ?_) ?_
                      · have b6 := hide ((unhide b5).trans ((unhide G).mono (unhide b5).size))
                        obtain ⟨W3, hput, sd, cd⟩ := (s.later (unhide b6)).putR ⟨rh, rp, rl⟩ (by simp only [maxLen]; omega) hrn
                        simp only at hput
                        have KC := hide (show W3.cell? ⟨h.S, 2, none⟩ = some (.map (some h.R)) ∧ W3.cell? ⟨B, 0, none⟩ = some (.string rh) ∧ W3.cell? ⟨B, 1, none⟩ = some (.string rp) ∧ W3.cell? ⟨B, 2, none⟩ = some (.string rl) by
                          obtain ⟨t1, t2, t3, t4⟩ := s.lts
                          obtain ⟨q1, q2, q3, q4⟩ := unhide SB _ (unhide F)
                          have hk : W3.heap[B]? = U6.heap[B]? := cd.block B (by have := (unhide F).size; have := unhide BV; omega) (by omega) (by omega) (by omega) (by omega)
                          exact ⟨sd.cell.2.2.1, (World.cell?_of_block hk).trans q2, (World.cell?_of_block hk).trans q3, (World.cell?_of_block hk).trans q4⟩)
                        have SD := hide sd
                        have CD := hide ((Chg.below (h := h) (unhide b6)).trans cd)
                        clear sd cd
                        go_simp
                        clear hput
                        refine hK.out _ _ ?_ (fun hHeld => ?_)
                        · try dsimp only
                          first | exact unhide KC | exact unhide SB _ (unhide F)
                        clear hK K
                        refine hP ?_
                        refine wpAnyH_done (by kernel_rfl) ?_ _
                        go_wp2
                        go_ret
                        first
                          | rw [hd]
                          | skip
                        exact ⟨rfl, unhide SD, unhide CD⟩
                      exact AllReadyH.nil
                    exact AllReadyH.nil
              | true => as_aux_lemma =>
                have hg : lget rpl (rh, rp) x.rs = some ⟨oh, op, ol⟩ := by
                  have h1 := unhide HJ
                  have h2 := unhide HQ
                  cases hg : lget rpl (rh, rp) x.rs with
                  | none => rw [hg] at h1; cases h1
                  | some v => rw [hg] at h2; exact congrArg some h2
                have g1 := unhide GO _ hg
                simp only at g1
                have hlq := routeB_len ⟨oh, op, ol⟩ g1
                have e0 := fcell0 (unhide HE3) 0 _ rfl
                have e1 := fcell0 (unhide HE3) 1 _ rfl
                have e2 := fcell0 (unhide HE3) 2 _ rfl
                have A2 := hide (addRoute0 U3 ⟨oh, op, ol⟩ g1)
                go_wp2_with fail
                refine (unhide A2).mono ?_
                rintro e U4 ⟨s4, c4, rfl, hb4⟩
                have b4 := hide ((unhide b3).trans (hb4.mono (unhide b3).size))
                have F4 := hide ((unhide F3).trans (hb4.mono (unhide F3).size))
                clear b3 F3 hb4 A2 e0 e1 e2 m1 m2
                generalize hlw : (routeB ⟨oh, op, ol⟩).length = lw at *
                have MG := hide (mayGrow_calls (s.later (unhide b4)) hx ((lv : Int) - (lw : Int)) (by omega))
                go_wp2_with fail
                refine (unhide MG).mono ?_
                rintro e U5 ⟨rfl, hb5⟩
                clear MG
                cases hmg : decide (((confB x.cf).length : Int) + ((lv : Int) - (lw : Int)) ≤ 12000) with
                | false =>
                  have hm2 : ¬ (((confB x.cf).length : Int) + ((lv : Int) - (lw : Int)) ≤ 12000) := of_decide_eq_false hmg
                  have hd : putRS ⟨rh, rp, rl⟩ x = (6, x) := by
                    rw [unhide DR, unhide LP, hg]
                    simp only [hlw, if_neg hm2]
                  have ch := hide (Chg.below (h := h) ((unhide b4).trans (hb5.mono (unhide b4).size)))
                  have st5 := hide (s.later ((unhide b4).trans (hb5.mono (unhide b4).size)))
                  clear DR hb5 hmg hm2
                  go_wp2
                  go_ret
                  rw [hd]
                  exact ⟨rfl, unhide st5, unhide ch⟩
                | true =>
                  have hm2 : (((confB x.cf).length : Int) + ((lv : Int) - (lw : Int)) ≤ 12000) := of_decide_eq_true hmg
                  have hd : putRS ⟨rh, rp, rl⟩ x = (0, { x with rs := lput rpl ⟨rh, rp, rl⟩ x.rs }) := by
                    rw [unhide DR, unhide LP, hg]
                    simp only [hlw, if_pos hm2]
                  have b5 := hide ((unhide b4).trans (hb5.mono (unhide b4).size))
                  have F := hide (((unhide F4).trans (hb5.mono (unhide F4).size)).trans ((Below.refl _ _).drew.mono (show V.heap.size ≤ U5.heap.size by have := (unhide F4).size; have := hb5.size; omega)))
                  have G := hide (show Below U5.heap.size U5 U5.drew from (Below.refl _ _).drew)
                  have SB := hide (show ∀ W : World, Below V.heap.size V W → W.cell? ⟨h.S, 2, none⟩ = some (.map (some h.R)) ∧ W.cell? ⟨B, 0, none⟩ = some (.string rh) ∧ W.cell? ⟨B, 1, none⟩ = some (.string rp) ∧ W.cell? ⟨B, 2, none⟩ = some (.string rl) from fun W hb => ⟨(unhide SS W hb).2.1, (unhide SS W hb).2.2.1, (unhide SS W hb).2.2.2.1, (unhide SS W hb).2.2.2.2.1⟩)
                  clear DR hb5 hmg hm2
                  go_wp2_with fail
                  refine wp_region_held_drew (S := fun w' => w'.cell? ⟨h.S, 2, none⟩ = some (.map (some h.R)) ∧ w'.cell? ⟨B, 0, none⟩ = some (.string rh) ∧ w'.cell? ⟨B, 1, none⟩ = some (.string rp) ∧ w'.cell? ⟨B, 2, none⟩ = some (.string rl)) (by kernel_rfl) ?_ (fun hHeld => ?_)
                  · try dsimp only
                    first | exact unhide KC | exact unhide SB _ (unhide F)
                  refine hT 0 ?_
                  refine hT 1 ?_
                  refine hT 2 ?_
                  refine hT 3 ?_
                  refine hT 4 ?_
                  refine hT 6 ?_
                  refine wpAnyH_ready (rs := [5]) (by kernel_rfl) (by simp) ?_
                  refine AllReadyH.cons rfl (fun K hK => ?_) ?_
                  · go_simp
                    go_at_call 132
                    refine (placeOf_calls _ ⟨rh, rp, rl⟩).mono ?_
                    rintro e U6 ⟨rfl, hb⟩
                    have F := hide ((unhide F).trans (hb.mono (unhide F).size))
                    have G := hide ((unhide G).trans (hb.mono (unhide G).size))
                    clear hb
                    go_wp2_with fail
                    refine hK.out _ _ ?_ (fun hHeld => ?_)
                    · try dsimp only
                      first | exact unhide KC | exact unhide SB _ (unhide F)
                    clear hK K
                    refine hP ?_
                    refine wpAnyH_ready (rs := [7]) (by kernel_rfl) (by simp) ?_
                    refine AllReadyH.cons rfl (fun K hK => ?_) ?_
                    · have b6 := hide ((unhide b5).trans ((unhide G).mono (unhide b5).size))
                      obtain ⟨W3, hput, sd, cd⟩ := (s.later (unhide b6)).putR ⟨rh, rp, rl⟩ (by simp only [maxLen]; omega) hrn
                      simp only at hput
                      have KC := hide (show W3.cell? ⟨h.S, 2, none⟩ = some (.map (some h.R)) ∧ W3.cell? ⟨B, 0, none⟩ = some (.string rh) ∧ W3.cell? ⟨B, 1, none⟩ = some (.string rp) ∧ W3.cell? ⟨B, 2, none⟩ = some (.string rl) by
                        obtain ⟨t1, t2, t3, t4⟩ := s.lts
                        obtain ⟨q1, q2, q3, q4⟩ := unhide SB _ (unhide F)
                        have hk : W3.heap[B]? = U6.heap[B]? := cd.block B (by have := (unhide F).size; have := unhide BV; omega) (by omega) (by omega) (by omega) (by omega)
                        exact ⟨sd.cell.2.2.1, (World.cell?_of_block hk).trans q2, (World.cell?_of_block hk).trans q3, (World.cell?_of_block hk).trans q4⟩)
                      have SD := hide sd
                      have CD := hide ((Chg.below (h := h) (unhide b6)).trans cd)
                      clear sd cd
                      go_simp
                      clear hput
                      refine hK.out _ _ ?_ (fun hHeld => ?_)
                      · try dsimp only
                        first | exact unhide KC | exact unhide SB _ (unhide F)
                      clear hK K
                      refine hP ?_
                      refine wpAnyH_done (by kernel_rfl) ?_ _
                      go_wp2
                      go_ret
                      first
                        | rw [hd]
                        | skip
                      exact ⟨rfl, unhide SD, unhide CD⟩
                    exact AllReadyH.nil
                  exact AllReadyH.nil
            exact AllReadyH.nil
          exact AllReadyH.nil
        refine AllReadyH.cons rfl (fun K hK => ?_) ?_
        · refine step_zR rfl rfl ?_
          intro E2 U6 hE hEn hb
          have LE := hide (show V.heap.size ≤ E2 by rw [← hE]; exact (unhide F).size)
          have HE := hide hEn
          have F := hide ((unhide F).trans (hb.mono (unhide F).size))
          clear hE hEn hb
          refine hK.out _ _ ?_ (fun hHeld => ?_)
          · try dsimp only
            exact ⟨(unhide SS _ (unhide F)).2.1, (unhide SS _ (unhide F)).2.2.1, (unhide SS _ (unhide F)).2.2.2.1, (unhide SS _ (unhide F)).2.2.2.2.1, (unhide SS _ (unhide F)).2.2.2.2.2.2.1⟩
          clear hK K
          refine hP ?_
          refine wpAnyH_ready (rs := [5]) (by kernel_rfl) (by simp) ?_
          refine AllReadyH.cons rfl (fun K hK => ?_) ?_
          · go_simp
            go_at_call 132
            refine (placeOf_calls _ ⟨rh, rp, rl⟩).mono ?_
            rintro e U6 ⟨rfl, hb⟩
            have F := hide ((unhide F).trans (hb.mono (unhide F).size))
            first
              | (have hV : HE = HE := rfl
                 clear hV
                 have HE := hide (later_block hb (unhide HE)))
              | skip
            clear hb
            go_wp2_with fail
            refine hK.out _ _ ?_ (fun hHeld => ?_)
            · try dsimp only
              exact ⟨(unhide SS _ (unhide F)).2.1, (unhide SS _ (unhide F)).2.2.1, (unhide SS _ (unhide F)).2.2.2.1, (unhide SS _ (unhide F)).2.2.2.2.1, (unhide SS _ (unhide F)).2.2.2.2.2.2.1⟩
            clear hK K
            refine hP ?_
            refine hT 6 ?_
            refine hT 7 ?_
            refine hT 8 ?_
            refine hT 9 ?_
            refine wpAnyH_ready (rs := [11]) (by kernel_rfl) (by simp) ?_
            refine AllReadyH.cons rfl (fun K hK => ?_) ?_
            · have z0 := fcell0 (unhide HE) 0 _ rfl
              have z1 := fcell0 (unhide HE) 1 _ rfl
              have z2 := fcell0 (unhide HE) 2 _ rfl
              have f0 : U6.frozen? ⟨E2, 0, none⟩ = false := by simp [World.frozen?, unhide HE]
              have f1 : U6.frozen? ⟨E2, 1, none⟩ = false := by simp [World.frozen?, unhide HE]
              have f2 : U6.frozen? ⟨E2, 2, none⟩ = false := by simp [World.frozen?, unhide HE]
              have a1 := set3 (x := .string oh) (y := .string op) (z := .string ol) (unhide HE)
              have HE2 := hide a1.1
              have F := hide ((unhide F).grown a1.2 (unhide F).size (fun g e => by have := Option.some.inj e; have := unhide LE; omega))
              clear a1
              go_simp
              clear z0 z1 z2 f0 f1 f2
              refine hK.out _ _ ?_ (fun hHeld => ?_)
              · try dsimp only
                exact ⟨(unhide SS _ (unhide F)).2.1, (unhide SS _ (unhide F)).2.2.1, (unhide SS _ (unhide F)).2.2.2.1, (unhide SS _ (unhide F)).2.2.2.2.1, (unhide SS _ (unhide F)).2.2.2.2.2.2.1⟩
              clear hK K
              refine hP ?_
              refine hT 12 ?_
              refine wpAnyH_done (by kernel_rfl) ?_ _
              as_aux_lemma =>
              generalize (((U6.setCell ⟨E2, 0, none⟩ (.string oh)).setCell ⟨E2, 1, none⟩ (.string op)).setCell ⟨E2, 2, none⟩ (.string ol)) = U7 at *
              clear hHeld HE LE F2 b2
              have b2 := hide (show Below w.heap.size w U7 by rw [hB]; exact (unhide b1).trans ((unhide F).mono (by have := (unhide b1).size; omega)))
              have k0 := (unhide SS _ (unhide F)).2.2.1
              have k1 := (unhide SS _ (unhide F)).2.2.2.1
              have k2 := (unhide SS _ (unhide F)).2.2.2.2.1
              have A1 := hide (addRoute0 U7 ⟨rh, rp, rl⟩ hr)
              go_wp2_with fail
              refine (unhide A1).mono ?_
              rintro e U3 ⟨s3, c3, rfl, hb3⟩
              have F3 := hide ((unhide F).trans (hb3.mono (unhide F).size))
              have b3 := hide ((unhide b2).trans (hb3.mono (unhide b2).size))
              have HE3 := hide (later_block hb3 (unhide HE2))
              clear hb3 A1 k0 k1 k2 F b2 HE2
              have m1 := (unhide SS _ (unhide F3)).2.1
              have m2 := (unhide SS _ (unhide F3)).2.2.2.2.2.2.2
              generalize hlv : (routeB ⟨rh, rp, rl⟩).length = lv at *
              cases jj with
              | false => as_aux_lemma =>
                have hg : lget rpl (rh, rp) x.rs = none := by
                  have h1 := unhide HJ
                  cases hg : lget rpl (rh, rp) x.rs with
                  | none => rfl
                  | some v => rw [hg] at h1; cases h1
                by_cases h32 : 64 ≤ x.rs.length
                · as_aux_lemma =>
                  have hd : putRS ⟨rh, rp, rl⟩ x = (6, x) := by rw [unhide DR, unhide LP, hg]; simp only [if_pos h32]
                  have hc : (64 : Int) ≤ (x.rs.length : Int) := by omega
                  have ch := hide (Chg.below (h := h) (unhide b3))
                  have st3 := hide (s.later (unhide b3))
                  clear DR
                  go_wp2
                  go_ret
                  rw [hd]
                  exact ⟨rfl, unhide st3, unhide ch⟩
                · as_aux_lemma =>
                  have hc : ¬ (64 : Int) ≤ (x.rs.length : Int) := by omega
                  have b4 := hide (unhide b3)
                  have F4 := hide (unhide F3)
                  have MG := hide (mayGrow_calls (s.later (unhide b3)) hx (lv : Int) (by omega))
                  clear b3 F3
                  go_wp2_with fail
                  refine (unhide MG).mono ?_
                  rintro e U5 ⟨rfl, hb5⟩
                  clear MG m1 m2 hc
                  cases hmg : decide (((confB x.cf).length : Int) + (lv : Int) ≤ 12000) with
                  | false =>
                    have hm2 : ¬ (((confB x.cf).length : Int) + (lv : Int) ≤ 12000) := of_decide_eq_false hmg
                    have hd : putRS ⟨rh, rp, rl⟩ x = (6, x) := by
                      rw [unhide DR, unhide LP, hg]
                      simp only [if_neg h32, if_neg hm2]
                    have ch := hide (Chg.below (h := h) ((unhide b4).trans (hb5.mono (unhide b4).size)))
                    have st5 := hide (s.later ((unhide b4).trans (hb5.mono (unhide b4).size)))
                    clear DR hb5 hmg hm2
                    go_wp2
                    go_ret
                    rw [hd]
                    exact ⟨rfl, unhide st5, unhide ch⟩
                  | true =>
                    have hm2 : (((confB x.cf).length : Int) + (lv : Int) ≤ 12000) := of_decide_eq_true hmg
                    have hd : putRS ⟨rh, rp, rl⟩ x = (0, { x with rs := lput rpl ⟨rh, rp, rl⟩ x.rs }) := by
                      rw [unhide DR, unhide LP, hg]
                      simp only [if_neg h32, if_pos hm2]
                    have b5 := hide ((unhide b4).trans (hb5.mono (unhide b4).size))
                    have F := hide (((unhide F4).trans (hb5.mono (unhide F4).size)).trans ((Below.refl _ _).drew.mono (show V.heap.size ≤ U5.heap.size by have := (unhide F4).size; have := hb5.size; omega)))
                    have G := hide (show Below U5.heap.size U5 U5.drew from (Below.refl _ _).drew)
                    have SB := hide (show ∀ W : World, Below V.heap.size V W → W.cell? ⟨h.S, 2, none⟩ = some (.map (some h.R)) ∧ W.cell? ⟨B, 0, none⟩ = some (.string rh) ∧ W.cell? ⟨B, 1, none⟩ = some (.string rp) ∧ W.cell? ⟨B, 2, none⟩ = some (.string rl) from fun W hb => ⟨(unhide SS W hb).2.1, (unhide SS W hb).2.2.1, (unhide SS W hb).2.2.2.1, (unhide SS W hb).2.2.2.2.1⟩)
                    clear DR hb5 hmg hm2
                    go_wp2_with fail
                    refine wp_region_held_drew (S := fun w' => w'.cell? ⟨h.S, 2, none⟩ = some (.map (some h.R)) ∧ w'.cell? ⟨B, 0, none⟩ = some (.string rh) ∧ w'.cell? ⟨B, 1, none⟩ = some (.string rp) ∧ w'.cell? ⟨B, 2, none⟩ = some (.string rl)) (by kernel_rfl) ?_ (fun hHeld => ?_)
                    · try dsimp only
                      first | exact unhide KC | exact unhide SB _ (unhide F)
                    refine hT 0 ?_
                    refine hT 1 ?_
                    refine hT 2 ?_
                    refine hT 3 ?_
                    refine hT 4 ?_
                    refine hT 6 ?_
                    refine wpAnyH_ready (rs := [5]) (by kernel_rfl) (by simp) ?_
                    refine AllReadyH.cons rfl (fun K hK => ?_) ?_
                    · go_simp
                      go_at_call 132
                      refine (placeOf_calls _ ⟨rh, rp, rl⟩).mono ?_
                      rintro e U6 ⟨rfl, hb⟩
                      have F := hide ((unhide F).trans (hb.mono (unhide F).size))
                      have G := hide ((unhide G).trans (hb.mono (unhide G).size))
                      clear hb
                      go_wp2_with fail
                      refine hK.out _ _ ?_ (fun hHeld => ?_)
                      · try dsimp only
                        first | exact unhide KC | exact unhide SB _ (unhide F)
                      clear hK K
                      refine hP ?_
                      refine wpAnyH_ready (rs := [7]) (by kernel_rfl) (by simp) ?_
                      refine AllReadyH.cons rfl (fun K hK => ?_) ?_
                      · have b6 := hide ((unhide b5).trans ((unhide G).mono (unhide b5).size))
                        obtain ⟨W3, hput, sd, cd⟩ := (s.later (unhide b6)).putR ⟨rh, rp, rl⟩ (by simp only [maxLen]; omega) hrn
                        simp only at hput
                        have KC := hide (show W3.cell? ⟨h.S, 2, none⟩ = some (.map (some h.R)) ∧ W3.cell? ⟨B, 0, none⟩ = some (.string rh) ∧ W3.cell? ⟨B, 1, none⟩ = some (.string rp) ∧ W3.cell? ⟨B, 2, none⟩ = some (.string rl) by
                          obtain ⟨t1, t2, t3, t4⟩ := s.lts
                          obtain ⟨q1, q2, q3, q4⟩ := unhide SB _ (unhide F)
                          have hk : W3.heap[B]? = U6.heap[B]? := cd.block B (by have := (unhide F).size; have := unhide BV; omega) (by omega) (by omega) (by omega) (by omega)
                          exact ⟨sd.cell.2.2.1, (World.cell?_of_block hk).trans q2, (World.cell?_of_block hk).trans q3, (World.cell?_of_block hk).trans q4⟩)
                        have SD := hide sd
                        have CD := hide ((Chg.below (h := h) (unhide b6)).trans cd)
                        clear sd cd
                        go_simp
                        clear hput
                        refine hK.out _ _ ?_ (fun hHeld => ?_)
                        · try dsimp only
                          first | exact unhide KC | exact unhide SB _ (unhide F)
                        clear hK K
                        refine hP ?_
                        refine wpAnyH_done (by kernel_rfl) ?_ _
                        go_wp2
                        go_ret
                        first
                          | rw [hd]
                          | skip
                        exact ⟨rfl, unhide SD, unhide CD⟩
                      exact AllReadyH.nil
                    exact AllReadyH.nil
              | true => as_aux_lemma =>
                have hg : lget rpl (rh, rp) x.rs = some ⟨oh, op, ol⟩ := by
                  have h1 := unhide HJ
                  have h2 := unhide HQ
                  cases hg : lget rpl (rh, rp) x.rs with
                  | none => rw [hg] at h1; cases h1
                  | some v => rw [hg] at h2; exact congrArg some h2
                have g1 := unhide GO _ hg
                simp only at g1
                have hlq := routeB_len ⟨oh, op, ol⟩ g1
                have e0 := fcell0 (unhide HE3) 0 _ rfl
                have e1 := fcell0 (unhide HE3) 1 _ rfl
                have e2 := fcell0 (unhide HE3) 2 _ rfl
                have A2 := hide (addRoute0 U3 ⟨oh, op, ol⟩ g1)
                go_wp2_with fail
                refine (unhide A2).mono ?_
                rintro e U4 ⟨s4, c4, rfl, hb4⟩
                have b4 := hide ((unhide b3).trans (hb4.mono (unhide b3).size))
                have F4 := hide ((unhide F3).trans (hb4.mono (unhide F3).size))
                clear b3 F3 hb4 A2 e0 e1 e2 m1 m2
                generalize hlw : (routeB ⟨oh, op, ol⟩).length = lw at *
                have MG := hide (mayGrow_calls (s.later (unhide b4)) hx ((lv : Int) - (lw : Int)) (by omega))
                go_wp2_with fail
                refine (unhide MG).mono ?_
                rintro e U5 ⟨rfl, hb5⟩
                clear MG
                cases hmg : decide (((confB x.cf).length : Int) + ((lv : Int) - (lw : Int)) ≤ 12000) with
                | false =>
                  have hm2 : ¬ (((confB x.cf).length : Int) + ((lv : Int) - (lw : Int)) ≤ 12000) := of_decide_eq_false hmg
                  have hd : putRS ⟨rh, rp, rl⟩ x = (6, x) := by
                    rw [unhide DR, unhide LP, hg]
                    simp only [hlw, if_neg hm2]
                  have ch := hide (Chg.below (h := h) ((unhide b4).trans (hb5.mono (unhide b4).size)))
                  have st5 := hide (s.later ((unhide b4).trans (hb5.mono (unhide b4).size)))
                  clear DR hb5 hmg hm2
                  go_wp2
                  go_ret
                  rw [hd]
                  exact ⟨rfl, unhide st5, unhide ch⟩
                | true =>
                  have hm2 : (((confB x.cf).length : Int) + ((lv : Int) - (lw : Int)) ≤ 12000) := of_decide_eq_true hmg
                  have hd : putRS ⟨rh, rp, rl⟩ x = (0, { x with rs := lput rpl ⟨rh, rp, rl⟩ x.rs }) := by
                    rw [unhide DR, unhide LP, hg]
                    simp only [hlw, if_pos hm2]
                  have b5 := hide ((unhide b4).trans (hb5.mono (unhide b4).size))
                  have F := hide (((unhide F4).trans (hb5.mono (unhide F4).size)).trans ((Below.refl _ _).drew.mono (show V.heap.size ≤ U5.heap.size by have := (unhide F4).size; have := hb5.size; omega)))
                  have G := hide (show Below U5.heap.size U5 U5.drew from (Below.refl _ _).drew)
                  have SB := hide (show ∀ W : World, Below V.heap.size V W → W.cell? ⟨h.S, 2, none⟩ = some (.map (some h.R)) ∧ W.cell? ⟨B, 0, none⟩ = some (.string rh) ∧ W.cell? ⟨B, 1, none⟩ = some (.string rp) ∧ W.cell? ⟨B, 2, none⟩ = some (.string rl) from fun W hb => ⟨(unhide SS W hb).2.1, (unhide SS W hb).2.2.1, (unhide SS W hb).2.2.2.1, (unhide SS W hb).2.2.2.2.1⟩)
                  clear DR hb5 hmg hm2
                  go_wp2_with fail
                  refine wp_region_held_drew (S := fun w' => w'.cell? ⟨h.S, 2, none⟩ = some (.map (some h.R)) ∧ w'.cell? ⟨B, 0, none⟩ = some (.string rh) ∧ w'.cell? ⟨B, 1, none⟩ = some (.string rp) ∧ w'.cell? ⟨B, 2, none⟩ = some (.string rl)) (by kernel_rfl) ?_ (fun hHeld => ?_)
                  · try dsimp only
                    first | exact unhide KC | exact unhide SB _ (unhide F)
                  refine hT 0 ?_
                  refine hT 1 ?_
                  refine hT 2 ?_
                  refine hT 3 ?_
                  refine hT 4 ?_
                  refine hT 6 ?_
                  refine wpAnyH_ready (rs := [5]) (by kernel_rfl) (by simp) ?_
                  refine AllReadyH.cons rfl (fun K hK => ?_) ?_
                  · go_simp
                    go_at_call 132
                    refine (placeOf_calls _ ⟨rh, rp, rl⟩).mono ?_
                    rintro e U6 ⟨rfl, hb⟩
                    have F := hide ((unhide F).trans (hb.mono (unhide F).size))
                    have G := hide ((unhide G).trans (hb.mono (unhide G).size))
                    clear hb
                    go_wp2_with fail
                    refine hK.out _ _ ?_ (fun hHeld => ?_)
                    · try dsimp only
                      first | exact unhide KC | exact unhide SB _ (unhide F)
                    clear hK K
                    refine hP ?_
                    refine wpAnyH_ready (rs := [7]) (by kernel_rfl) (by simp) ?_
                    refine AllReadyH.cons rfl (fun K hK => ?_) ?_
                    · have b6 := hide ((unhide b5).trans ((unhide G).mono (unhide b5).size))
                      obtain ⟨W3, hput, sd, cd⟩ := (s.later (unhide b6)).putR ⟨rh, rp, rl⟩ (by simp only [maxLen]; omega) hrn
                      simp only at hput
                      have KC := hide (show W3.cell? ⟨h.S, 2, none⟩ = some (.map (some h.R)) ∧ W3.cell? ⟨B, 0, none⟩ = some (.string rh) ∧ W3.cell? ⟨B, 1, none⟩ = some (.string rp) ∧ W3.cell? ⟨B, 2, none⟩ = some (.string rl) by
                        obtain ⟨t1, t2, t3, t4⟩ := s.lts
                        obtain ⟨q1, q2, q3, q4⟩ := unhide SB _ (unhide F)
                        have hk : W3.heap[B]? = U6.heap[B]? := cd.block B (by have := (unhide F).size; have := unhide BV; omega) (by omega) (by omega) (by omega) (by omega)
                        exact ⟨sd.cell.2.2.1, (World.cell?_of_block hk).trans q2, (World.cell?_of_block hk).trans q3, (World.cell?_of_block hk).trans q4⟩)
                      have SD := hide sd
                      have CD := hide ((Chg.below (h := h) (unhide b6)).trans cd)
                      clear sd cd
                      go_simp
                      clear hput
                      refine hK.out _ _ ?_ (fun hHeld => ?_)
                      · try dsimp only
                        first | exact unhide KC | exact unhide SB _ (unhide F)
                      clear hK K
                      refine hP ?_
                      refine wpAnyH_done (by kernel_rfl) ?_ _
                      go_wp2
                      go_ret
                      first
                        | rw [hd]
                        | skip
                      exact ⟨rfl, unhide SD, unhide CD⟩
                    exact AllReadyH.nil
                  exact AllReadyH.nil
            exact AllReadyH.nil
          exact AllReadyH.nil
        exact AllReadyH.nil
    exact AllReadyH.nil
  exact AllReadyH.nil
end Go.Proofs.YtpkpnedcecjlbaaGreatDoor
