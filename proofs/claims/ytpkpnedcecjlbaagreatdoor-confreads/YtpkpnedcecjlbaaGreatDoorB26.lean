/- Conf: putPool. -/
import Derived.Test.YtpkpnedcecjlbaaGreatDoorB24
namespace Go.Proofs.YtpkpnedcecjlbaaGreatDoor
open Go.ChangeShapes Go.WideShapes Go.ChangeAt Go.RowKit
set_option linter.unusedVariables false

/-- A pool put. -/
def putPS (q : Pq) (x : Sm) : Int × Sm := match lget qnm q.po.nm x.ps with
  | none => if 32 ≤ x.ps.length then (6, x) else if ((confB x.cf).length : Int) + ((poolB q.po).length : Int) ≤ 12000 then (0, { x with ps := lput qnm q x.ps }) else (6, x)
  | some o => if ((confB x.cf).length : Int) + (((poolB q.po).length : Int) - ((poolB o.po).length : Int)) ≤ 12000 then (0, { x with ps := lput qnm q x.ps }) else (6, x)
/-- addPool to nothing. -/
theorem addPool0 {w : World} {a : Option Addr} {nm : ByteArray} {ts : List Tgt} (hTs : TgsAt w a ts) (mc : Nat) (hnm : nm.size ≤ 1000000) (hts : ts.length ≤ 100 ∧ ∀ t ∈ ts, t.1.size ≤ 1000000) :
    Calls Tryz.prog 130 #[.slice none 0 0, .agg #[.string nm, .slice a ts.length mc]] w fun e w' => ∃ sp' c', e = .returned (.slice sp' (poolB ⟨nm, ts⟩).length c') ∧ Below w.heap.size w w' := by
  refine (addPool_calls w.heap.size hTs (Below.refl _ _) (Nat.le_refl _) (sp := none) (n0 := 0) (c := 0) (l := []) rfl (OwnB.ofNil _ _) ts.length mc rfl hnm hts.2 (by simp only [List.length_nil]; have := Nat.mul_le_mul_left 1000014 hts.1; omega) (by omega) (Nat.le_refl _)).mono ?_
  rintro e w' ⟨s1, n1, c1, rfl, h1, h2, h3⟩
  have h4 := unhide h1
  rw [List.nil_append] at h4
  exact ⟨s1, c1, by rw [h4], h3.below (OwnB.ofNil _ _) (Nat.le_refl _)⟩
set_option maxRecDepth 20000 in
set_option maxHeartbeats 8000000 in
theorem putPool_calls {w : World} {h : StH} {x : Sm} (s : StAt w h x) (hx : SmOk x) (nm : ByteArray) (ts : List Tgt) (a : Option Addr) (mc : Nat) (hTs : TgsAt w a ts) (hnm : nm.size ≤ 1000000) (hts : ts.length ≤ 100 ∧ ∀ t ∈ ts, t.1.size ≤ 1000000) :
    Calls Tryz.prog 102 #[.pointer (some ⟨h.S, 0, none⟩), .agg #[.string nm, .slice a ts.length mc]] w fun e w' => e = .returned (.int .i64 (putPS ⟨⟨nm, ts⟩, a, mc⟩ x).1) ∧ StAt w' h (putPS ⟨⟨nm, ts⟩, a, mc⟩ x).2 ∧ Chg h w w' := by
  have b1 := hide (show Below w.heap.size w (w.alloc (.cells #[.string nm, .slice a ts.length mc] 93)) from (Below.refl _ _).alloc (Nat.le_refl _) _)
  have X1 := hide (heap_new w (.cells #[.string nm, .slice a ts.length mc] 93))
  have hpn : x.ps.length ≤ 1000 := by have := hx.t.pn; simpa [Sm.cf] using this
  have SS := hide (show ∀ W : World, Below (w.alloc (.cells #[.string nm, .slice a ts.length mc] 93)).heap.size (w.alloc (.cells #[.string nm, .slice a ts.length mc] 93)) W → W.cell? ⟨h.S, 1, none⟩ = some (.map (some h.P)) ∧ W.cell? ⟨w.heap.size, 0, none⟩ = some (.string nm) ∧ W.cell? ⟨w.heap.size, 1, none⟩ = some (.slice a ts.length mc) ∧ (Instr.lookup 82 (.map (some h.P)) (.string nm) true).run Tryz.prog W = .ok (.tuple #[pqV ((lget qnm nm x.ps).getD ⟨⟨⟨#[]⟩, []⟩, none, 0⟩), .bool (lget qnm nm x.ps).isSome]) W ∧ ∀ ty, (Builtin.len_ #[82] ty #[.map (some h.P)]).run Tryz.prog W = .ok (.int .i64 (x.ps.length : Int)) W from fun W hb => by
    have st := s.later ((unhide b1).trans (hb.mono (unhide b1).size))
    have hk := later_block hb (unhide X1)
    exact ⟨st.cell.2.1, fcell0 hk 0 _ rfl, fcell0 hk 1 _ rfl, lookP st nm (by simp only [maxLen]; omega), fun ty => by have := st.pm.len mapTP ty; rwa [Sm.fp_length] at this⟩)
  have DR := hide (show putPS ⟨⟨nm, ts⟩, a, mc⟩ x = (match lget qnm nm x.ps with
    | none => if 32 ≤ x.ps.length then (6, x) else if ((confB x.cf).length : Int) + ((poolB ⟨nm, ts⟩).length : Int) ≤ 12000 then (0, { x with ps := lput qnm ⟨⟨nm, ts⟩, a, mc⟩ x.ps }) else (6, x)
    | some o => if ((confB x.cf).length : Int) + (((poolB ⟨nm, ts⟩).length : Int) - ((poolB o.po).length : Int)) ≤ 12000 then (0, { x with ps := lput qnm ⟨⟨nm, ts⟩, a, mc⟩ x.ps }) else (6, x)) from rfl)
  have hlp := poolB_len ⟨nm, ts⟩ ⟨hnm, hts⟩
  have GO := hide (show ∀ o, lget qnm nm x.ps = some o → TgsAt w o.ta o.po.ts ∧ o.po.nm.size ≤ 1000000 ∧ o.po.ts.length ≤ 100 ∧ ∀ t ∈ o.po.ts, t.1.size ≤ 1000000 from fun o ho => by
    have hm := (lget_mem _ _ _ _ ho).1
    exact ⟨s.tg o hm, hx.t.ps o.po (by simp only [Sm.cf]; exact List.mem_map_of_mem hm)⟩)
  go_enter Tryz.func102, Tryz.ntmps102
  go_wp2_with fail
  generalize hB : w.heap.size = B at *
  generalize w.alloc (.cells #[.string nm, .slice a ts.length mc] 93) = V at *
  generalize hq : ((lget qnm nm x.ps).getD ⟨⟨⟨#[]⟩, []⟩, none, 0⟩) = q at *
  generalize hi : (lget qnm nm x.ps).isSome = ii at *
  have HI := hide hi
  have HQ := hide hq
  have F := hide (show Below V.heap.size V V.drew from (Below.refl _ _).drew)
  clear hi hq
  obtain ⟨⟨qn, qt⟩, qa, qc⟩ := q
  simp only [pqV] at SS
  refine wp_region_held_drew (S := fun w' => w'.cell? ⟨h.S, 1, none⟩ = some (.map (some h.P)) ∧ w'.cell? ⟨B, 0, none⟩ = some (.string nm) ∧ (Instr.lookup 82 (.map (some h.P)) (.string nm) true).run Tryz.prog w' = .ok (.tuple #[.agg #[.string qn, .slice qa qt.length qc], .bool ii]) w') (by kernel_rfl) ?_ (fun hHeld => ?_)
  · try dsimp only
    exact ⟨(unhide SS _ (unhide F)).1, (unhide SS _ (unhide F)).2.1, (unhide SS _ (unhide F)).2.2.2.1⟩
  refine hT 0 ?_
  refine hT 1 ?_
  refine hT 2 ?_
  refine hT 3 ?_
  refine hT 4 ?_
  refine hT 5 ?_
  refine hT 6 ?_
  refine hT 7 ?_
  refine hT 8 ?_
  refine hT 9 ?_
  refine wpAnyH_ready (rs := [10]) (by kernel_rfl) (by simp) ?_
  refine AllReadyH.cons rfl (fun K hK => ?_) ?_
  · refine step_zP rfl rfl ?_
    intro E U hE hEn hb
    have LE := hide (show V.heap.size ≤ E by rw [← hE]; exact (unhide F).size)
    have HE := hide hEn
    have F := hide ((unhide F).trans (hb.mono (unhide F).size))
    clear hE hEn hb
    refine hK.out _ _ ?_ (fun hHeld => ?_)
    · try dsimp only
      exact ⟨(unhide SS _ (unhide F)).1, (unhide SS _ (unhide F)).2.1, (unhide SS _ (unhide F)).2.2.2.1⟩
    clear hK K
    refine hP ?_
    refine wpAnyH_ready (rs := [11]) (by kernel_rfl) (by simp) ?_
    refine AllReadyH.cons rfl (fun K hK => ?_) ?_
    · have z0 := fcell0 (unhide HE) 0 _ rfl
      have z1 := fcell0 (unhide HE) 1 _ rfl
      have f0 : U.frozen? ⟨E, 0, none⟩ = false := by simp [World.frozen?, unhide HE]
      have f1 : U.frozen? ⟨E, 1, none⟩ = false := by simp [World.frozen?, unhide HE]
      have a1 := set2 (x := .string qn) (y := .slice qa qt.length qc) (unhide HE)
      have HE2 := hide a1.1
      have F := hide ((unhide F).grown a1.2 (unhide F).size (fun g e => by have := Option.some.inj e; have := unhide LE; omega))
      clear a1
      go_simp
      clear z0 z1 f0 f1
      refine hK.out _ _ ?_ (fun hHeld => ?_)
      · try dsimp only
        exact ⟨(unhide SS _ (unhide F)).1, (unhide SS _ (unhide F)).2.1, (unhide SS _ (unhide F)).2.2.2.1⟩
      clear hK K
      refine hP ?_
      refine hT 12 ?_
      refine wpAnyH_done (by kernel_rfl) ?_ _
      generalize ((U.setCell ⟨E, 0, none⟩ (.string qn)).setCell ⟨E, 1, none⟩ (.slice qa qt.length qc)) = U2 at *
      clear hHeld HE LE
      have k0 := (unhide SS _ (unhide F)).2.1
      have k1 := (unhide SS _ (unhide F)).2.2.1
      have b2 := hide (show Below w.heap.size w U2 by rw [hB]; exact (unhide b1).trans ((unhide F).mono (by have := (unhide b1).size; omega)))
      have A1 := hide (addPool0 (hTs.later (unhide b2)) mc hnm hts)
      go_wp2_with fail
      refine (unhide A1).mono ?_
      rintro e U3 ⟨s3, c3, rfl, hb3⟩
      have F3 := hide ((unhide F).trans (hb3.mono (unhide F).size))
      have b3 := hide ((unhide b2).trans (hb3.mono (unhide b2).size))
      have HE3 := hide (later_block hb3 (unhide HE2))
      clear hb3 A1 k0 k1 F b2 HE2
      have m1 := (unhide SS _ (unhide F3)).1
      have m2 := (unhide SS _ (unhide F3)).2.2.2.2
      generalize hlv : (poolB ⟨nm, ts⟩).length = lv at *
      cases ii with
      | false => as_aux_lemma =>
        have hg : lget qnm nm x.ps = none := by
          have h1 := unhide HI
          cases hg : lget qnm nm x.ps with
          | none => rfl
          | some v => rw [hg] at h1; cases h1
        by_cases h32 : 32 ≤ x.ps.length
        · as_aux_lemma =>
          have hd : putPS ⟨⟨nm, ts⟩, a, mc⟩ x = (6, x) := by rw [unhide DR, hg]; simp only [if_pos h32]
          have hc : (32 : Int) ≤ (x.ps.length : Int) := by omega
          have ch := hide (Chg.below (h := h) (unhide b3))
          have st3 := hide (s.later (unhide b3))
          clear DR
          go_wp2
          go_ret
          rw [hd]
          exact ⟨rfl, unhide st3, unhide ch⟩
        · as_aux_lemma =>
          have hc : ¬ (32 : Int) ≤ (x.ps.length : Int) := by omega
          have b4 := hide (unhide b3)
          have F4 := hide (unhide F3)
          have MG := hide (mayGrow_calls (s.later (unhide b3)) hx (lv : Int) (by omega))
          clear b3 F3
          go_wp2_with fail
          refine (unhide MG).mono ?_
          rintro e U5 ⟨rfl, hb5⟩
          clear MG m1 m2 hc
          cases hmg : decide (((confB x.cf).length : Int) + (lv : Int) ≤ 12000) with
          | false =>
            have hm2 : ¬ (((confB x.cf).length : Int) + (lv : Int) ≤ 12000) := of_decide_eq_false hmg
            have hd : putPS ⟨⟨nm, ts⟩, a, mc⟩ x = (6, x) := by
              rw [unhide DR, hg]
              simp only [if_neg h32, if_neg hm2]
            have ch := hide (Chg.below (h := h) ((unhide b4).trans (hb5.mono (unhide b4).size)))
            have st5 := hide (s.later ((unhide b4).trans (hb5.mono (unhide b4).size)))
            clear DR hb5 hmg hm2
            go_wp2
            go_ret
            rw [hd]
            exact ⟨rfl, unhide st5, unhide ch⟩
          | true =>
            have hm2 : (((confB x.cf).length : Int) + (lv : Int) ≤ 12000) := of_decide_eq_true hmg
            have hd : putPS ⟨⟨nm, ts⟩, a, mc⟩ x = (0, { x with ps := lput qnm ⟨⟨nm, ts⟩, a, mc⟩ x.ps }) := by
              rw [unhide DR, hg]
              simp only [if_neg h32, if_pos hm2]
            have b5 := hide ((unhide b4).trans (hb5.mono (unhide b4).size))
            have F5 := hide ((unhide F4).trans (hb5.mono (unhide F4).size))
            have bD := hide (show Below V.heap.size V U5.drew from (unhide F5).drew)
            obtain ⟨W3, hput, sd, cd⟩ := ((s.later (unhide b5)).later (Below.refl _ _).drew).putP ⟨⟨nm, ts⟩, a, mc⟩ (by simp only [maxLen]; omega) ((hTs.later (unhide b5)).later (Below.refl _ _).drew) hpn
            have SD := hide sd
            have CD := hide ((Chg.below (h := h) (unhide b5)).trans ((Chg.below (Below.refl _ _).drew).trans cd))
            simp only at hput
            have s3 := (unhide SS _ (unhide bD)).1
            have s4 := (unhide SS _ (unhide bD)).2.1
            have s5 := (unhide SS _ (unhide bD)).2.2.1
            clear sd cd DR hb5 hmg hm2
            go_wp2_with fail
            refine wp_region_held_drew (S := fun w' => w' = U5.drew ∨ w' = W3) (by kernel_rfl) ?_ (fun hHeld => ?_)
            · try dsimp only
              first | exact .inl rfl | exact .inr rfl
            refine hT 0 ?_
            refine hT 1 ?_
            refine hT 2 ?_
            refine hT 4 ?_
            refine wpAnyH_ready (rs := [3, 5, 6]) (by kernel_rfl) (by simp) ?_
            refine AllReadyH.cons rfl (fun K hK => ?_) ?_
            · go_simp
              refine hK.out _ _ ?_ (fun hHeld => ?_)
              · try dsimp only
                first | exact .inl rfl | exact .inr rfl
              clear hK K
              refine hP ?_
              refine wpAnyH_ready (rs := [5, 6]) (by kernel_rfl) (by simp) ?_
              refine AllReadyH.cons rfl (fun K hK => ?_) ?_
              · go_simp
                refine hK.out _ _ ?_ (fun hHeld => ?_)
                · try dsimp only
                  first | exact .inl rfl | exact .inr rfl
                clear hK K
                refine hP ?_
                refine wpAnyH_ready (rs := [6]) (by kernel_rfl) (by simp) ?_
                refine AllReadyH.cons rfl (fun K hK => ?_) ?_
                · go_simp
                  refine hK.out _ _ ?_ (fun hHeld => ?_)
                  · try dsimp only
                    first | exact .inl rfl | exact .inr rfl
                  clear hK K
                  refine hP ?_
                  refine wpAnyH_ready (rs := [7]) (by kernel_rfl) (by simp) ?_
                  refine AllReadyH.cons rfl (fun K hK => ?_) ?_
                  · go_simp
                    refine hK.out _ _ ?_ (fun hHeld => ?_)
                    · try dsimp only
                      first | exact .inl rfl | exact .inr rfl
                    clear hK K
                    refine hP ?_
                    refine wpAnyH_done (by kernel_rfl) ?_ _
                    go_wp2
                    go_ret
                    exact ⟨rfl, unhide SD, unhide CD⟩
                  exact AllReadyH.nil
                exact AllReadyH.nil
              refine AllReadyH.cons rfl (fun K hK => ?_) ?_
              · go_simp
                refine hK.out _ _ ?_ (fun hHeld => ?_)
                · try dsimp only
                  first | exact .inl rfl | exact .inr rfl
                clear hK K
                refine hP ?_
                refine wpAnyH_ready (rs := [5]) (by kernel_rfl) (by simp) ?_
                refine AllReadyH.cons rfl (fun K hK => ?_) ?_
                · go_simp
                  refine hK.out _ _ ?_ (fun hHeld => ?_)
                  · try dsimp only
                    first | exact .inl rfl | exact .inr rfl
                  clear hK K
                  refine hP ?_
                  refine wpAnyH_ready (rs := [7]) (by kernel_rfl) (by simp) ?_
                  refine AllReadyH.cons rfl (fun K hK => ?_) ?_
                  · go_simp
                    refine hK.out _ _ ?_ (fun hHeld => ?_)
                    · try dsimp only
                      first | exact .inl rfl | exact .inr rfl
                    clear hK K
                    refine hP ?_
                    refine wpAnyH_done (by kernel_rfl) ?_ _
                    go_wp2
                    go_ret
                    exact ⟨rfl, unhide SD, unhide CD⟩
                  exact AllReadyH.nil
                exact AllReadyH.nil
              exact AllReadyH.nil
            refine AllReadyH.cons rfl (fun K hK => ?_) ?_
            · go_simp
              refine hK.out _ _ ?_ (fun hHeld => ?_)
              · try dsimp only
                first | exact .inl rfl | exact .inr rfl
              clear hK K
              refine hP ?_
              refine wpAnyH_ready (rs := [3, 6]) (by kernel_rfl) (by simp) ?_
              refine AllReadyH.cons rfl (fun K hK => ?_) ?_
              · go_simp
                refine hK.out _ _ ?_ (fun hHeld => ?_)
                · try dsimp only
                  first | exact .inl rfl | exact .inr rfl
                clear hK K
                refine hP ?_
                refine wpAnyH_ready (rs := [6]) (by kernel_rfl) (by simp) ?_
                refine AllReadyH.cons rfl (fun K hK => ?_) ?_
                · go_simp
                  refine hK.out _ _ ?_ (fun hHeld => ?_)
                  · try dsimp only
                    first | exact .inl rfl | exact .inr rfl
                  clear hK K
                  refine hP ?_
                  refine wpAnyH_ready (rs := [7]) (by kernel_rfl) (by simp) ?_
                  refine AllReadyH.cons rfl (fun K hK => ?_) ?_
                  · go_simp
                    refine hK.out _ _ ?_ (fun hHeld => ?_)
                    · try dsimp only
                      first | exact .inl rfl | exact .inr rfl
                    clear hK K
                    refine hP ?_
                    refine wpAnyH_done (by kernel_rfl) ?_ _
                    go_wp2
                    go_ret
                    exact ⟨rfl, unhide SD, unhide CD⟩
                  exact AllReadyH.nil
                exact AllReadyH.nil
              refine AllReadyH.cons rfl (fun K hK => ?_) ?_
              · go_simp
                refine hK.out _ _ ?_ (fun hHeld => ?_)
                · try dsimp only
                  first | exact .inl rfl | exact .inr rfl
                clear hK K
                refine hP ?_
                refine wpAnyH_ready (rs := [3]) (by kernel_rfl) (by simp) ?_
                refine AllReadyH.cons rfl (fun K hK => ?_) ?_
                · go_simp
                  refine hK.out _ _ ?_ (fun hHeld => ?_)
                  · try dsimp only
                    first | exact .inl rfl | exact .inr rfl
                  clear hK K
                  refine hP ?_
                  refine wpAnyH_ready (rs := [7]) (by kernel_rfl) (by simp) ?_
                  refine AllReadyH.cons rfl (fun K hK => ?_) ?_
                  · go_simp
                    refine hK.out _ _ ?_ (fun hHeld => ?_)
                    · try dsimp only
                      first | exact .inl rfl | exact .inr rfl
                    clear hK K
                    refine hP ?_
                    refine wpAnyH_done (by kernel_rfl) ?_ _
                    go_wp2
                    go_ret
                    exact ⟨rfl, unhide SD, unhide CD⟩
                  exact AllReadyH.nil
                exact AllReadyH.nil
              exact AllReadyH.nil
            refine AllReadyH.cons rfl (fun K hK => ?_) ?_
            · go_simp
              refine hK.out _ _ ?_ (fun hHeld => ?_)
              · try dsimp only
                first | exact .inl rfl | exact .inr rfl
              clear hK K
              refine hP ?_
              refine wpAnyH_ready (rs := [3, 5]) (by kernel_rfl) (by simp) ?_
              refine AllReadyH.cons rfl (fun K hK => ?_) ?_
              · go_simp
                refine hK.out _ _ ?_ (fun hHeld => ?_)
                · try dsimp only
                  first | exact .inl rfl | exact .inr rfl
                clear hK K
                refine hP ?_
                refine wpAnyH_ready (rs := [5]) (by kernel_rfl) (by simp) ?_
                refine AllReadyH.cons rfl (fun K hK => ?_) ?_
                · go_simp
                  refine hK.out _ _ ?_ (fun hHeld => ?_)
                  · try dsimp only
                    first | exact .inl rfl | exact .inr rfl
                  clear hK K
                  refine hP ?_
                  refine wpAnyH_ready (rs := [7]) (by kernel_rfl) (by simp) ?_
                  refine AllReadyH.cons rfl (fun K hK => ?_) ?_
                  · go_simp
                    refine hK.out _ _ ?_ (fun hHeld => ?_)
                    · try dsimp only
                      first | exact .inl rfl | exact .inr rfl
                    clear hK K
                    refine hP ?_
                    refine wpAnyH_done (by kernel_rfl) ?_ _
                    go_wp2
                    go_ret
                    exact ⟨rfl, unhide SD, unhide CD⟩
                  exact AllReadyH.nil
                exact AllReadyH.nil
              refine AllReadyH.cons rfl (fun K hK => ?_) ?_
              · go_simp
                refine hK.out _ _ ?_ (fun hHeld => ?_)
                · try dsimp only
                  first | exact .inl rfl | exact .inr rfl
                clear hK K
                refine hP ?_
                refine wpAnyH_ready (rs := [3]) (by kernel_rfl) (by simp) ?_
                refine AllReadyH.cons rfl (fun K hK => ?_) ?_
                · go_simp
                  refine hK.out _ _ ?_ (fun hHeld => ?_)
                  · try dsimp only
                    first | exact .inl rfl | exact .inr rfl
                  clear hK K
                  refine hP ?_
                  refine wpAnyH_ready (rs := [7]) (by kernel_rfl) (by simp) ?_
                  refine AllReadyH.cons rfl (fun K hK => ?_) ?_
                  · go_simp
                    refine hK.out _ _ ?_ (fun hHeld => ?_)
                    · try dsimp only
                      first | exact .inl rfl | exact .inr rfl
                    clear hK K
                    refine hP ?_
                    refine wpAnyH_done (by kernel_rfl) ?_ _
                    go_wp2
                    go_ret
                    exact ⟨rfl, unhide SD, unhide CD⟩
                  exact AllReadyH.nil
                exact AllReadyH.nil
              exact AllReadyH.nil
            exact AllReadyH.nil
      | true => as_aux_lemma =>
        have hg : lget qnm nm x.ps = some ⟨⟨qn, qt⟩, qa, qc⟩ := by
          have h1 := unhide HI
          have h2 := unhide HQ
          cases hg : lget qnm nm x.ps with
          | none => rw [hg] at h1; cases h1
          | some v => rw [hg] at h2; exact congrArg some h2
        obtain ⟨g1, g2, g3⟩ := unhide GO _ hg
        simp only at g1 g2 g3
        have hlq := poolB_len ⟨qn, qt⟩ ⟨g2, g3⟩
        have e0 := fcell0 (unhide HE3) 0 _ rfl
        have e1 := fcell0 (unhide HE3) 1 _ rfl
        have A2 := hide (addPool0 (g1.later (unhide b3)) qc g2 g3)
        go_wp2_with fail
        refine (unhide A2).mono ?_
        rintro e U4 ⟨s4, c4, rfl, hb4⟩
        have b4 := hide ((unhide b3).trans (hb4.mono (unhide b3).size))
        have F4 := hide ((unhide F3).trans (hb4.mono (unhide F3).size))
        clear b3 F3 hb4 A2 e0 e1 m1 m2
        generalize hlw : (poolB ⟨qn, qt⟩).length = lw at *
        have MG := hide (mayGrow_calls (s.later (unhide b4)) hx ((lv : Int) - (lw : Int)) (by omega))
        go_wp2_with fail
        refine (unhide MG).mono ?_
        rintro e U5 ⟨rfl, hb5⟩
        clear MG
        cases hmg : decide (((confB x.cf).length : Int) + ((lv : Int) - (lw : Int)) ≤ 12000) with
        | false =>
          have hm2 : ¬ (((confB x.cf).length : Int) + ((lv : Int) - (lw : Int)) ≤ 12000) := of_decide_eq_false hmg
          have hd : putPS ⟨⟨nm, ts⟩, a, mc⟩ x = (6, x) := by
            rw [unhide DR, hg]
            simp only [hlw, if_neg hm2]
          have ch := hide (Chg.below (h := h) ((unhide b4).trans (hb5.mono (unhide b4).size)))
          have st5 := hide (s.later ((unhide b4).trans (hb5.mono (unhide b4).size)))
          clear DR hb5 hmg hm2
          go_wp2
          go_ret
          rw [hd]
          exact ⟨rfl, unhide st5, unhide ch⟩
        | true =>
          have hm2 : (((confB x.cf).length : Int) + ((lv : Int) - (lw : Int)) ≤ 12000) := of_decide_eq_true hmg
          have hd : putPS ⟨⟨nm, ts⟩, a, mc⟩ x = (0, { x with ps := lput qnm ⟨⟨nm, ts⟩, a, mc⟩ x.ps }) := by
            rw [unhide DR, hg]
            simp only [hlw, if_pos hm2]
          have b5 := hide ((unhide b4).trans (hb5.mono (unhide b4).size))
          have F5 := hide ((unhide F4).trans (hb5.mono (unhide F4).size))
          have bD := hide (show Below V.heap.size V U5.drew from (unhide F5).drew)
          obtain ⟨W3, hput, sd, cd⟩ := ((s.later (unhide b5)).later (Below.refl _ _).drew).putP ⟨⟨nm, ts⟩, a, mc⟩ (by simp only [maxLen]; omega) ((hTs.later (unhide b5)).later (Below.refl _ _).drew) hpn
          have SD := hide sd
          have CD := hide ((Chg.below (h := h) (unhide b5)).trans ((Chg.below (Below.refl _ _).drew).trans cd))
          simp only at hput
          have s3 := (unhide SS _ (unhide bD)).1
          have s4 := (unhide SS _ (unhide bD)).2.1
          have s5 := (unhide SS _ (unhide bD)).2.2.1
          clear sd cd DR hb5 hmg hm2
          go_wp2_with fail
          refine wp_region_held_drew (S := fun w' => w' = U5.drew ∨ w' = W3) (by kernel_rfl) ?_ (fun hHeld => ?_)
          · try dsimp only
            first | exact .inl rfl | exact .inr rfl
          refine hT 0 ?_
          refine hT 1 ?_
          refine hT 2 ?_
          refine hT 4 ?_
          refine wpAnyH_ready (rs := [3, 5, 6]) (by kernel_rfl) (by simp) ?_
          refine AllReadyH.cons rfl (fun K hK => ?_) ?_
          · go_simp
            refine hK.out _ _ ?_ (fun hHeld => ?_)
            · try dsimp only
              first | exact .inl rfl | exact .inr rfl
            clear hK K
            refine hP ?_
            refine wpAnyH_ready (rs := [5, 6]) (by kernel_rfl) (by simp) ?_
            refine AllReadyH.cons rfl (fun K hK => ?_) ?_
            · go_simp
              refine hK.out _ _ ?_ (fun hHeld => ?_)
              · try dsimp only
                first | exact .inl rfl | exact .inr rfl
              clear hK K
              refine hP ?_
              refine wpAnyH_ready (rs := [6]) (by kernel_rfl) (by simp) ?_
              refine AllReadyH.cons rfl (fun K hK => ?_) ?_
              · go_simp
                refine hK.out _ _ ?_ (fun hHeld => ?_)
                · try dsimp only
                  first | exact .inl rfl | exact .inr rfl
                clear hK K
                refine hP ?_
                refine wpAnyH_ready (rs := [7]) (by kernel_rfl) (by simp) ?_
                refine AllReadyH.cons rfl (fun K hK => ?_) ?_
                · go_simp
                  refine hK.out _ _ ?_ (fun hHeld => ?_)
                  · try dsimp only
                    first | exact .inl rfl | exact .inr rfl
                  clear hK K
                  refine hP ?_
                  refine wpAnyH_done (by kernel_rfl) ?_ _
                  go_wp2
                  go_ret
                  exact ⟨rfl, unhide SD, unhide CD⟩
                exact AllReadyH.nil
              exact AllReadyH.nil
            refine AllReadyH.cons rfl (fun K hK => ?_) ?_
            · go_simp
              refine hK.out _ _ ?_ (fun hHeld => ?_)
              · try dsimp only
                first | exact .inl rfl | exact .inr rfl
              clear hK K
              refine hP ?_
              refine wpAnyH_ready (rs := [5]) (by kernel_rfl) (by simp) ?_
              refine AllReadyH.cons rfl (fun K hK => ?_) ?_
              · go_simp
                refine hK.out _ _ ?_ (fun hHeld => ?_)
                · try dsimp only
                  first | exact .inl rfl | exact .inr rfl
                clear hK K
                refine hP ?_
                refine wpAnyH_ready (rs := [7]) (by kernel_rfl) (by simp) ?_
                refine AllReadyH.cons rfl (fun K hK => ?_) ?_
                · go_simp
                  refine hK.out _ _ ?_ (fun hHeld => ?_)
                  · try dsimp only
                    first | exact .inl rfl | exact .inr rfl
                  clear hK K
                  refine hP ?_
                  refine wpAnyH_done (by kernel_rfl) ?_ _
                  go_wp2
                  go_ret
                  exact ⟨rfl, unhide SD, unhide CD⟩
                exact AllReadyH.nil
              exact AllReadyH.nil
            exact AllReadyH.nil
          refine AllReadyH.cons rfl (fun K hK => ?_) ?_
          · go_simp
            refine hK.out _ _ ?_ (fun hHeld => ?_)
            · try dsimp only
              first | exact .inl rfl | exact .inr rfl
            clear hK K
            refine hP ?_
            refine wpAnyH_ready (rs := [3, 6]) (by kernel_rfl) (by simp) ?_
            refine AllReadyH.cons rfl (fun K hK => ?_) ?_
            · go_simp
              refine hK.out _ _ ?_ (fun hHeld => ?_)
              · try dsimp only
                first | exact .inl rfl | exact .inr rfl
              clear hK K
              refine hP ?_
              refine wpAnyH_ready (rs := [6]) (by kernel_rfl) (by simp) ?_
              refine AllReadyH.cons rfl (fun K hK => ?_) ?_
              · go_simp
                refine hK.out _ _ ?_ (fun hHeld => ?_)
                · try dsimp only
                  first | exact .inl rfl | exact .inr rfl
                clear hK K
                refine hP ?_
                refine wpAnyH_ready (rs := [7]) (by kernel_rfl) (by simp) ?_
                refine AllReadyH.cons rfl (fun K hK => ?_) ?_
                · go_simp
                  refine hK.out _ _ ?_ (fun hHeld => ?_)
                  · try dsimp only
                    first | exact .inl rfl | exact .inr rfl
                  clear hK K
                  refine hP ?_
                  refine wpAnyH_done (by kernel_rfl) ?_ _
                  go_wp2
                  go_ret
                  exact ⟨rfl, unhide SD, unhide CD⟩
                exact AllReadyH.nil
              exact AllReadyH.nil
            refine AllReadyH.cons rfl (fun K hK => ?_) ?_
            · go_simp
              refine hK.out _ _ ?_ (fun hHeld => ?_)
              · try dsimp only
                first | exact .inl rfl | exact .inr rfl
              clear hK K
              refine hP ?_
              refine wpAnyH_ready (rs := [3]) (by kernel_rfl) (by simp) ?_
              refine AllReadyH.cons rfl (fun K hK => ?_) ?_
              · go_simp
                refine hK.out _ _ ?_ (fun hHeld => ?_)
                · try dsimp only
                  first | exact .inl rfl | exact .inr rfl
                clear hK K
                refine hP ?_
                refine wpAnyH_ready (rs := [7]) (by kernel_rfl) (by simp) ?_
                refine AllReadyH.cons rfl (fun K hK => ?_) ?_
                · go_simp
                  refine hK.out _ _ ?_ (fun hHeld => ?_)
                  · try dsimp only
                    first | exact .inl rfl | exact .inr rfl
                  clear hK K
                  refine hP ?_
                  refine wpAnyH_done (by kernel_rfl) ?_ _
                  go_wp2
                  go_ret
                  exact ⟨rfl, unhide SD, unhide CD⟩
                exact AllReadyH.nil
              exact AllReadyH.nil
            exact AllReadyH.nil
          refine AllReadyH.cons rfl (fun K hK => ?_) ?_
          · go_simp
            refine hK.out _ _ ?_ (fun hHeld => ?_)
            · try dsimp only
              first | exact .inl rfl | exact .inr rfl
            clear hK K
            refine hP ?_
            refine wpAnyH_ready (rs := [3, 5]) (by kernel_rfl) (by simp) ?_
            refine AllReadyH.cons rfl (fun K hK => ?_) ?_
            · go_simp
              refine hK.out _ _ ?_ (fun hHeld => ?_)
              · try dsimp only
                first | exact .inl rfl | exact .inr rfl
              clear hK K
              refine hP ?_
              refine wpAnyH_ready (rs := [5]) (by kernel_rfl) (by simp) ?_
              refine AllReadyH.cons rfl (fun K hK => ?_) ?_
              · go_simp
                refine hK.out _ _ ?_ (fun hHeld => ?_)
                · try dsimp only
                  first | exact .inl rfl | exact .inr rfl
                clear hK K
                refine hP ?_
                refine wpAnyH_ready (rs := [7]) (by kernel_rfl) (by simp) ?_
                refine AllReadyH.cons rfl (fun K hK => ?_) ?_
                · go_simp
                  refine hK.out _ _ ?_ (fun hHeld => ?_)
                  · try dsimp only
                    first | exact .inl rfl | exact .inr rfl
                  clear hK K
                  refine hP ?_
                  refine wpAnyH_done (by kernel_rfl) ?_ _
                  go_wp2
                  go_ret
                  exact ⟨rfl, unhide SD, unhide CD⟩
                exact AllReadyH.nil
              exact AllReadyH.nil
            refine AllReadyH.cons rfl (fun K hK => ?_) ?_
            · go_simp
              refine hK.out _ _ ?_ (fun hHeld => ?_)
              · try dsimp only
                first | exact .inl rfl | exact .inr rfl
              clear hK K
              refine hP ?_
              refine wpAnyH_ready (rs := [3]) (by kernel_rfl) (by simp) ?_
              refine AllReadyH.cons rfl (fun K hK => ?_) ?_
              · go_simp
                refine hK.out _ _ ?_ (fun hHeld => ?_)
                · try dsimp only
                  first | exact .inl rfl | exact .inr rfl
                clear hK K
                refine hP ?_
                refine wpAnyH_ready (rs := [7]) (by kernel_rfl) (by simp) ?_
                refine AllReadyH.cons rfl (fun K hK => ?_) ?_
                · go_simp
                  refine hK.out _ _ ?_ (fun hHeld => ?_)
                  · try dsimp only
                    first | exact .inl rfl | exact .inr rfl
                  clear hK K
                  refine hP ?_
                  refine wpAnyH_done (by kernel_rfl) ?_ _
                  go_wp2
                  go_ret
                  exact ⟨rfl, unhide SD, unhide CD⟩
                exact AllReadyH.nil
              exact AllReadyH.nil
            exact AllReadyH.nil
          exact AllReadyH.nil
    exact AllReadyH.nil
  exact AllReadyH.nil
end Go.Proofs.YtpkpnedcecjlbaaGreatDoor
