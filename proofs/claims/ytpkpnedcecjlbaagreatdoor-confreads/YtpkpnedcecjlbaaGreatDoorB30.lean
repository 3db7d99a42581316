/- Conf: Do. -/
import Derived.Test.YtpkpnedcecjlbaaGreatDoorB29
namespace Go.Proofs.YtpkpnedcecjlbaaGreatDoor
open Go.ChangeShapes Go.WideShapes Go.ChangeAt Go.RowKit
set_option linter.unusedVariables false

theorem made_size {s : ByteArray} {m : Nat} {f : UInt8 → Bool} (h : madeT s m f = true) : s.size ≤ m := by
  unfold madeT at h
  simp only [Bool.and_eq_true, decide_eq_true_eq] at h
  exact h.1.2
theorem check_parts {c : Cmd} (h : checkC c = 0) : numsOk c = true ∧ unusedOk c = true ∧ namesOk c = true ∧ wtsOk c.ts = true ∧ c.ts.length ≤ 16 := by
  unfold checkC at h
  split at h
  · rename_i h1
    split at h
    · rename_i h2
      split at h
      · rename_i h3
        split at h
        · cases h
        · simp only [Bool.and_eq_true] at h1
          exact ⟨h1.1, h1.2, h2, h3, by omega⟩
      · cases h
    · cases h
  · cases h
theorem check_small {c : Cmd} (h : checkC c = 0) : SmallCmd c := by
  obtain ⟨h1, h2, h3, h4, h5⟩ := check_parts h
  unfold unusedOk at h2
  unfold namesOk at h3
  simp only [Bool.and_eq_true, Bool.or_eq_true, Bool.not_eq_true', decide_eq_true_eq, decide_eq_false_iff_not] at h2 h3
  have hh : c.host.size ≤ 64 ∧ c.pre.size ≤ 128 := by
    rcases h3.1.1 with e | e
    · rcases h2.1.1 with e2 | e2
      · rw [e] at e2; cases e2
      · omega
    · refine ⟨?_, ?_⟩
      · have := e.1; unfold hostT at this; simp only [Bool.and_eq_true, decide_eq_true_eq] at this; exact this.1
      · have := e.2; unfold prefT at this; simp only [Bool.and_eq_true] at this; exact made_size this.1
  have hl : c.pool.size ≤ 64 := by
    rcases h3.1.2 with e | e
    · rcases h2.1.2 with e2 | e2
      · exact absurd e e2
      · omega
    · exact made_size e
  exact ⟨by omega, by omega, by omega, by omega, fun t ht => by
    have := List.all_eq_true.1 h3.2 t ht
    have := made_size this
    omega⟩
def tellS (c : Cmd) (x : Sm) : Ls := (lget lid c.cli x.cl).getD ⟨c.cli, 0, 0, 0⟩
/-- What a command comes to. -/
def doS (c : Cmd) (a' : Option Addr) (tc' : Nat) (x : Sm) : (Int × Int) × Sm :=
  if checkC c ≠ 0 then ((((checkC c : Nat) : Int), x.ver), x)
  else if c.cli = 0 then doneS (actS c a' tc' x)
  else if c.seq = (tellS c x).seq then (((tellS c x).e, (tellS c x).ver), x)
  else if c.seq < (tellS c x).seq then ((12, x.ver), x)
  else ((doneS (actS c a' tc' x)).1, { (doneS (actS c a' tc' x)).2 with cl := lput lid ⟨c.cli, c.seq, (doneS (actS c a' tc' x)).1.1, (doneS (actS c a' tc' x)).1.2⟩ (doneS (actS c a' tc' x)).2.cl })
theorem doneS_cl (c : Cmd) (a' : Option Addr) (tc' : Nat) (x : Sm) : (doneS (actS c a' tc' x)).2.cl = x.cl := by
  have h : (actS c a' tc' x).2.cl = x.cl := by
    unfold actS putPS dropPS putRS dropRS
    repeat' split
    all_goals rfl
  unfold doneS
  split <;> exact h
set_option maxRecDepth 20000 in
set_option maxHeartbeats 16000000 in
theorem do_calls {w : World} {h : StH} {x : Sm} (s : StAt w h x) (hx : SmOk x) (hv : x.ver + 1 ≤ 9223372036854775807) (c : Cmd) (a : Option Addr) (tc : Nat) (hc : CmdAt w c a tc) (hm : Mx w) :
    Calls Tryz.prog 22 #[.pointer (some ⟨h.S, 0, none⟩), cmdVal c a tc] w fun e w' => ∃ a' tc', e = .returned (.agg #[.int .i64 (doS c a' tc' x).1.1, .int .i64 (doS c a' tc' x).1.2]) ∧ StAt w' h (doS c a' tc' x).2 ∧ Chg h w w' := by
  have b1 : Below w.heap.size w (w.alloc (.cells (cmdRow c a tc) 25)) := (Below.refl _ _).alloc (Nat.le_refl _) _
  have b2 := b1.alloc b1.size (.cells #[.int .i64 0, .int .i64 0] 56)
  have s1 : (w.alloc (.cells (cmdRow c a tc) 25)).heap.size = w.heap.size + 1 := by simp
  have X1 := hide (show ((w.alloc (.cells (cmdRow c a tc) 25)).alloc (.cells #[.int .i64 0, .int .i64 0] 56)).heap[w.heap.size]? = some (.cells (cmdRow c a tc) 25 (0, 0)) by rw [Below.heap_alloc _ _ _ (by simp)]; exact heap_new _ _)
  have X2 := hide (show ((w.alloc (.cells (cmdRow c a tc) 25)).alloc (.cells #[.int .i64 0, .int .i64 0] 56)).heap[w.heap.size + 1]? = some (.cells #[.int .i64 0, .int .i64 0] 56 (0, 0)) by rw [← s1]; exact heap_new _ _)
  have Z2 := hide (show ((w.alloc (.cells (cmdRow c a tc) 25)).alloc (.cells #[.int .i64 0, .int .i64 0] 56)).heap.size = w.heap.size + 2 by simp)
  have B2 := hide b2
  have LT := hide s.lts
  have L1 := hide (show h.S ≠ w.heap.size + 1 by have := s.lts.1; omega)
  have CC := hide (check_calls c a tc _ (hc.later b2) (hm.later b2))
  have SM := hide (fun e : checkC c = 0 => check_small e)
  have CB := hide (fun e : checkC c = 0 => (check_parts e).1)
  have DO := hide (fun a' tc' => show doS c a' tc' x = (if checkC c ≠ 0 then ((((checkC c : Nat) : Int), x.ver), x)
    else if c.cli = 0 then doneS (actS c a' tc' x)
    else if c.seq = (tellS c x).seq then (((tellS c x).e, (tellS c x).ver), x)
    else if c.seq < (tellS c x).seq then ((12, x.ver), x)
    else ((doneS (actS c a' tc' x)).1, { (doneS (actS c a' tc' x)).2 with cl := lput lid ⟨c.cli, c.seq, (doneS (actS c a' tc' x)).1.1, (doneS (actS c a' tc' x)).1.2⟩ (doneS (actS c a' tc' x)).2.cl })) from rfl)
  have HC := hide hc
  have DN := hide (fun (W : World) (hb : Below w.heap.size w W) (e : checkC c = 0) => done_calls (s.later hb) hx hv c a tc (hc.later hb) (unhide SM e))
  have LK := hide (fun (W : World) (hb : Below w.heap.size w W) => lookC (s.later hb) c.cli hc.ic)
  have CL := hide (fun a' tc' => doneS_cl c a' tc' x)
  have hv2 := hx.ver.1
  have hck : checkC c ≤ 15 := by
    unfold checkC
    repeat' split
    all_goals omega
  obtain ⟨i1, i2⟩ := hc.ic
  obtain ⟨i3, i4⟩ := hc.is
  clear b1 b2 s1 hc
  have TL := hide (show tellS c x = (lget lid c.cli x.cl).getD ⟨c.cli, 0, 0, 0⟩ from rfl)
  rw [← unhide TL] at LK
  unfold cmdRow at *
  unfold cmdVal at *
  generalize tellS c x = tl at *
  generalize doS c = DD at *
  generalize hdn : (fun a' tc' => doneS (actS c a' tc' x)) = DS at *
  have DS1 := hide (fun a' tc' => show doneS (actS c a' tc' x) = DS a' tc' from by rw [← hdn])
  clear hdn TL
  simp only [unhide DS1] at DO DN CL
  clear DS1
  generalize checkC c = ck at *
  generalize hnum : numsOk c = nb at *
  obtain ⟨act, cli, seq, exp, host, pre, pool, ts⟩ := c
  obtain ⟨ti, tseq, te, tver⟩ := tl
  simp only [lsV] at *
  have k0 := fcell0 (unhide X1) 0 _ rfl
  have k1 := fcell0 (unhide X1) 1 _ rfl
  have k2 := fcell0 (unhide X1) 2 _ rfl
  have k3 := fcell0 (unhide X1) 3 _ rfl
  have k4 := fcell0 (unhide X1) 4 _ rfl
  have k5 := fcell0 (unhide X1) 5 _ rfl
  have k6 := fcell0 (unhide X1) 6 _ rfl
  have k7 := fcell0 (unhide X1) 7 _ rfl
  go_enter Tryz.func22, Tryz.ntmps22
  go_wp2_with fail
  generalize ((w.alloc (.cells #[.int .i64 act, .int .i64 cli, .int .i64 seq, .int .i64 exp, .string host, .string pre, .string pool, .slice a ts.length tc] 25)).alloc (.cells #[.int .i64 0, .int .i64 0] 56)) = V at *
  have HK := hide (show ∀ W : World, W.heap[w.heap.size]? = V.heap[w.heap.size]? → W.cell? ⟨w.heap.size, 0, none⟩ = some (.int .i64 act) ∧ W.cell? ⟨w.heap.size, 1, none⟩ = some (.int .i64 cli) ∧ W.cell? ⟨w.heap.size, 2, none⟩ = some (.int .i64 seq) ∧ W.cell? ⟨w.heap.size, 3, none⟩ = some (.int .i64 exp) ∧ W.cell? ⟨w.heap.size, 4, none⟩ = some (.string host) ∧ W.cell? ⟨w.heap.size, 5, none⟩ = some (.string pre) ∧ W.cell? ⟨w.heap.size, 6, none⟩ = some (.string pool) ∧ W.cell? ⟨w.heap.size, 7, none⟩ = some (.slice a ts.length tc) from fun W hb => ⟨(World.cell?_of_block hb).trans k0, (World.cell?_of_block hb).trans k1, (World.cell?_of_block hb).trans k2, (World.cell?_of_block hb).trans k3, (World.cell?_of_block hb).trans k4, (World.cell?_of_block hb).trans k5, (World.cell?_of_block hb).trans k6, (World.cell?_of_block hb).trans k7⟩)
  clear k0 k1 k2 k3 k4 k5 k6 k7
  refine (unhide CC).mono ?_
  rintro e U ⟨rfl, hbU⟩
  have bU := hide ((unhide B2).trans (hbU.mono (unhide B2).size))
  have RU := hide (later_block hbU (unhide X2))
  have KU := hide (show U.heap[w.heap.size]? = V.heap[w.heap.size]? from hbU.block _ (by have := unhide Z2; omega))
  have UZ := hide (show w.heap.size + 2 ≤ U.heap.size by have := unhide Z2; have := hbU.size; omega)
  have SU := hide (s.later (unhide bU))
  have CU := hide (Chg.below (h := h) (unhide bU))
  have u0 := (unhide SU).cell.1
  have u3 := (unhide SU).cell.2.2.2
  clear hbU CC X1 X2 Z2
  obtain ⟨k0, k1, k2, k3, k4, k5, k6, k7⟩ := unhide HK _ (unhide KU)
  by_cases hck0 : ck = 0
  · subst hck0
    by_cases hcli : cli = 0
    · as_aux_lemma =>
      subst hcli
      have hd : ∀ a' tc', DD a' tc' x = DS a' tc' := fun a' tc' => by rw [unhide DO]; simp
      have HD := hide hd
      have DC := hide (unhide DN U (unhide bU) rfl)
      clear hd DO DN
      go_wp2_with fail
      refine (unhide DC).mono ?_
      rintro e U2 ⟨a', tc', rfl, sd, cd⟩
      generalize hds : DS a' tc' = ds at *
      have HS := hide hds
      obtain ⟨⟨re, rv⟩, y⟩ := ds
      simp only at sd ⊢
      have LT2 := unhide LT
      have R2 := hide (show U2.heap[w.heap.size + 1]? = some (.cells #[.int .i64 0, .int .i64 0] 56 (0, 0)) from (cd.block _ (by have := unhide UZ; omega) (by omega) (by omega) (by omega) (by omega)).trans (unhide RU))
      have SD := hide sd
      have CD := hide ((unhide CU).trans cd)
      clear sd cd hds DC k0 k1 k2 k3 k4 k5 k6 k7 u0 u3 LT2
      have z0 := fcell0 (unhide R2) 0 _ rfl
      have z1 := fcell0 (unhide R2) 1 _ rfl
      have f0 : U2.frozen? ⟨w.heap.size + 1, 0, none⟩ = false := by simp [World.frozen?, unhide R2]
      have f1 : U2.frozen? ⟨w.heap.size + 1, 1, none⟩ = false := by simp [World.frozen?, unhide R2]
      obtain ⟨a1, a2⟩ := set2 (x := .int .i64 re) (y := .int .i64 rv) (unhide R2)
      have A1 := hide a1
      have FS := hide ((unhide SD).aside a2 (unhide R2) (res_text _ _) (unhide L1))
      have FC := hide ((unhide CD).newer a2 (by omega))
      clear a1 a2
      go_wp2
      generalize ((U2.setCell ⟨w.heap.size + 1, 0, none⟩ (.int .i64 re)).setCell ⟨w.heap.size + 1, 1, none⟩ (.int .i64 rv)) = W9 at *
      clear z0 z1 f0 f1
      have o0 : W9.cell? ⟨w.heap.size + 1, 0, none⟩ = some (.int .i64 re) := fcell0 (unhide A1) 0 _ rfl
      have o1 : W9.cell? ⟨w.heap.size + 1, 1, none⟩ = some (.int .i64 rv) := fcell0 (unhide A1) 1 _ rfl
      exact bodyPost_ret (v := .agg #[.int .i64 re, .int .i64 rv]) (by simp [results, Tryz.results22, go_sem, o0, o1]) rfl ⟨a', tc', by rw [unhide HD, unhide HS], by rw [unhide HD, unhide HS]; exact unhide FS, unhide FC⟩
    · by_cases hsq : seq = tseq
      · as_aux_lemma =>
        subst hsq
        have hd : DD none 0 x = ((te, tver), x) := by rw [unhide DO]; simp [hcli]
        have HD := hide hd
        have F := hide (show Below U.heap.size U U.drew from (Below.refl _ _).drew)
        have SS := hide (show ∀ W : World, Below U.heap.size U W → W.cell? ⟨h.S, 3, none⟩ = some (.map (some h.C)) ∧ W.cell? ⟨w.heap.size, 1, none⟩ = some (.int .i64 cli) ∧ (Instr.lookup 84 (.map (some h.C)) (.int .i64 cli) false).run Tryz.prog W = .ok (.agg #[.int .i64 seq, .int .i64 te, .int .i64 tver]) W from fun W hb => ⟨((unhide SU).later hb).cell.2.2.2, cell_later hb k1, unhide LK W ((unhide bU).trans (hb.mono (unhide bU).size))⟩)
        clear hd DO DN
        go_wp2_with fail
        refine wp_region_held_drew (S := fun w' => w'.cell? ⟨h.S, 3, none⟩ = some (.map (some h.C)) ∧ w'.cell? ⟨w.heap.size, 1, none⟩ = some (.int .i64 cli) ∧ (Instr.lookup 84 (.map (some h.C)) (.int .i64 cli) false).run Tryz.prog w' = .ok (.agg #[.int .i64 seq, .int .i64 te, .int .i64 tver]) w') (by kernel_rfl) ?_ (fun hHeld => ?_)
        · try dsimp only
          exact unhide SS _ (unhide F)
        refine hT 0 ?_
        refine hT 1 ?_
        refine hT 2 ?_
        refine hT 3 ?_
        refine hT 4 ?_
        refine hT 5 ?_
        refine hT 6 ?_
        refine wpAnyH_ready (rs := [7]) (by kernel_rfl) (by simp) ?_
        refine AllReadyH.cons rfl (fun K hK => ?_) ?_
        · refine step_zL rfl rfl ?_
          intro E U3 hE hEn hb
          have LE := hide (show U.heap.size ≤ E by rw [← hE]; exact (unhide F).size)
          have HE := hide hEn
          have F := hide ((unhide F).trans (hb.mono (unhide F).size))
          clear hE hEn hb
          refine hK.out _ _ ?_ (fun hHeld => ?_)
          · try dsimp only
            exact unhide SS _ (unhide F)
          clear hK K
          refine hP ?_
          refine wpAnyH_ready (rs := [8]) (by kernel_rfl) (by simp) ?_
          refine AllReadyH.cons rfl (fun K hK => ?_) ?_
          · have z0 := fcell0 (unhide HE) 0 _ rfl
            have z1 := fcell0 (unhide HE) 1 _ rfl
            have z2 := fcell0 (unhide HE) 2 _ rfl
            have f0 : U3.frozen? ⟨E, 0, none⟩ = false := by simp [World.frozen?, unhide HE]
            have f1 : U3.frozen? ⟨E, 1, none⟩ = false := by simp [World.frozen?, unhide HE]
            have f2 : U3.frozen? ⟨E, 2, none⟩ = false := by simp [World.frozen?, unhide HE]
            have a1 := set3 (x := .int .i64 seq) (y := .int .i64 te) (z := .int .i64 tver) (unhide HE)
            have HE2 := hide a1.1
            have F := hide ((unhide F).grown a1.2 (unhide F).size (fun g e => by have := Option.some.inj e; have := unhide LE; omega))
            clear a1
            go_simp
            clear z0 z1 z2 f0 f1 f2
            refine hK.out _ _ ?_ (fun hHeld => ?_)
            · try dsimp only
              exact unhide SS _ (unhide F)
            clear hK K
            refine hP ?_
            refine wpAnyH_done (by kernel_rfl) ?_ _
            generalize (((U3.setCell ⟨E, 0, none⟩ (.int .i64 seq)).setCell ⟨E, 1, none⟩ (.int .i64 te)).setCell ⟨E, 2, none⟩ (.int .i64 tver)) = U4 at *
            clear hHeld HE LE
            have e0 := fcell0 (unhide HE2) 0 _ rfl
            have e1 := fcell0 (unhide HE2) 1 _ rfl
            have e2 := fcell0 (unhide HE2) 2 _ rfl
            have q2 := cell_later (unhide F) k2
            have R2 := hide (later_block (unhide F) (unhide RU))
            have SD := hide ((unhide SU).later (unhide F))
            have CD := hide ((unhide CU).trans (Chg.below (unhide F)))
            clear k0 k1 k2 k3 k4 k5 k6 k7 u0 u3
            have z0 := fcell0 (unhide R2) 0 _ rfl
            have z1 := fcell0 (unhide R2) 1 _ rfl
            have f0 : U4.frozen? ⟨w.heap.size + 1, 0, none⟩ = false := by simp [World.frozen?, unhide R2]
            have f1 : U4.frozen? ⟨w.heap.size + 1, 1, none⟩ = false := by simp [World.frozen?, unhide R2]
            obtain ⟨a1, a2⟩ := set2 (x := .int .i64 te) (y := .int .i64 tver) (unhide R2)
            have A1 := hide a1
            have FS := hide ((unhide SD).aside a2 (unhide R2) (res_text _ _) (unhide L1))
            have FC := hide ((unhide CD).newer a2 (by omega))
            clear a1 a2
            go_wp2
            generalize ((U4.setCell ⟨w.heap.size + 1, 0, none⟩ (.int .i64 te)).setCell ⟨w.heap.size + 1, 1, none⟩ (.int .i64 tver)) = W9 at *
            clear z0 z1 f0 f1
            have o0 : W9.cell? ⟨w.heap.size + 1, 0, none⟩ = some (.int .i64 te) := fcell0 (unhide A1) 0 _ rfl
            have o1 : W9.cell? ⟨w.heap.size + 1, 1, none⟩ = some (.int .i64 tver) := fcell0 (unhide A1) 1 _ rfl
            exact bodyPost_ret (v := .agg #[.int .i64 te, .int .i64 tver]) (by simp [results, Tryz.results22, go_sem, o0, o1]) rfl ⟨none, 0, by rw [unhide HD], by rw [unhide HD]; exact unhide FS, unhide FC⟩
          exact AllReadyH.nil
        exact AllReadyH.nil
      · by_cases hlt : seq < tseq
        · as_aux_lemma =>
          have hd : DD none 0 x = ((12, x.ver), x) := by rw [unhide DO]; simp [hcli, hsq, hlt]
          have HD := hide hd
          have F := hide (show Below U.heap.size U U.drew from (Below.refl _ _).drew)
          have SS := hide (show ∀ W : World, Below U.heap.size U W → W.cell? ⟨h.S, 3, none⟩ = some (.map (some h.C)) ∧ W.cell? ⟨w.heap.size, 1, none⟩ = some (.int .i64 cli) ∧ (Instr.lookup 84 (.map (some h.C)) (.int .i64 cli) false).run Tryz.prog W = .ok (.agg #[.int .i64 tseq, .int .i64 te, .int .i64 tver]) W from fun W hb => ⟨((unhide SU).later hb).cell.2.2.2, cell_later hb k1, unhide LK W ((unhide bU).trans (hb.mono (unhide bU).size))⟩)
          clear hd DO DN
          go_wp2_with fail
          refine wp_region_held_drew (S := fun w' => w'.cell? ⟨h.S, 3, none⟩ = some (.map (some h.C)) ∧ w'.cell? ⟨w.heap.size, 1, none⟩ = some (.int .i64 cli) ∧ (Instr.lookup 84 (.map (some h.C)) (.int .i64 cli) false).run Tryz.prog w' = .ok (.agg #[.int .i64 tseq, .int .i64 te, .int .i64 tver]) w') (by kernel_rfl) ?_ (fun hHeld => ?_)
          · try dsimp only
            exact unhide SS _ (unhide F)
          refine hT 0 ?_
          refine hT 1 ?_
          refine hT 2 ?_
          refine hT 3 ?_
          refine hT 4 ?_
          refine hT 5 ?_
          refine hT 6 ?_
          refine wpAnyH_ready (rs := [7]) (by kernel_rfl) (by simp) ?_
          refine AllReadyH.cons rfl (fun K hK => ?_) ?_
          · refine step_zL rfl rfl ?_
            intro E U3 hE hEn hb
            have LE := hide (show U.heap.size ≤ E by rw [← hE]; exact (unhide F).size)
            have HE := hide hEn
            have F := hide ((unhide F).trans (hb.mono (unhide F).size))
            clear hE hEn hb
            refine hK.out _ _ ?_ (fun hHeld => ?_)
            · try dsimp only
              exact unhide SS _ (unhide F)
            clear hK K
            refine hP ?_
            refine wpAnyH_ready (rs := [8]) (by kernel_rfl) (by simp) ?_
            refine AllReadyH.cons rfl (fun K hK => ?_) ?_
            · have z0 := fcell0 (unhide HE) 0 _ rfl
              have z1 := fcell0 (unhide HE) 1 _ rfl
              have z2 := fcell0 (unhide HE) 2 _ rfl
              have f0 : U3.frozen? ⟨E, 0, none⟩ = false := by simp [World.frozen?, unhide HE]
              have f1 : U3.frozen? ⟨E, 1, none⟩ = false := by simp [World.frozen?, unhide HE]
              have f2 : U3.frozen? ⟨E, 2, none⟩ = false := by simp [World.frozen?, unhide HE]
              have a1 := set3 (x := .int .i64 tseq) (y := .int .i64 te) (z := .int .i64 tver) (unhide HE)
              have HE2 := hide a1.1
              have F := hide ((unhide F).grown a1.2 (unhide F).size (fun g e => by have := Option.some.inj e; have := unhide LE; omega))
              clear a1
              go_simp
              clear z0 z1 z2 f0 f1 f2
              refine hK.out _ _ ?_ (fun hHeld => ?_)
              · try dsimp only
                exact unhide SS _ (unhide F)
              clear hK K
              refine hP ?_
              refine wpAnyH_done (by kernel_rfl) ?_ _
              generalize (((U3.setCell ⟨E, 0, none⟩ (.int .i64 tseq)).setCell ⟨E, 1, none⟩ (.int .i64 te)).setCell ⟨E, 2, none⟩ (.int .i64 tver)) = U4 at *
              clear hHeld HE LE
              have e0 := fcell0 (unhide HE2) 0 _ rfl
              have q2 := cell_later (unhide F) k2
              have q0 := cell_later (unhide F) u0
              have R2 := hide (later_block (unhide F) (unhide RU))
              have SD := hide ((unhide SU).later (unhide F))
              have CD := hide ((unhide CU).trans (Chg.below (unhide F)))
              clear k0 k1 k2 k3 k4 k5 k6 k7 u0 u3
              have z0 := fcell0 (unhide R2) 0 _ rfl
              have z1 := fcell0 (unhide R2) 1 _ rfl
              have f0 : U4.frozen? ⟨w.heap.size + 1, 0, none⟩ = false := by simp [World.frozen?, unhide R2]
              have f1 : U4.frozen? ⟨w.heap.size + 1, 1, none⟩ = false := by simp [World.frozen?, unhide R2]
              obtain ⟨a1, a2⟩ := set2 (x := .int .i64 12) (y := .int .i64 x.ver) (unhide R2)
              have A1 := hide a1
              have FS := hide ((unhide SD).aside a2 (unhide R2) (res_text _ _) (unhide L1))
              have FC := hide ((unhide CD).newer a2 (by omega))
              clear a1 a2
              go_wp2
              generalize ((U4.setCell ⟨w.heap.size + 1, 0, none⟩ (.int .i64 12)).setCell ⟨w.heap.size + 1, 1, none⟩ (.int .i64 x.ver)) = W9 at *
              clear z0 z1 f0 f1
              have o0 : W9.cell? ⟨w.heap.size + 1, 0, none⟩ = some (.int .i64 12) := fcell0 (unhide A1) 0 _ rfl
              have o1 : W9.cell? ⟨w.heap.size + 1, 1, none⟩ = some (.int .i64 x.ver) := fcell0 (unhide A1) 1 _ rfl
              exact bodyPost_ret (v := .agg #[.int .i64 12, .int .i64 x.ver]) (by simp [results, Tryz.results22, go_sem, o0, o1]) rfl ⟨none, 0, by rw [unhide HD], by rw [unhide HD]; exact unhide FS, unhide FC⟩
            exact AllReadyH.nil
          exact AllReadyH.nil
        · as_aux_lemma =>
          have hd : ∀ a' tc', DD a' tc' x = ((DS a' tc').1, { (DS a' tc').2 with cl := lput lid ⟨cli, seq, (DS a' tc').1.1, (DS a' tc').1.2⟩ (DS a' tc').2.cl }) := fun a' tc' => by rw [unhide DO]; simp [hcli, hsq, hlt]
          have HD := hide hd
          have F := hide (show Below U.heap.size U U.drew from (Below.refl _ _).drew)
          have SS := hide (show ∀ W : World, Below U.heap.size U W → W.cell? ⟨h.S, 3, none⟩ = some (.map (some h.C)) ∧ W.cell? ⟨w.heap.size, 1, none⟩ = some (.int .i64 cli) ∧ (Instr.lookup 84 (.map (some h.C)) (.int .i64 cli) false).run Tryz.prog W = .ok (.agg #[.int .i64 tseq, .int .i64 te, .int .i64 tver]) W from fun W hb => ⟨((unhide SU).later hb).cell.2.2.2, cell_later hb k1, unhide LK W ((unhide bU).trans (hb.mono (unhide bU).size))⟩)
          clear hd DO
          go_wp2_with fail
          refine wp_region_held_drew (S := fun w' => w'.cell? ⟨h.S, 3, none⟩ = some (.map (some h.C)) ∧ w'.cell? ⟨w.heap.size, 1, none⟩ = some (.int .i64 cli) ∧ (Instr.lookup 84 (.map (some h.C)) (.int .i64 cli) false).run Tryz.prog w' = .ok (.agg #[.int .i64 tseq, .int .i64 te, .int .i64 tver]) w') (by kernel_rfl) ?_ (fun hHeld => ?_)
          · try dsimp only
            exact unhide SS _ (unhide F)
          refine hT 0 ?_
          refine hT 1 ?_
          refine hT 2 ?_
          refine hT 3 ?_
          refine hT 4 ?_
          refine hT 5 ?_
          refine hT 6 ?_
          refine wpAnyH_ready (rs := [7]) (by kernel_rfl) (by simp) ?_
          refine AllReadyH.cons rfl (fun K hK => ?_) ?_
          · refine step_zL rfl rfl ?_
            intro E U3 hE hEn hb
            have LE := hide (show U.heap.size ≤ E by rw [← hE]; exact (unhide F).size)
            have HE := hide hEn
            have F := hide ((unhide F).trans (hb.mono (unhide F).size))
            clear hE hEn hb
            refine hK.out _ _ ?_ (fun hHeld => ?_)
            · try dsimp only
              exact unhide SS _ (unhide F)
            clear hK K
            refine hP ?_
            refine wpAnyH_ready (rs := [8]) (by kernel_rfl) (by simp) ?_
            refine AllReadyH.cons rfl (fun K hK => ?_) ?_
            · have z0 := fcell0 (unhide HE) 0 _ rfl
              have z1 := fcell0 (unhide HE) 1 _ rfl
              have z2 := fcell0 (unhide HE) 2 _ rfl
              have f0 : U3.frozen? ⟨E, 0, none⟩ = false := by simp [World.frozen?, unhide HE]
              have f1 : U3.frozen? ⟨E, 1, none⟩ = false := by simp [World.frozen?, unhide HE]
              have f2 : U3.frozen? ⟨E, 2, none⟩ = false := by simp [World.frozen?, unhide HE]
              have a1 := set3 (x := .int .i64 tseq) (y := .int .i64 te) (z := .int .i64 tver) (unhide HE)
              have HE2 := hide a1.1
              have F := hide ((unhide F).grown a1.2 (unhide F).size (fun g e => by have := Option.some.inj e; have := unhide LE; omega))
              clear a1
              go_simp
              clear z0 z1 z2 f0 f1 f2
              refine hK.out _ _ ?_ (fun hHeld => ?_)
              · try dsimp only
                exact unhide SS _ (unhide F)
              clear hK K
              refine hP ?_
              refine wpAnyH_done (by kernel_rfl) ?_ _
              generalize (((U3.setCell ⟨E, 0, none⟩ (.int .i64 tseq)).setCell ⟨E, 1, none⟩ (.int .i64 te)).setCell ⟨E, 2, none⟩ (.int .i64 tver)) = U4 at *
              clear hHeld HE LE
              have e0 := fcell0 (unhide HE2) 0 _ rfl
              have K4 := hide (show U4.heap[w.heap.size]? = V.heap[w.heap.size]? from ((unhide F).block _ (by have := unhide UZ; omega)).trans (unhide KU))
              clear k0 k1 k2 k3 k4 k5 k6 k7
              obtain ⟨k0, k1, k2, k3, k4, k5, k6, k7⟩ := unhide HK _ (unhide K4)
              have R2 := hide (later_block (unhide F) (unhide RU))
              have CD := hide ((unhide CU).trans (Chg.below (unhide F)))
              have FZ := hide (unhide F).size
              have DC := hide (unhide DN U4 ((unhide bU).trans ((unhide F).mono (unhide bU).size)) (by first | exact rfl | trivial))
              clear DN u0 u3
              go_wp2_with fail
              refine (unhide DC).mono ?_
              rintro e U5 ⟨a', tc', rfl, sd, cd⟩
              generalize hds : DS a' tc' = ds at *
              have HS := hide hds
              have hy := unhide CL a' tc'
              rw [hds] at hy
              obtain ⟨⟨re, rv⟩, y⟩ := ds
              simp only at sd hy ⊢
              have hyl : y.cl.length ≤ 1000 := by rw [hy]; exact hx.cn
              obtain ⟨t1, t2, t3, t4⟩ := unhide LT
              have K5 := hide ((cd.block w.heap.size (by have := unhide UZ; have := unhide FZ; omega) (by omega) (by omega) (by omega) (by omega)).trans (unhide K4))
              have R5 := hide ((cd.block (w.heap.size + 1) (by have := unhide UZ; have := unhide FZ; omega) (by omega) (by omega) (by omega) (by omega)).trans (unhide R2))
              have b6 := hide (show Below U5.heap.size U5 (U5.alloc (.cells #[.int .i64 re, .int .i64 rv] 56)) from (Below.refl _ _).alloc (Nat.le_refl _) _)
              have X6 := hide (heap_new U5 (.cells #[.int .i64 re, .int .i64 rv] 56))
              have S6 := hide (sd.later (unhide b6))
              have R6 := hide (later_block (unhide b6) (unhide R5))
              have U5Z := hide (show w.heap.size + 2 ≤ U5.heap.size by have := unhide UZ; have := unhide FZ; have := cd.size; omega)
              have K6 := hide (((unhide b6).block w.heap.size (by have := unhide U5Z; omega)).trans (unhide K5))
              have C6 := hide (((unhide CD).trans cd).trans (Chg.below (unhide b6)))
              clear sd cd hds DC hy k0 k1 k2 k3 k4 k5 k6 k7 e0 t1 t2 t3 t4
              go_wp2_with fail
              generalize hT7 : U5.heap.size = T7 at *
              have Z6 := hide (show T7 < (U5.alloc (.cells #[.int .i64 re, .int .i64 rv] 56)).heap.size from (Array.getElem?_eq_some_iff.1 (unhide X6)).1)
              generalize U5.alloc (.cells #[.int .i64 re, .int .i64 rv] 56) = U6 at *
              obtain ⟨W3, hput, sd3, cd3⟩ := ((unhide S6).later (Below.refl _ _).drew).putC ⟨cli, seq, re, rv⟩ ⟨i1, i2⟩ hyl
              simp only at hput
              have KB := hide (show U6.drew.cell? ⟨h.S, 3, none⟩ = some (.map (some h.C)) ∧ U6.drew.cell? ⟨w.heap.size, 1, none⟩ = some (.int .i64 cli) ∧ U6.drew.cell? ⟨w.heap.size, 2, none⟩ = some (.int .i64 seq) ∧ U6.drew.cell? ⟨T7, 0, none⟩ = some (.int .i64 re) ∧ U6.drew.cell? ⟨T7, 1, none⟩ = some (.int .i64 rv) from
                ⟨(unhide S6).cell.2.2.2, (unhide HK U6 (unhide K6)).2.1, (unhide HK U6 (unhide K6)).2.2.1, fcell0 (unhide X6) 0 _ rfl, fcell0 (unhide X6) 1 _ rfl⟩)
              have KC := hide (show W3.cell? ⟨h.S, 3, none⟩ = some (.map (some h.C)) ∧ W3.cell? ⟨w.heap.size, 1, none⟩ = some (.int .i64 cli) ∧ W3.cell? ⟨w.heap.size, 2, none⟩ = some (.int .i64 seq) ∧ W3.cell? ⟨T7, 0, none⟩ = some (.int .i64 re) ∧ W3.cell? ⟨T7, 1, none⟩ = some (.int .i64 rv) by
                obtain ⟨t1, t2, t3, t4⟩ := unhide LT
                obtain ⟨_, q1, q2, q3, q4⟩ := unhide KB
                have hz := unhide Z6
                have hu := unhide U5Z
                have hb : W3.heap[w.heap.size]? = U6.drew.heap[w.heap.size]? := cd3.block _ (show _ < U6.heap.size by omega) (by omega) (by omega) (by omega) (by omega)
                have ht : W3.heap[T7]? = U6.drew.heap[T7]? := cd3.block _ (show _ < U6.heap.size by omega) (by omega) (by omega) (by omega) (by omega)
                exact ⟨sd3.cell.2.2.2, (World.cell?_of_block hb).trans q1, (World.cell?_of_block hb).trans q2, (World.cell?_of_block ht).trans q3, (World.cell?_of_block ht).trans q4⟩)
              have R7 := hide (show W3.heap[w.heap.size + 1]? = some (.cells #[.int .i64 0, .int .i64 0] 56 (0, 0)) by
                obtain ⟨t1, t2, t3, t4⟩ := unhide LT
                have hz := unhide Z6
                have hu := unhide U5Z
                exact (cd3.block _ (show _ < U6.heap.size by omega) (by omega) (by omega) (by omega) (by omega)).trans (unhide R6))
              have SD := hide sd3
              have CD2 := hide (((unhide C6).trans (Chg.below (Below.refl _ _).drew)).trans cd3)
              clear sd3 cd3 S6 C6
              refine wp_region_held_drew (S := fun w' => w'.cell? ⟨h.S, 3, none⟩ = some (.map (some h.C)) ∧ w'.cell? ⟨w.heap.size, 1, none⟩ = some (.int .i64 cli) ∧ w'.cell? ⟨w.heap.size, 2, none⟩ = some (.int .i64 seq) ∧ w'.cell? ⟨T7, 0, none⟩ = some (.int .i64 re) ∧ w'.cell? ⟨T7, 1, none⟩ = some (.int .i64 rv)) (by kernel_rfl) ?_ (fun hHeld => ?_)
              · try dsimp only
                first | exact unhide KC | exact unhide KB
              refine hT 0 ?_
              refine hT 1 ?_
              refine hT 2 ?_
              refine hT 3 ?_
              refine hT 4 ?_
              refine hT 5 ?_
              refine hT 6 ?_
              refine hT 7 ?_
              refine hT 8 ?_
              refine hT 9 ?_
              refine wpAnyH_ready (rs := [10]) (by kernel_rfl) (by simp) ?_
              refine AllReadyH.cons rfl (fun K hK => ?_) ?_
              · go_simp
                refine hK.out _ _ ?_ (fun hHeld => ?_)
                · try dsimp only
                  first | exact unhide KC | exact unhide KB
                clear hK K
                refine hP ?_
                refine wpAnyH_done (by kernel_rfl) ?_ _
                clear hHeld hput
                have w0 := (unhide KC).2.2.2.1
                have w1 := (unhide KC).2.2.2.2
                have z0 := fcell0 (unhide R7) 0 _ rfl
                have z1 := fcell0 (unhide R7) 1 _ rfl
                have f0 : W3.frozen? ⟨w.heap.size + 1, 0, none⟩ = false := by simp [World.frozen?, unhide R7]
                have f1 : W3.frozen? ⟨w.heap.size + 1, 1, none⟩ = false := by simp [World.frozen?, unhide R7]
                obtain ⟨a1, a2⟩ := set2 (x := .int .i64 re) (y := .int .i64 rv) (unhide R7)
                have A1 := hide a1
                have FS := hide ((unhide SD).aside a2 (unhide R7) (res_text _ _) (unhide L1))
                have FC := hide ((unhide CD2).newer a2 (by omega))
                clear a1 a2
                go_wp2
                generalize ((W3.setCell ⟨w.heap.size + 1, 0, none⟩ (.int .i64 re)).setCell ⟨w.heap.size + 1, 1, none⟩ (.int .i64 rv)) = W9 at *
                clear z0 z1 f0 f1
                have o0 : W9.cell? ⟨w.heap.size + 1, 0, none⟩ = some (.int .i64 re) := fcell0 (unhide A1) 0 _ rfl
                have o1 : W9.cell? ⟨w.heap.size + 1, 1, none⟩ = some (.int .i64 rv) := fcell0 (unhide A1) 1 _ rfl
                exact bodyPost_ret (v := .agg #[.int .i64 re, .int .i64 rv]) (by simp [results, Tryz.results22, go_sem, o0, o1]) rfl ⟨a', tc', by rw [unhide HD, unhide HS], by rw [unhide HD, unhide HS]; exact unhide FS, unhide FC⟩
              exact AllReadyH.nil
            exact AllReadyH.nil
          exact AllReadyH.nil
  · as_aux_lemma =>
    have hd : DD none 0 x = ((((ck : Nat) : Int), x.ver), x) := by rw [unhide DO]; simp [hck0]
    have HD := hide hd
    have hci : ¬ (ck : Int) = 0 := by omega
    clear hd DO DN
    clear k0 k1 k2 k3 k4 k5 k6 k7 u3
    have z0 := fcell0 (unhide RU) 0 _ rfl
    have z1 := fcell0 (unhide RU) 1 _ rfl
    have f0 : U.frozen? ⟨w.heap.size + 1, 0, none⟩ = false := by simp [World.frozen?, unhide RU]
    have f1 : U.frozen? ⟨w.heap.size + 1, 1, none⟩ = false := by simp [World.frozen?, unhide RU]
    obtain ⟨a1, a2⟩ := set2 (x := .int .i64 (ck : Int)) (y := .int .i64 x.ver) (unhide RU)
    have A1 := hide a1
    have FS := hide ((unhide SU).aside a2 (unhide RU) (res_text _ _) (unhide L1))
    have FC := hide ((unhide CU).newer a2 (by omega))
    clear a1 a2
    go_wp2
    generalize ((U.setCell ⟨w.heap.size + 1, 0, none⟩ (.int .i64 (ck : Int))).setCell ⟨w.heap.size + 1, 1, none⟩ (.int .i64 x.ver)) = W9 at *
    clear z0 z1 f0 f1
    have o0 : W9.cell? ⟨w.heap.size + 1, 0, none⟩ = some (.int .i64 (ck : Int)) := fcell0 (unhide A1) 0 _ rfl
    have o1 : W9.cell? ⟨w.heap.size + 1, 1, none⟩ = some (.int .i64 x.ver) := fcell0 (unhide A1) 1 _ rfl
    exact bodyPost_ret (v := .agg #[.int .i64 (ck : Int), .int .i64 x.ver]) (by simp [results, Tryz.results22, go_sem, o0, o1]) rfl ⟨none, 0, by rw [unhide HD], by rw [unhide HD]; exact unhide FS, unhide FC⟩
end Go.Proofs.YtpkpnedcecjlbaaGreatDoor
