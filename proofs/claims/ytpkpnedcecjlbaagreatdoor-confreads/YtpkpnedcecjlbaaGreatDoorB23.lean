/- Conf: Config. -/
import Derived.Test.YtpkpnedcecjlbaaGreatDoorB22
namespace Go.Proofs.YtpkpnedcecjlbaaGreatDoor
open Go.ChangeShapes Go.WideShapes Go.ChangeAt Go.RowKit
set_option linter.unusedVariables false

theorem Sm.fp_length (x : Sm) : x.fp.length = x.ps.length := by simp [Sm.fp]
theorem Sm.fr_length (x : Sm) : x.fr.length = x.rs.length := by simp [Sm.fr]
/-- How far the row of pools is. -/
def GpI (ver : Int) (C : Nat) (ps : List Pq) (V : World) (j : Nat) (wr : World) : Prop :=
  ∃ sp c l, List.map Pq.po l = (ps.map Pq.po).take j ∧ l.length = j ∧ OwnPq V.heap.size wr sp c l ∧ wr.heap[C]? = some (.cells #[.int .i64 ver, .slice none 0 0, .slice sp j c] 53 (0, 0)) ∧ V.grownBy wr (some C)
theorem OwnPl.cell {base : Nat} {w : World} {sp : Option Addr} {c : Nat} {l : List Pl} (h : OwnPl base w sp c l) (i : Nat) (hi : i < l.length) : ∃ g, sp = some ⟨g, 0, none⟩ ∧ base ≤ g ∧ g < w.heap.size ∧ ∀ w' : World, w'.heap[g]? = w.heap[g]? → w'.cell? ⟨g, i * 2, none⟩ = some (.string l[i].1) ∧ w'.cell? ⟨g, i * 2 + 1, none⟩ = some (.string l[i].2) := by
  rcases h.2 with ⟨hv, h0⟩ | ⟨g, cap, cur, hv, hb, hg, hle, hmx, hsz, ht⟩
  · omega
  · simp only [Value.slice.injEq] at hv
    have one : ∀ (w' : World), w'.heap[g]? = w.heap[g]? → ∀ f, f < 2 → w'.cell? ⟨g, i * 2 + f, none⟩ = (plRow l[i])[f]? := fun w' hw f hf => by
      have hk := rowsPl_get l i f hi hf
      rw [cell_of_row w' g _ cur _ _ (hw.trans hg), ← Array.getElem?_toList]
      have hj : i * 2 + f < l.length * 2 := by omega
      rw [← ht, List.getElem?_take, if_pos hj] at hk
      exact hk
    exact ⟨g, hv.1, hb, (Array.getElem?_eq_some_iff.1 hg).1, fun w' hw => ⟨one w' hw 0 (by omega), one w' hw 1 (by omega)⟩⟩
/-- How far the row of routes is. -/
def GrI (ver : Int) (C : Nat) (rs : List Rt) (pv : Value) (V : World) (j : Nat) (wr : World) : Prop :=
  ∃ sp c, OwnRt V.heap.size wr sp c (rs.take j) ∧ wr.heap[C]? = some (.cells #[.int .i64 ver, .slice sp j c, pv] 53 (0, 0)) ∧ V.grownBy wr (some C)
set_option maxRecDepth 20000 in
set_option maxHeartbeats 8000000 in
theorem config_calls {w : World} {h : StH} {x : Sm} (s : StAt w h x) (hx : SmOk x) :
    Calls Tryz.prog 21 #[.pointer (some ⟨h.S, 0, none⟩)] w fun e w' => ∃ k, e = .returned (cfVal x.cf k) ∧ CfAt w' x.cf k ∧ Below w.heap.size w w' ∧ (∃ l, OwnPq w.heap.size w' k.pa k.pc l ∧ l.map Pq.po = x.ps.map Pq.po) ∧ OwnRt w.heap.size w' k.ra k.rc x.rs := by
  obtain ⟨c0, c1, c2, c3⟩ := s.cell
  have b1 : Below w.heap.size w (w.alloc (.cells #[.int .i64 0, .slice none 0 0, .slice none 0 0] 53)) := (Below.refl _ _).alloc (Nat.le_refl _) _
  have b2 := hide (b1.alloc b1.size (.cells #[.int .i64 x.ver, .slice none 0 0, .slice none 0 0] 53))
  have s1 : (w.alloc (.cells #[.int .i64 0, .slice none 0 0, .slice none 0 0] 53)).heap.size = w.heap.size + 1 := by simp
  have d0 := cell_later b1 c0
  have d1 := cell_later (unhide b2) c1
  have X1 := hide (show ((w.alloc (.cells #[.int .i64 0, .slice none 0 0, .slice none 0 0] 53)).alloc (.cells #[.int .i64 x.ver, .slice none 0 0, .slice none 0 0] 53)).heap[w.heap.size]? = some (.cells #[.int .i64 0, .slice none 0 0, .slice none 0 0] 53 (0, 0)) by rw [Below.heap_alloc _ _ _ (by simp)]; exact heap_new _ _)
  have X2 := hide (show ((w.alloc (.cells #[.int .i64 0, .slice none 0 0, .slice none 0 0] 53)).alloc (.cells #[.int .i64 x.ver, .slice none 0 0, .slice none 0 0] 53)).heap[w.heap.size + 1]? = some (.cells #[.int .i64 x.ver, .slice none 0 0, .slice none 0 0] 53 (0, 0)) by rw [← s1]; exact heap_new _ _)
  have Z2 := hide (show ((w.alloc (.cells #[.int .i64 0, .slice none 0 0, .slice none 0 0] 53)).alloc (.cells #[.int .i64 x.ver, .slice none 0 0, .slice none 0 0] 53)).heap.size = w.heap.size + 2 by simp)
  go_enter Tryz.func21, Tryz.ntmps21
  go_wp2_with fail
  have s2 := hide (s.later (unhide b2))
  generalize ((w.alloc (.cells #[.int .i64 0, .slice none 0 0, .slice none 0 0] 53)).alloc (.cells #[.int .i64 x.ver, .slice none 0 0, .slice none 0 0] 53)) = W2 at *
  have KC := hide (keysS_calls h.P W2)
  have SC := hide (sortedS_calls (unhide s2).pm (by have := hx.t.pn; rw [Sm.fp_length]; simpa [Sm.cf] using this))
  rw [Sm.fp_length] at SC
  clear b1 s1 d0 c0 c1 c2 c3
  refine (unhide KC).mono ?_
  rintro e U ⟨rfl, rfl⟩
  go_wp2_with fail
  refine (unhide SC).mono ?_
  rintro e V ⟨sp, c, rfl, hO, hb⟩
  have NO := hide hO
  have BV := hide hb
  have XV := hide (later_block hb (unhide X2))
  clear hO hb KC SC d1
  go_wp2_with fail
  have LN := hide (show x.ps.length ≤ 1000 by have := hx.t.pn; simpa [Sm.cf] using this)
  have hC1 := unhide Z2
  have BV2 := hide ((unhide b2).trans ((unhide BV).mono (by omega)))
  have FB := hide (show ∀ W : World, V.grownBy W (some (w.heap.size + 1)) → Below w.heap.size w W from fun W hg => (unhide BV2).grown hg (by have := (unhide BV2).size; omega) (fun g e => by have := Option.some.inj e; omega))
  have CV := hide (show w.heap.size + 1 < V.heap.size by have := (unhide BV).size; omega)
  have SS7 := hide (show ∀ W : World, V.grownBy W (some (w.heap.size + 1)) → ∀ p ∈ x.ps, W.cell? ⟨h.S, 1, none⟩ = some (.map (some h.P)) ∧ (Instr.lookup 82 (.map (some h.P)) (.string p.po.nm) false).run Tryz.prog W = .ok (pqV p) W from fun W hg p hp => by
    have st := s.later (unhide FB W hg)
    have hm : (p.po.nm, pqV p) ∈ x.fp := List.mem_map.2 ⟨p, hp, rfl⟩
    exact ⟨st.cell.2.1, (st.pm.look_yes mapTP (zeroPool W) (k := p.po.nm) (v := pqV p) (st.pm.rise.get hm)).2⟩)
  have FC := hide (show ∀ W : World, V.grownBy W (some (w.heap.size + 1)) → ∀ p ∈ x.ps, Calls Tryz.prog 50 #[.agg #[.string p.po.nm, .slice p.ta p.po.ts.length p.tc]] W fun e w' => ∃ a' c', e = .returned (.agg #[.string p.po.nm, .slice a' p.po.ts.length c']) ∧ OwnT W.heap.size w' a' c' p.po.ts ∧ Below W.heap.size W w' from fun W hg p hp => copied_calls ((s.tg p hp).later (unhide FB W hg)) (by have := (hx.t.ps p.po (by simp only [Sm.cf]; exact List.mem_map_of_mem hp)).2.1; omega) p.tc)
  have Z0 := hide (show GpI x.ver (w.heap.size + 1) x.ps V 0 V from ⟨none, 0, [], rfl, rfl, OwnPq.ofNil _ _, unhide XV, grown_refl _ _⟩)
  generalize hC : w.heap.size + 1 = C at *
  have HCw := hide hC
  clear hC hC1
  generalize hn : x.ps.length = n at *
  have HN := hide hn
  go_loopw [5, 23] (fun _ i wr => ∃ j : Nat, j ≤ n ∧ i = .int .i64 (j : Int) ∧ Hid (GpI x.ver C x.ps V j wr)) (fun _ i _ => n - (intOf i).toNat)
  case atStart => exact ⟨0, by omega, rfl, Z0⟩
  case round =>
    obtain ⟨j, hj, rfl, IV⟩ := hrel
    obtain ⟨tp, tc, l, hlp, hlj, hOW, hHC, hF⟩ := unhide IV
    have LP := hide hlp
    have LJ := hide hlj
    have OW := hide hOW
    have HC := hide hHC
    have FW := hide hF
    clear hlp hlj hOW hHC hF IV
    by_cases hjn : j < n
    · as_aux_lemma =>
      have HJ := hide hjn
      have y0 : (0 : Int) ≤ (j : Int) := by omega
      have y1 : (j : Int) < (n : Int) := by omega
      have hjl : j < x.ps.length := by rw [unhide HN]; exact hjn
      have PM := hide (List.getElem_mem hjl)
      have TK := hide (show (x.ps.map Pq.po).take (j + 1) = (x.ps.map Pq.po).take j ++ [x.ps[j].po] from by rw [List.take_succ_eq_append_getElem (by simpa using hjl)]; simp)
      obtain ⟨g, rfl, hg1, hg2, hq⟩ := (unhide NO).cell j (by simpa [Sm.fp] using hjl)
      have q0 : wr.cell? ⟨g, j, none⟩ = some (.string x.ps[j].po.nm) := by
        have := hq wr ((unhide FW).block g hg2 (fun e => by have := Option.some.inj e; have := unhide HCw; have := unhide Z2; omega))
        simpa [Sm.fp] using this
      generalize x.ps[j] = p at *
      obtain ⟨⟨nm, ts⟩, ta, ta2⟩ := p
      have SJ := hide (fun W hg => unhide SS7 W hg _ (unhide PM))
      have FJ := hide (fun W hg => unhide FC W hg _ (unhide PM))
      simp only [pqV] at SJ FJ q0
      clear hq
      go_wp2_with fail
      have F := hide (show V.grownBy wr.drew (some C) from grown_low (unhide FW) (Below.refl _ _).drew)
      have OW := hide ((unhide OW).later (Below.refl _ _).drew)
      have HC := hide (show wr.drew.heap[C]? = some (.cells #[.int .i64 x.ver, .slice none 0 0, .slice tp j tc] 53 (0, 0)) from unhide HC)
      clear q0 y0 y1 FW
      refine wp_region_held_drew (S := fun w' => w'.cell? ⟨h.S, 1, none⟩ = some (.map (some h.P)) ∧ (Instr.lookup 82 (.map (some h.P)) (.string nm) false).run Tryz.prog w' = .ok (.agg #[.string nm, .slice ta ts.length ta2]) w') (by kernel_rfl) ?_ (fun hHeld => ?_)
      · try dsimp only
        exact unhide SJ _ (unhide F)
      refine hT 0 ?_
      refine hT 2 ?_
      refine hT 3 ?_
      refine hT 4 ?_
      refine hT 5 ?_
      refine hT 6 ?_
      refine hT 7 ?_
      refine wpAnyH_ready (rs := [1, 8]) (by kernel_rfl) (by simp) ?_
      refine AllReadyH.cons rfl (fun K hK => ?_) ?_
      · have cc := fcell0 (unhide HC) 2 _ rfl
        go_simp
        clear cc
        refine hK.out _ _ ?_ (fun hHeld => ?_)
        · try dsimp only
          exact unhide SJ _ (unhide F)
        clear hK K
        refine hP ?_
        refine wpAnyH_ready (rs := [8]) (by kernel_rfl) (by simp) ?_
        refine AllReadyH.cons rfl (fun K hK => ?_) ?_
        · go_simp
          go_at_call 50
          refine (unhide FJ _ (unhide F)).mono ?_
          rintro e U ⟨a', c', rfl, ho, hb⟩
          have HC := hide (later_block hb (unhide HC))
          have OW := hide ((unhide OW).later hb)
          have OT := hide (show OwnT V.heap.size U a' c' ts from OwnT.low ho (unhide F).size)
          have F := hide (grown_low (unhide F) (hb.mono (unhide F).size))
          clear ho hb
          go_wp2_with fail
          refine hK.out _ _ ?_ (fun hHeld => ?_)
          · try dsimp only
            exact unhide SJ _ (unhide F)
          clear hK K
          refine hP ?_
          refine wpAnyH_ready (rs := [9]) (by kernel_rfl) (by simp) ?_
          refine AllReadyH.cons rfl (fun K hK => ?_) ?_
          · refine step_newP rfl 35 rfl nm a' ts.length c' rfl ?_
            intro B5 U5 hE hEn hb
            have HB5 := hide hEn
            have HC := hide (later_block hb (unhide HC))
            have OW := hide ((unhide OW).later hb)
            have OT := hide (owns_later (unhide OT) hb)
            have F := hide (grown_low (unhide F) (hb.mono (unhide F).size))
            clear hE hEn hb
            refine hK.out _ _ ?_ (fun hHeld => ?_)
            · try dsimp only
              exact unhide SJ _ (unhide F)
            clear hK K
            refine hP ?_
            refine wpAnyH_ready (rs := [10]) (by kernel_rfl) (by simp) ?_
            refine AllReadyH.cons rfl (fun K hK => ?_) ?_
            · refine step_appendPr rfl (.tmp 28) (.tmp 36) rfl V.heap.size tp j tc (l.map Pq.pr) rfl (by rw [List.length_map]; exact unhide LJ) (unhide OW).row B5 ⟨nm, a', ts.length, c'⟩ rfl (unhide HB5) (by have := unhide LN; omega) (unhide F).size ?_
              intro tp6 tc6 U6 ho hg
              have hb := (unhide OW).below hg (unhide F).size
              have O6 := hide ((unhide OW).push ⟨⟨nm, ts⟩, a', c'⟩ (unhide OT) ho hg)
              have HC := hide ((hb.block C (unhide CV)).trans (unhide HC))
              have F := hide (grown_low (unhide F) hb)
              clear ho hb hg
              refine hK.out _ _ ?_ (fun hHeld => ?_)
              · try dsimp only
                exact unhide SJ _ (unhide F)
              clear hK K
              refine hP ?_
              refine hT 11 ?_
              refine wpAnyH_ready (rs := [12]) (by kernel_rfl) (by simp) ?_
              refine AllReadyH.cons rfl (fun K hK => ?_) ?_
              · have cc := fcell0 (unhide HC) 2 _ rfl
                have cf : U6.frozen? ⟨C, 2, none⟩ = false := by simp [World.frozen?, unhide HC]
                have a1 := heap_setCell_same U6 C 2 _ 53 (.slice tp6 (j + 1) tc6) (unhide HC)
                have a2 := grownSet U6 C 2 (.slice tp6 (j + 1) tc6)
                have O6 := hide ((unhide O6).other (w' := U6.setCell ⟨C, 2, none⟩ (.slice tp6 (j + 1) tc6)) a2 (unhide HC) (by decide) (by decide))
                have F := hide (grown_same (unhide F) a2)
                have HC := hide (show (U6.setCell ⟨C, 2, none⟩ (.slice tp6 (j + 1) tc6)).heap[C]? = some (.cells #[.int .i64 x.ver, .slice none 0 0, .slice tp6 (j + 1) tc6] 53 (0, 0)) from a1)
                clear a1 a2
                go_simp
                clear cc cf
                refine hK.out _ _ ?_ (fun hHeld => ?_)
                · try dsimp only
                  exact unhide SJ _ (unhide F)
                clear hK K
                refine hP ?_
                refine wpAnyH_done (by kernel_rfl) ?_ _
                have IV := hide (show GpI x.ver C x.ps V (j + 1) (U6.setCell ⟨C, 2, none⟩ (.slice tp6 (j + 1) tc6)) from ⟨tp6, tc6, _, by rw [List.map_append, unhide LP, unhide TK]; rfl, by rw [List.length_append, unhide LJ]; rfl, unhide O6, unhide HC, unhide F⟩)
                generalize U6.setCell ⟨C, 2, none⟩ (.slice tp6 (j + 1) tc6) = U7 at *
                clear F HC O6 OT hHeld
                have hln := unhide LN
                go_wp2
                exact ⟨⟨j + 1, by have := unhide HJ; omega, by go_num, IV⟩, by have := unhide HJ; simp [intOf]; omega⟩
              exact AllReadyH.nil
            exact AllReadyH.nil
          exact AllReadyH.nil
        exact AllReadyH.nil
      refine AllReadyH.cons rfl (fun K hK => ?_) ?_
      · go_simp
        go_at_call 50
        refine (unhide FJ _ (unhide F)).mono ?_
        rintro e U ⟨a', c', rfl, ho, hb⟩
        have HC := hide (later_block hb (unhide HC))
        have OW := hide ((unhide OW).later hb)
        have OT := hide (show OwnT V.heap.size U a' c' ts from OwnT.low ho (unhide F).size)
        have F := hide (grown_low (unhide F) (hb.mono (unhide F).size))
        clear ho hb
        go_wp2_with fail
        refine hK.out _ _ ?_ (fun hHeld => ?_)
        · try dsimp only
          exact unhide SJ _ (unhide F)
        clear hK K
        refine hP ?_
        refine wpAnyH_ready (rs := [1, 9]) (by kernel_rfl) (by simp) ?_
        refine AllReadyH.cons rfl (fun K hK => ?_) ?_
        · have cc := fcell0 (unhide HC) 2 _ rfl
          go_simp
          clear cc
          refine hK.out _ _ ?_ (fun hHeld => ?_)
          · try dsimp only
            exact unhide SJ _ (unhide F)
          clear hK K
          refine hP ?_
          refine wpAnyH_ready (rs := [9]) (by kernel_rfl) (by simp) ?_
          refine AllReadyH.cons rfl (fun K hK => ?_) ?_
          · refine step_newP rfl 35 rfl nm a' ts.length c' rfl ?_
            intro B5 U5 hE hEn hb
            have HB5 := hide hEn
            have HC := hide (later_block hb (unhide HC))
            have OW := hide ((unhide OW).later hb)
            have OT := hide (owns_later (unhide OT) hb)
            have F := hide (grown_low (unhide F) (hb.mono (unhide F).size))
            clear hE hEn hb
            refine hK.out _ _ ?_ (fun hHeld => ?_)
            · try dsimp only
              exact unhide SJ _ (unhide F)
            clear hK K
            refine hP ?_
            refine wpAnyH_ready (rs := [10]) (by kernel_rfl) (by simp) ?_
            refine AllReadyH.cons rfl (fun K hK => ?_) ?_
            · refine step_appendPr rfl (.tmp 28) (.tmp 36) rfl V.heap.size tp j tc (l.map Pq.pr) rfl (by rw [List.length_map]; exact unhide LJ) (unhide OW).row B5 ⟨nm, a', ts.length, c'⟩ rfl (unhide HB5) (by have := unhide LN; omega) (unhide F).size ?_
              intro tp6 tc6 U6 ho hg
              have hb := (unhide OW).below hg (unhide F).size
              have O6 := hide ((unhide OW).push ⟨⟨nm, ts⟩, a', c'⟩ (unhide OT) ho hg)
              have HC := hide ((hb.block C (unhide CV)).trans (unhide HC))
              have F := hide (grown_low (unhide F) hb)
              clear ho hb hg
              refine hK.out _ _ ?_ (fun hHeld => ?_)
              · try dsimp only
                exact unhide SJ _ (unhide F)
              clear hK K
              refine hP ?_
              refine hT 11 ?_
              refine wpAnyH_ready (rs := [12]) (by kernel_rfl) (by simp) ?_
              refine AllReadyH.cons rfl (fun K hK => ?_) ?_
              · have cc := fcell0 (unhide HC) 2 _ rfl
                have cf : U6.frozen? ⟨C, 2, none⟩ = false := by simp [World.frozen?, unhide HC]
                have a1 := heap_setCell_same U6 C 2 _ 53 (.slice tp6 (j + 1) tc6) (unhide HC)
                have a2 := grownSet U6 C 2 (.slice tp6 (j + 1) tc6)
                have O6 := hide ((unhide O6).other (w' := U6.setCell ⟨C, 2, none⟩ (.slice tp6 (j + 1) tc6)) a2 (unhide HC) (by decide) (by decide))
                have F := hide (grown_same (unhide F) a2)
                have HC := hide (show (U6.setCell ⟨C, 2, none⟩ (.slice tp6 (j + 1) tc6)).heap[C]? = some (.cells #[.int .i64 x.ver, .slice none 0 0, .slice tp6 (j + 1) tc6] 53 (0, 0)) from a1)
                clear a1 a2
                go_simp
                clear cc cf
                refine hK.out _ _ ?_ (fun hHeld => ?_)
                · try dsimp only
                  exact unhide SJ _ (unhide F)
                clear hK K
                refine hP ?_
                refine wpAnyH_done (by kernel_rfl) ?_ _
                have IV := hide (show GpI x.ver C x.ps V (j + 1) (U6.setCell ⟨C, 2, none⟩ (.slice tp6 (j + 1) tc6)) from ⟨tp6, tc6, _, by rw [List.map_append, unhide LP, unhide TK]; rfl, by rw [List.length_append, unhide LJ]; rfl, unhide O6, unhide HC, unhide F⟩)
                generalize U6.setCell ⟨C, 2, none⟩ (.slice tp6 (j + 1) tc6) = U7 at *
                clear F HC O6 OT hHeld
                have hln := unhide LN
                go_wp2
                exact ⟨⟨j + 1, by have := unhide HJ; omega, by go_num, IV⟩, by have := unhide HJ; simp [intOf]; omega⟩
              exact AllReadyH.nil
            exact AllReadyH.nil
          exact AllReadyH.nil
        refine AllReadyH.cons rfl (fun K hK => ?_) ?_
        · refine step_newP rfl 35 rfl nm a' ts.length c' rfl ?_
          intro B5 U5 hE hEn hb
          have HB5 := hide hEn
          have HC := hide (later_block hb (unhide HC))
          have OW := hide ((unhide OW).later hb)
          have OT := hide (owns_later (unhide OT) hb)
          have F := hide (grown_low (unhide F) (hb.mono (unhide F).size))
          clear hE hEn hb
          refine hK.out _ _ ?_ (fun hHeld => ?_)
          · try dsimp only
            exact unhide SJ _ (unhide F)
          clear hK K
          refine hP ?_
          refine wpAnyH_ready (rs := [1]) (by kernel_rfl) (by simp) ?_
          refine AllReadyH.cons rfl (fun K hK => ?_) ?_
          · have cc := fcell0 (unhide HC) 2 _ rfl
            go_simp
            clear cc
            refine hK.out _ _ ?_ (fun hHeld => ?_)
            · try dsimp only
              exact unhide SJ _ (unhide F)
            clear hK K
            refine hP ?_
            refine wpAnyH_ready (rs := [10]) (by kernel_rfl) (by simp) ?_
            refine AllReadyH.cons rfl (fun K hK => ?_) ?_
            · refine step_appendPr rfl (.tmp 28) (.tmp 36) rfl V.heap.size tp j tc (l.map Pq.pr) rfl (by rw [List.length_map]; exact unhide LJ) (unhide OW).row B5 ⟨nm, a', ts.length, c'⟩ rfl (unhide HB5) (by have := unhide LN; omega) (unhide F).size ?_
              intro tp6 tc6 U6 ho hg
              have hb := (unhide OW).below hg (unhide F).size
              have O6 := hide ((unhide OW).push ⟨⟨nm, ts⟩, a', c'⟩ (unhide OT) ho hg)
              have HC := hide ((hb.block C (unhide CV)).trans (unhide HC))
              have F := hide (grown_low (unhide F) hb)
              clear ho hb hg
              refine hK.out _ _ ?_ (fun hHeld => ?_)
              · try dsimp only
                exact unhide SJ _ (unhide F)
              clear hK K
              refine hP ?_
              refine hT 11 ?_
              refine wpAnyH_ready (rs := [12]) (by kernel_rfl) (by simp) ?_
              refine AllReadyH.cons rfl (fun K hK => ?_) ?_
              · have cc := fcell0 (unhide HC) 2 _ rfl
                have cf : U6.frozen? ⟨C, 2, none⟩ = false := by simp [World.frozen?, unhide HC]
                have a1 := heap_setCell_same U6 C 2 _ 53 (.slice tp6 (j + 1) tc6) (unhide HC)
                have a2 := grownSet U6 C 2 (.slice tp6 (j + 1) tc6)
                have O6 := hide ((unhide O6).other (w' := U6.setCell ⟨C, 2, none⟩ (.slice tp6 (j + 1) tc6)) a2 (unhide HC) (by decide) (by decide))
                have F := hide (grown_same (unhide F) a2)
                have HC := hide (show (U6.setCell ⟨C, 2, none⟩ (.slice tp6 (j + 1) tc6)).heap[C]? = some (.cells #[.int .i64 x.ver, .slice none 0 0, .slice tp6 (j + 1) tc6] 53 (0, 0)) from a1)
                clear a1 a2
                go_simp
                clear cc cf
                refine hK.out _ _ ?_ (fun hHeld => ?_)
                · try dsimp only
                  exact unhide SJ _ (unhide F)
                clear hK K
                refine hP ?_
                refine wpAnyH_done (by kernel_rfl) ?_ _
                have IV := hide (show GpI x.ver C x.ps V (j + 1) (U6.setCell ⟨C, 2, none⟩ (.slice tp6 (j + 1) tc6)) from ⟨tp6, tc6, _, by rw [List.map_append, unhide LP, unhide TK]; rfl, by rw [List.length_append, unhide LJ]; rfl, unhide O6, unhide HC, unhide F⟩)
                generalize U6.setCell ⟨C, 2, none⟩ (.slice tp6 (j + 1) tc6) = U7 at *
                clear F HC O6 OT hHeld
                have hln := unhide LN
                go_wp2
                exact ⟨⟨j + 1, by have := unhide HJ; omega, by go_num, IV⟩, by have := unhide HJ; simp [intOf]; omega⟩
              exact AllReadyH.nil
            exact AllReadyH.nil
          exact AllReadyH.nil
        exact AllReadyH.nil
      exact AllReadyH.nil
    · as_aux_lemma =>
      have hjj : ¬ (j : Int) < (n : Int) := by omega
      have hjn2 : n = j := by omega
      subst hjn2
      have hb2 := (unhide FB) _ (unhide FW)
      have s3 := hide (s.later hb2)
      have e2 := (unhide s3).cell.2.2.1
      have KP := hide (keysP_calls h.R wr)
      go_wp2_with fail
      refine (unhide KP).mono ?_
      rintro e U ⟨rfl, rfl⟩
      go_wp2_with fail
      have BA := hide (show Below wr.heap.size wr (wr.alloc (.cells #[.map (some h.R)] 83)) from (Below.refl _ _).alloc (Nat.le_refl _) _)
      have SP := hide (sortedP_calls (w := wr.alloc (.cells #[.map (some h.R)] 83)) ((unhide s3).rm.later (unhide BA)) (Bm := wr.heap.size) (by simp) (fcell0 (heap_new wr _) 0 _ rfl) (by have := hx.t.rn; rw [Sm.fr_length]; simpa [Sm.cf] using this))
      refine (unhide SP).mono ?_
      rintro e V2 ⟨rp, rc, rfl, hO, hb⟩
      rw [Sm.fr_length] at *
      have PO := hide hO
      have B3 := hide ((unhide BA).trans (hb.mono (unhide BA).size))
      clear hO hb KP SP e2 BA
      have XC := hide (later_block (unhide B3) (unhide HC))
      have OQ := hide ((unhide OW).later (unhide B3))
      have CV2 := hide (show C < V2.heap.size from (Array.getElem?_eq_some_iff.1 (unhide XC)).1)
      have CW := hide (show w.heap.size + 1 = C from unhide HCw)
      have FB2 := hide (show ∀ W : World, V2.grownBy W (some C) → Below w.heap.size w W from fun W hg => (hb2.trans ((unhide B3).mono hb2.size)).grown hg (by have := hb2.size; have := (unhide B3).size; omega) (fun g e => by have := Option.some.inj e; have := unhide CW; omega))
      have RES := hide (show ∀ W : World, V2.grownBy W (some C) → W.heap[w.heap.size]? = some (.cells #[.int .i64 0, .slice none 0 0, .slice none 0 0] 53 (0, 0)) from fun W hg => by
        have h1 := later_block (unhide BV) (unhide X1)
        have h2 := ((unhide FW).block w.heap.size (Array.getElem?_eq_some_iff.1 h1).1 (fun e => by have := Option.some.inj e; have := unhide CW; omega)).trans h1
        have h3 := later_block (unhide B3) h2
        exact (hg.block w.heap.size (Array.getElem?_eq_some_iff.1 h3).1 (fun e => by have := Option.some.inj e; have := unhide CW; omega)).trans h3)
      have SS12 := hide (show ∀ W : World, V2.grownBy W (some C) → ∀ r ∈ x.rs, W.cell? ⟨h.S, 2, none⟩ = some (.map (some h.R)) ∧ (Instr.lookup 83 (.map (some h.R)) (.agg #[.string r.h, .string r.p]) false).run Tryz.prog W = .ok (rtVal r) W from fun W hg r hr => by
        have st := s.later (unhide FB2 W hg)
        have hm : ((r.h, r.p), rtVal r) ∈ x.fr := List.mem_map.2 ⟨r, hr, rfl⟩
        exact ⟨st.cell.2.2.1, (st.rm.look_yes mapTR (zeroRoute W) (k := (r.h, r.p)) (v := rtVal r) (st.rm.rise.get hm)).2⟩)
      have LM := hide (show x.rs.length ≤ 1000 by have := hx.t.rn; simpa [Sm.cf] using this)
      have Z0 := hide (show GrI x.ver C x.rs (.slice tp n tc) V2 0 V2 from ⟨none, 0, V2.ownsRow_nil _ _ _, unhide XC, grown_refl _ _⟩)
      generalize hm : x.rs.length = m at *
      have HM := hide hm
      have XC2 := hide (unhide XC)
      clear hm XC hb2
      go_wp2_with fail
      obtain ⟨wq, hwq⟩ : ∃ wq : World, wq = wr := ⟨_, rfl⟩
      subst hwq
      go_loopw [7, 47] (fun _ i wr2 => ∃ j : Nat, j ≤ m ∧ i = .int .i64 (j : Int) ∧ Hid (GrI x.ver C x.rs (.slice tp n tc) V2 j wr2)) (fun _ i _ => m - (intOf i).toNat)
      case atStart => exact ⟨0, by omega, rfl, Z0⟩
      case round =>
        obtain ⟨j, hj, rfl, IV⟩ := hrel
        obtain ⟨sp2, sc2, hOW, hHC, hF⟩ := unhide IV
        have OW2 := hide hOW
        have HC2 := hide hHC
        have FW2 := hide hF
        clear hOW hHC hF IV
        by_cases hjm : j < m
        · as_aux_lemma =>
          have HJ := hide hjm
          have y0 : (0 : Int) ≤ (j : Int) := by omega
          have y1 : (j : Int) < (m : Int) := by omega
          have hjl : j < x.rs.length := by rw [unhide HM]; exact hjm
          have PM := hide (List.getElem_mem hjl)
          have TK := hide (show x.rs.take (j + 1) = x.rs.take j ++ [x.rs[j]] from by rw [List.take_succ_eq_append_getElem hjl])
          obtain ⟨g, rfl, hg1, hg2, hq⟩ := (unhide PO).cell j (by simpa [Sm.fr] using hjl)
          have q := hq wr ((unhide FW2).block g hg2 (fun e => by have := Option.some.inj e; have := unhide CV; have := (unhide FW).size; simp at hg1; omega))
          have q0 : wr.cell? ⟨g, j * 2, none⟩ = some (.string x.rs[j].h) := by simpa [Sm.fr] using q.1
          have q1 : wr.cell? ⟨g, j * 2 + 1, none⟩ = some (.string x.rs[j].p) := by simpa [Sm.fr] using q.2
          have LT := hide (show (x.rs.take j).length = j by rw [List.length_take]; omega)
          generalize x.rs[j] = r at *
          obtain ⟨rh, rp2, rl⟩ := r
          have SJ := hide (fun W hg => unhide SS12 W hg _ (unhide PM))
          simp only [rtVal] at SJ q0 q1
          clear hq q
          go_wp2_with fail
          have bK := hide (show Below wr.heap.size wr (wr.alloc (.cells #[.string rh, .string rp2] 98)) from (Below.refl _ _).alloc (Nat.le_refl _) _)
          have XK := hide (heap_new wr (.cells #[.string rh, .string rp2] 98))
          have OW3 := hide (owns_later (unhide OW2) (unhide bK))
          have HC3 := hide (later_block (unhide bK) (unhide HC2))
          have F3 := hide (grown_low (unhide FW2) ((unhide bK).mono (unhide FW2).size))
          have KW := hide (show V2.heap.size ≤ wr.heap.size from (unhide FW2).size)
          generalize hK : wr.heap.size = KB at *
          generalize wr.alloc (.cells #[.string rh, .string rp2] 98) = W3 at *
          have W3K := hide (show KB < W3.heap.size from (Array.getElem?_eq_some_iff.1 (unhide XK)).1)
          clear q0 q1 y0 y1 OW2 HC2 bK
          have F := hide (show V2.grownBy W3.drew (some C) from grown_low (unhide F3) (Below.refl _ _).drew)
          have G := hide (show W3.grownBy W3.drew (some C) from grown_low (grown_refl _ _) (Below.refl _ _).drew)
          have OW := hide (show OwnRt V2.heap.size W3.drew sp2 sc2 (x.rs.take j) from owns_later (unhide OW3) (Below.refl _ _).drew)
          have HC := hide (show W3.drew.heap[C]? = some (.cells #[.int .i64 x.ver, .slice sp2 j sc2, .slice tp n tc] 53 (0, 0)) from unhide HC3)
          have KK := hide (show ∀ W : World, W3.grownBy W (some C) → W.cell? ⟨KB, 0, none⟩ = some (.string rh) ∧ W.cell? ⟨KB, 1, none⟩ = some (.string rp2) from fun W hg => by
            have hk := (hg.block KB (unhide W3K) (fun e => by have := Option.some.inj e; have := unhide CV2; have := unhide KW; omega)).trans (unhide XK)
            exact ⟨fcell0 hk 0 _ rfl, fcell0 hk 1 _ rfl⟩)
          clear FW2 F3 OW3 HC3
          refine wp_region_held_drew (S := fun w' => w'.cell? ⟨h.S, 2, none⟩ = some (.map (some h.R)) ∧ (Instr.lookup 83 (.map (some h.R)) (.agg #[.string rh, .string rp2]) false).run Tryz.prog w' = .ok (.agg #[.string rh, .string rp2, .string rl]) w' ∧ w'.cell? ⟨KB, 0, none⟩ = some (.string rh) ∧ w'.cell? ⟨KB, 1, none⟩ = some (.string rp2)) (by kernel_rfl) ?_ (fun hHeld => ?_)
          · try dsimp only
            first | exact ⟨(unhide SJ _ (unhide F)).1, (unhide SJ _ (unhide F)).2, (unhide KK _ (unhide G)).1, (unhide KK _ (unhide G)).2⟩ | exact ⟨(unhide SJ _ (unhide F)).1, (unhide SJ _ (unhide F)).2, (unhide KC).1, (unhide KC).2⟩
          refine hT 0 ?_
          refine hT 2 ?_
          refine hT 3 ?_
          refine hT 4 ?_
          refine hT 5 ?_
          refine hT 6 ?_
          refine hT 7 ?_
          refine wpAnyH_ready (rs := [1, 8]) (by kernel_rfl) (by simp) ?_
          refine AllReadyH.cons rfl (fun K hK => ?_) ?_
          · have cc := fcell0 (unhide HC) 1 _ rfl
            go_simp
            clear cc
            refine hK.out _ _ ?_ (fun hHeld => ?_)
            · try dsimp only
              first | exact ⟨(unhide SJ _ (unhide F)).1, (unhide SJ _ (unhide F)).2, (unhide KK _ (unhide G)).1, (unhide KK _ (unhide G)).2⟩ | exact ⟨(unhide SJ _ (unhide F)).1, (unhide SJ _ (unhide F)).2, (unhide KC).1, (unhide KC).2⟩
            clear hK K
            refine hP ?_
            refine wpAnyH_ready (rs := [8]) (by kernel_rfl) (by simp) ?_
            refine AllReadyH.cons rfl (fun K hK => ?_) ?_
            · refine step_newRt rfl 58 rfl ⟨rh, rp2, rl⟩ rfl ?_
              intro B5 U5 hE hEn hb
              have HB5 := hide hEn
              have HC := hide (later_block hb (unhide HC))
              have OW := hide (owns_later (unhide OW) hb)
              have F := hide (grown_low (unhide F) (hb.mono (unhide F).size))
              have G := hide (grown_low (unhide G) (hb.mono (unhide G).size))
              clear hE hEn hb
              refine hK.out _ _ ?_ (fun hHeld => ?_)
              · try dsimp only
                first | exact ⟨(unhide SJ _ (unhide F)).1, (unhide SJ _ (unhide F)).2, (unhide KK _ (unhide G)).1, (unhide KK _ (unhide G)).2⟩ | exact ⟨(unhide SJ _ (unhide F)).1, (unhide SJ _ (unhide F)).2, (unhide KC).1, (unhide KC).2⟩
              clear hK K
              refine hP ?_
              refine wpAnyH_ready (rs := [9]) (by kernel_rfl) (by simp) ?_
              refine AllReadyH.cons rfl (fun K hK => ?_) ?_
              · refine step_appendRt rfl (.tmp 52) (.tmp 59) rfl V2.heap.size sp2 j sc2 (x.rs.take j) rfl (unhide LT) (unhide OW) B5 ⟨rh, rp2, rl⟩ rfl (unhide HB5) (by have := unhide LM; omega) (unhide F).size ?_
                intro tp6 tc6 U6 ho hg
                have hb : Below V2.heap.size U5 U6 := by
                  cases hbk : blk sp2 with
                  | none => rw [hbk] at hg; exact ⟨hg.os, hg.tape, hg.output, hg.size, fun g hgl => hg.block g (Nat.lt_of_lt_of_le hgl (unhide F).size) (by simp)⟩
                  | some r =>
                    rw [hbk] at hg
                    have := (owns_kind (unhide OW) hbk).1
                    exact ⟨hg.os, hg.tape, hg.output, hg.size, fun g hgl => hg.block g (Nat.lt_of_lt_of_le hgl (unhide F).size) (by intro e; have := Option.some.inj e; omega)⟩
                have hk6 : U6.heap[KB]? = U5.heap[KB]? := by
                  have hK5 : U5.heap[KB]? = some (.cells #[.string rh, .string rp2] 98 (0, 0)) := ((unhide G).block KB (unhide W3K) (fun e => by have := Option.some.inj e; have := unhide CV2; have := unhide KW; omega)).trans (unhide XK)
                  cases hbk : blk sp2 with
                  | none => rw [hbk] at hg; exact hg.block KB (Array.getElem?_eq_some_iff.1 hK5).1 (by simp)
                  | some r =>
                    rw [hbk] at hg
                    obtain ⟨_, cur, hr⟩ := owns_kind (unhide OW) hbk
                    exact hg.block KB (Array.getElem?_eq_some_iff.1 hK5).1 (fun e => by
                      rw [Option.some.inj e, hr] at hK5
                      simp only [Option.some.injEq, Obj.cells.injEq] at hK5
                      exact absurd hK5.2.1 (by decide))
                have NK := hide (show C ≠ KB by have := unhide CV2; have := unhide KW; omega)
                have KC := hide (show U6.cell? ⟨KB, 0, none⟩ = some (.string rh) ∧ U6.cell? ⟨KB, 1, none⟩ = some (.string rp2) from ⟨(World.cell?_of_block hk6).trans (unhide KK _ (unhide G)).1, (World.cell?_of_block hk6).trans (unhide KK _ (unhide G)).2⟩)
                have O6 := hide ho
                have HC := hide ((hb.block C (unhide CV2)).trans (unhide HC))
                have F := hide (grown_low (unhide F) hb)
                clear ho hb hg hk6
                refine hK.out _ _ ?_ (fun hHeld => ?_)
                · try dsimp only
                  first | exact ⟨(unhide SJ _ (unhide F)).1, (unhide SJ _ (unhide F)).2, (unhide KK _ (unhide G)).1, (unhide KK _ (unhide G)).2⟩ | exact ⟨(unhide SJ _ (unhide F)).1, (unhide SJ _ (unhide F)).2, (unhide KC).1, (unhide KC).2⟩
                clear hK K
                refine hP ?_
                refine hT 10 ?_
                refine wpAnyH_ready (rs := [11]) (by kernel_rfl) (by simp) ?_
                refine AllReadyH.cons rfl (fun K hK => ?_) ?_
                · have cc := fcell0 (unhide HC) 1 _ rfl
                  have cf : U6.frozen? ⟨C, 1, none⟩ = false := by simp [World.frozen?, unhide HC]
                  have a1 := heap_setCell_same U6 C 1 _ 53 (.slice tp6 (j + 1) tc6) (unhide HC)
                  have a2 := grownSet U6 C 1 (.slice tp6 (j + 1) tc6)
                  have O6 := hide (owns_other (w' := U6.setCell ⟨C, 1, none⟩ (.slice tp6 (j + 1) tc6)) (unhide O6) a2 (unhide HC) (by decide))
                  have F := hide (grown_same (unhide F) a2)
                  have KC := hide (show (U6.setCell ⟨C, 1, none⟩ (.slice tp6 (j + 1) tc6)).cell? ⟨KB, 0, none⟩ = some (.string rh) ∧ (U6.setCell ⟨C, 1, none⟩ (.slice tp6 (j + 1) tc6)).cell? ⟨KB, 1, none⟩ = some (.string rp2) from ⟨(cell_aside _ _ (unhide NK).symm).trans (unhide KC).1, (cell_aside _ _ (unhide NK).symm).trans (unhide KC).2⟩)
                  have HC := hide (show (U6.setCell ⟨C, 1, none⟩ (.slice tp6 (j + 1) tc6)).heap[C]? = some (.cells #[.int .i64 x.ver, .slice tp6 (j + 1) tc6, .slice tp n tc] 53 (0, 0)) from a1)
                  clear a1 a2
                  go_simp
                  clear cc cf
                  refine hK.out _ _ ?_ (fun hHeld => ?_)
                  · try dsimp only
                    first | exact ⟨(unhide SJ _ (unhide F)).1, (unhide SJ _ (unhide F)).2, (unhide KK _ (unhide G)).1, (unhide KK _ (unhide G)).2⟩ | exact ⟨(unhide SJ _ (unhide F)).1, (unhide SJ _ (unhide F)).2, (unhide KC).1, (unhide KC).2⟩
                  clear hK K
                  refine hP ?_
                  refine wpAnyH_done (by kernel_rfl) ?_ _
                  have IV := hide (show GrI x.ver C x.rs (.slice tp n tc) V2 (j + 1) (U6.setCell ⟨C, 1, none⟩ (.slice tp6 (j + 1) tc6)) from ⟨tp6, tc6, by rw [unhide TK]; exact unhide O6, unhide HC, unhide F⟩)
                  generalize U6.setCell ⟨C, 1, none⟩ (.slice tp6 (j + 1) tc6) = U7 at *
                  clear F HC O6 hHeld
                  have hln := unhide LM
                  go_wp2
                  exact ⟨⟨j + 1, by have := unhide HJ; omega, by go_num, IV⟩, by have := unhide HJ; simp [intOf]; omega⟩
                exact AllReadyH.nil
              exact AllReadyH.nil
            exact AllReadyH.nil
          refine AllReadyH.cons rfl (fun K hK => ?_) ?_
          · refine step_newRt rfl 58 rfl ⟨rh, rp2, rl⟩ rfl ?_
            intro B5 U5 hE hEn hb
            have HB5 := hide hEn
            have HC := hide (later_block hb (unhide HC))
            have OW := hide (owns_later (unhide OW) hb)
            have F := hide (grown_low (unhide F) (hb.mono (unhide F).size))
            have G := hide (grown_low (unhide G) (hb.mono (unhide G).size))
            clear hE hEn hb
            refine hK.out _ _ ?_ (fun hHeld => ?_)
            · try dsimp only
              first | exact ⟨(unhide SJ _ (unhide F)).1, (unhide SJ _ (unhide F)).2, (unhide KK _ (unhide G)).1, (unhide KK _ (unhide G)).2⟩ | exact ⟨(unhide SJ _ (unhide F)).1, (unhide SJ _ (unhide F)).2, (unhide KC).1, (unhide KC).2⟩
            clear hK K
            refine hP ?_
            refine wpAnyH_ready (rs := [1]) (by kernel_rfl) (by simp) ?_
            refine AllReadyH.cons rfl (fun K hK => ?_) ?_
            · have cc := fcell0 (unhide HC) 1 _ rfl
              go_simp
              clear cc
              refine hK.out _ _ ?_ (fun hHeld => ?_)
              · try dsimp only
                first | exact ⟨(unhide SJ _ (unhide F)).1, (unhide SJ _ (unhide F)).2, (unhide KK _ (unhide G)).1, (unhide KK _ (unhide G)).2⟩ | exact ⟨(unhide SJ _ (unhide F)).1, (unhide SJ _ (unhide F)).2, (unhide KC).1, (unhide KC).2⟩
              clear hK K
              refine hP ?_
              refine wpAnyH_ready (rs := [9]) (by kernel_rfl) (by simp) ?_
              refine AllReadyH.cons rfl (fun K hK => ?_) ?_
              · refine step_appendRt rfl (.tmp 52) (.tmp 59) rfl V2.heap.size sp2 j sc2 (x.rs.take j) rfl (unhide LT) (unhide OW) B5 ⟨rh, rp2, rl⟩ rfl (unhide HB5) (by have := unhide LM; omega) (unhide F).size ?_
                intro tp6 tc6 U6 ho hg
                have hb : Below V2.heap.size U5 U6 := by
                  cases hbk : blk sp2 with
                  | none => rw [hbk] at hg; exact ⟨hg.os, hg.tape, hg.output, hg.size, fun g hgl => hg.block g (Nat.lt_of_lt_of_le hgl (unhide F).size) (by simp)⟩
                  | some r =>
                    rw [hbk] at hg
                    have := (owns_kind (unhide OW) hbk).1
                    exact ⟨hg.os, hg.tape, hg.output, hg.size, fun g hgl => hg.block g (Nat.lt_of_lt_of_le hgl (unhide F).size) (by intro e; have := Option.some.inj e; omega)⟩
                have hk6 : U6.heap[KB]? = U5.heap[KB]? := by
                  have hK5 : U5.heap[KB]? = some (.cells #[.string rh, .string rp2] 98 (0, 0)) := ((unhide G).block KB (unhide W3K) (fun e => by have := Option.some.inj e; have := unhide CV2; have := unhide KW; omega)).trans (unhide XK)
                  cases hbk : blk sp2 with
                  | none => rw [hbk] at hg; exact hg.block KB (Array.getElem?_eq_some_iff.1 hK5).1 (by simp)
                  | some r =>
                    rw [hbk] at hg
                    obtain ⟨_, cur, hr⟩ := owns_kind (unhide OW) hbk
                    exact hg.block KB (Array.getElem?_eq_some_iff.1 hK5).1 (fun e => by
                      rw [Option.some.inj e, hr] at hK5
                      simp only [Option.some.injEq, Obj.cells.injEq] at hK5
                      exact absurd hK5.2.1 (by decide))
                have NK := hide (show C ≠ KB by have := unhide CV2; have := unhide KW; omega)
                have KC := hide (show U6.cell? ⟨KB, 0, none⟩ = some (.string rh) ∧ U6.cell? ⟨KB, 1, none⟩ = some (.string rp2) from ⟨(World.cell?_of_block hk6).trans (unhide KK _ (unhide G)).1, (World.cell?_of_block hk6).trans (unhide KK _ (unhide G)).2⟩)
                have O6 := hide ho
                have HC := hide ((hb.block C (unhide CV2)).trans (unhide HC))
                have F := hide (grown_low (unhide F) hb)
                clear ho hb hg hk6
                refine hK.out _ _ ?_ (fun hHeld => ?_)
                · try dsimp only
                  first | exact ⟨(unhide SJ _ (unhide F)).1, (unhide SJ _ (unhide F)).2, (unhide KK _ (unhide G)).1, (unhide KK _ (unhide G)).2⟩ | exact ⟨(unhide SJ _ (unhide F)).1, (unhide SJ _ (unhide F)).2, (unhide KC).1, (unhide KC).2⟩
                clear hK K
                refine hP ?_
                refine hT 10 ?_
                refine wpAnyH_ready (rs := [11]) (by kernel_rfl) (by simp) ?_
                refine AllReadyH.cons rfl (fun K hK => ?_) ?_
                · have cc := fcell0 (unhide HC) 1 _ rfl
                  have cf : U6.frozen? ⟨C, 1, none⟩ = false := by simp [World.frozen?, unhide HC]
                  have a1 := heap_setCell_same U6 C 1 _ 53 (.slice tp6 (j + 1) tc6) (unhide HC)
                  have a2 := grownSet U6 C 1 (.slice tp6 (j + 1) tc6)
                  have O6 := hide (owns_other (w' := U6.setCell ⟨C, 1, none⟩ (.slice tp6 (j + 1) tc6)) (unhide O6) a2 (unhide HC) (by decide))
                  have F := hide (grown_same (unhide F) a2)
                  have KC := hide (show (U6.setCell ⟨C, 1, none⟩ (.slice tp6 (j + 1) tc6)).cell? ⟨KB, 0, none⟩ = some (.string rh) ∧ (U6.setCell ⟨C, 1, none⟩ (.slice tp6 (j + 1) tc6)).cell? ⟨KB, 1, none⟩ = some (.string rp2) from ⟨(cell_aside _ _ (unhide NK).symm).trans (unhide KC).1, (cell_aside _ _ (unhide NK).symm).trans (unhide KC).2⟩)
                  have HC := hide (show (U6.setCell ⟨C, 1, none⟩ (.slice tp6 (j + 1) tc6)).heap[C]? = some (.cells #[.int .i64 x.ver, .slice tp6 (j + 1) tc6, .slice tp n tc] 53 (0, 0)) from a1)
                  clear a1 a2
                  go_simp
                  clear cc cf
                  refine hK.out _ _ ?_ (fun hHeld => ?_)
                  · try dsimp only
                    first | exact ⟨(unhide SJ _ (unhide F)).1, (unhide SJ _ (unhide F)).2, (unhide KK _ (unhide G)).1, (unhide KK _ (unhide G)).2⟩ | exact ⟨(unhide SJ _ (unhide F)).1, (unhide SJ _ (unhide F)).2, (unhide KC).1, (unhide KC).2⟩
                  clear hK K
                  refine hP ?_
                  refine wpAnyH_done (by kernel_rfl) ?_ _
                  have IV := hide (show GrI x.ver C x.rs (.slice tp n tc) V2 (j + 1) (U6.setCell ⟨C, 1, none⟩ (.slice tp6 (j + 1) tc6)) from ⟨tp6, tc6, by rw [unhide TK]; exact unhide O6, unhide HC, unhide F⟩)
                  generalize U6.setCell ⟨C, 1, none⟩ (.slice tp6 (j + 1) tc6) = U7 at *
                  clear F HC O6 hHeld
                  have hln := unhide LM
                  go_wp2
                  exact ⟨⟨j + 1, by have := unhide HJ; omega, by go_num, IV⟩, by have := unhide HJ; simp [intOf]; omega⟩
                exact AllReadyH.nil
              exact AllReadyH.nil
            exact AllReadyH.nil
          exact AllReadyH.nil
        · as_aux_lemma =>
          have hjj : ¬ (j : Int) < (m : Int) := by omega
          have hjn2 : m = j := by omega
          subst hjn2
          have e0 := fcell0 (unhide HC2) 0 _ rfl
          have e1 := fcell0 (unhide HC2) 1 _ rfl
          have e2 := fcell0 (unhide HC2) 2 _ rfl
          have XD := hide (unhide RES _ (unhide FW2))
          have z0 := fcell0 (unhide XD) 0 _ rfl
          have z1 := fcell0 (unhide XD) 1 _ rfl
          have z2 := fcell0 (unhide XD) 2 _ rfl
          have f0 : wr.frozen? ⟨w.heap.size, 0, none⟩ = false := by simp [World.frozen?, unhide XD]
          have f1 : wr.frozen? ⟨w.heap.size, 1, none⟩ = false := by simp [World.frozen?, unhide XD]
          have f2 : wr.frozen? ⟨w.heap.size, 2, none⟩ = false := by simp [World.frozen?, unhide XD]
          obtain ⟨a1, a2⟩ := set3 (x := .int .i64 x.ver) (y := .slice sp2 m sc2) (z := .slice tp n tc) (unhide XD)
          have A1 := hide a1
          have A2 := hide a2
          clear a1 a2
          go_wp2
          generalize (((wr.setCell ⟨w.heap.size, 0, none⟩ (.int .i64 x.ver)).setCell ⟨w.heap.size, 1, none⟩ (.slice sp2 m sc2)).setCell ⟨w.heap.size, 2, none⟩ (.slice tp n tc)) = W9 at *
          clear z0 z1 z2 f0 f1 f2 e0 e1 e2
          have g0 : W9.cell? ⟨w.heap.size, 0, none⟩ = some (.int .i64 x.ver) := fcell0 (unhide A1) 0 _ rfl
          have g1 : W9.cell? ⟨w.heap.size, 1, none⟩ = some (.slice sp2 m sc2) := fcell0 (unhide A1) 1 _ rfl
          have g2 : W9.cell? ⟨w.heap.size, 2, none⟩ = some (.slice tp n tc) := fcell0 (unhide A1) 2 _ rfl
          have hpo : List.map Pq.po l = x.ps.map Pq.po := by rw [unhide LP, List.take_of_length_le (by rw [List.length_map, unhide HN]; exact Nat.le_refl _)]
          have hrs : x.rs.take m = x.rs := List.take_of_length_le (by rw [unhide HM]; exact Nat.le_refl _)
          have hlow : w.heap.size ≤ V.heap.size := by have := unhide CV; have := unhide CW; omega
          have hlow2 : V.heap.size ≤ V2.heap.size := Nat.le_trans (unhide FW).size (unhide B3).size
          have hq9 := ((unhide OQ).other (unhide FW2) (unhide XC2) (by decide) (by decide)).other (unhide A2) (unhide XD) (by decide) (by decide)
          have hr9 := unhide OW2
          rw [hrs] at hr9
          have hr9 : OwnRt V2.heap.size W9 sp2 sc2 x.rs := owns_other hr9 (unhide A2) (unhide XD) (by decide)
          obtain ⟨hpos, hpc⟩ := hq9.at_ (fun y hy => by
            have hy2 : y.po ∈ x.ps.map Pq.po := by rw [← hpo]; exact List.mem_map_of_mem hy
            obtain ⟨z, hz, e⟩ := List.mem_map.1 hy2
            have hT := (s.tg z hz).lt
            have hl := (hx.t.ps z.po (by simp only [Sm.cf]; exact List.mem_map_of_mem hz)).2.1
            rw [e] at hT hl
            exact ⟨hT, by simp only [maxLen]; omega⟩)
          rw [hpo] at hpos
          obtain ⟨hrt, hrc, hrz⟩ := hr9.at_ (fun r hr => by have := hx.t.rs r (by simpa [Sm.cf] using hr); simp only [maxLen]; omega)
          have hn := unhide HN
          have hm := unhide HM
          have hlj := unhide LJ
          have HB := (unhide FB2 _ (unhide FW2)).grown (unhide A2) (unhide FB2 _ (unhide FW2)).size (fun g e => by have := Option.some.inj e; omega)
          refine bodyPost_ret (v := .agg #[.int .i64 x.ver, .slice sp2 m sc2, .slice tp n tc]) (by simp [results, Tryz.results21, go_sem, g0, g1, g2]) rfl ⟨⟨sp2, sc2, tp, tc⟩, by rw [← hn, ← hm]; simp [cfVal, Sm.cf], ⟨hx.ver, hrt, hpos, ⟨?_, ?_⟩, ⟨?_, ?_⟩, hrz⟩, HB, ⟨l, hq9.low hlow, hpo⟩, hr9.low (Nat.le_trans hlow hlow2)⟩
          · have := unhide LM; simp only [Sm.cf, maxLen]; omega
          · simpa [Sm.cf] using hrc
          · have := unhide LN; simp only [Sm.cf, maxLen, List.length_map]; omega
          · simp only [Sm.cf, List.length_map]; omega
end Go.Proofs.YtpkpnedcecjlbaaGreatDoor
