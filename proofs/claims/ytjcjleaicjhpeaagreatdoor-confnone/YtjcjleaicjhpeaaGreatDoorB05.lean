/- Plane: a configuration copied, by the document. -/
import Derived.Test.YtjcjleaicjhpeaaGreatDoorB04
namespace Go.Proofs.YtjcjleaicjhpeaaGreatDoor
open Go.ChangeShapes Go.WideShapes Go.ChangeAt Go.RowKit

theorem big_each (l : List Po) : ∀ n, n ≤ bigN l n ∧ ∀ i, i < n → min (l.getD i default).ts.length 1000 ≤ bigN l n
  | 0 => ⟨Nat.zero_le _, fun i hi => by omega⟩
  | n + 1 => by
    obtain ⟨h1, h2⟩ := big_each l n
    have e : bigN l (n + 1) = bigN l n + (1 + min (l.getD n default).ts.length 1000) := rfl
    refine ⟨by omega, fun i hi => ?_⟩
    by_cases hin : i < n
    · have := h2 i hin
      omega
    · obtain rfl : i = n := by omega
      omega
theorem short_each {e : Cf} (h : shortC e = true) : e.rs.length ≤ 200 ∧ e.ps.length ≤ 200 ∧ ∀ p ∈ e.ps, p.ts.length ≤ 200 := by
  simp only [shortC, Bool.and_eq_true, decide_eq_true_eq] at h
  obtain ⟨h1, h2⟩ := big_each e.ps e.ps.length
  refine ⟨h.2, by omega, fun p hp => ?_⟩
  obtain ⟨i, hi, rfl⟩ := List.getElem_of_mem hp
  have h3 := h2 i hi
  rw [po_at _ _ hi] at h3
  omega
/-- No more routes, pools and targets than may be copied. -/
def SmallC (e : Cf) : Prop := e.rs.length ≤ 1000 ∧ e.ps.length ≤ 1000 ∧ ∀ p ∈ e.ps, p.ts.length ≤ 1000
theorem short_small {e : Cf} (h : shortC e = true) : SmallC e := by
  obtain ⟨h1, h2, h3⟩ := short_each h
  exact ⟨by omega, by omega, fun p hp => by have := h3 p hp; omega⟩
theorem own_stays {base : Nat} {w w' : World} {T : TypeId} {k n g c : Nat} {xs : List Value} (h : w.ownsRow base T k (.slice (some ⟨g, 0, none⟩) n c) n xs) (hb : base ≤ g → g < w.heap.size → w'.heap[g]? = w.heap[g]?) : w'.ownsRow base T k (.slice (some ⟨g, 0, none⟩) n c) n xs := by
  refine ⟨h.1, ?_⟩
  rcases h.2 with ⟨hv, h0⟩ | ⟨g', cap, cur, hv, hbg, hg, r⟩
  · cases hv
  · simp only [Value.slice.injEq, Option.some.injEq, Addr.mk.injEq, and_true, true_and] at hv
    obtain ⟨rfl, rfl⟩ := hv
    exact .inr ⟨g, c, cur, rfl, hbg, (hb hbg (Array.getElem?_eq_some_iff.1 hg).1).trans hg, r⟩
theorem OwnW.blk_lt {base : Nat} {w : World} {sp : Option Addr} {c : Nat} {l : List Pw} (h : OwnW base w sp c l) : ∀ g, sp.map (·.block) = some g → g < w.heap.size := fun g hg => by
  rcases h.row.2 with ⟨hv, h0⟩ | ⟨g', cap, cur, hv, hbg, hh, _⟩
  · simp only [Value.slice.injEq] at hv
    rw [hv.1] at hg
    cases hg
  · simp only [Value.slice.injEq] at hv
    rw [hv.1] at hg
    cases hg
    exact (Array.getElem?_eq_some_iff.1 hh).1
theorem grown_low {V W U : World} {C : Nat} (h : V.grownBy W (some C)) (hb : Below V.heap.size W U) : V.grownBy U (some C) :=
  ⟨hb.os.trans h.os, hb.tape.trans h.tape, hb.output.trans h.output, Nat.le_trans h.size hb.size, fun k hk hne => (hb.block k hk).trans (h.block k hk hne)⟩
theorem grown_same {V W U : World} {C : Nat} (h : V.grownBy W (some C)) (k : W.grownBy U (some C)) : V.grownBy U (some C) :=
  ⟨k.os.trans h.os, k.tape.trans h.tape, k.output.trans h.output, Nat.le_trans h.size k.size, fun i hi hne => (k.block i (Nat.lt_of_lt_of_le hi h.size) hne).trans (h.block i hi hne)⟩
theorem OwnW.low {base base' : Nat} {w : World} {sp : Option Addr} {c : Nat} {l : List Pw} (h : OwnW base w sp c l) (hb : base' ≤ base) : OwnW base' w sp c l := ⟨⟨h.row.1, h.row.2.imp id (fun ⟨g, cap, cur, h1, h2, h3⟩ => ⟨g, cap, cur, h1, Nat.le_trans hb h2, h3⟩)⟩, fun x hx => ⟨(h.dat x hx).1.low hb, (h.dat x hx).2⟩⟩
/-- How far the copy is. -/
def CpI (ver : Int) (C g n c3 : Nat) (ps : List Po) (V : World) (j : Nat) (wr : World) : Prop :=
  ∃ sp c l, List.map Pw.po l = ps.take j ∧ l.length = j ∧ OwnW V.heap.size wr sp c l ∧ wr.heap[C]? = some (.cells #[.int .i64 ver, .slice (some ⟨g, 0, none⟩) n c3, .slice sp j c] 45 (0, 0)) ∧ V.grownBy wr (some C)
set_option maxRecDepth 20000 in
set_option maxHeartbeats 16000000 in
theorem copyG_calls {w : World} {e : Cf} {h : CfH} (hc : CfAt w e h) (hs : SmallC e) : Calls Tryz.prog 68 #[cfVal e h] w fun r w' => ∃ h', r = .returned (cfVal e h') ∧ CfAt w' e h' ∧ Below w.heap.size w w' ∧ ∃ l, OwnW w.heap.size w' h'.pa h'.pc l ∧ l.map Pw.po = e.ps := by
  unfold cfVal
  obtain ⟨hr2, hp2, ht2⟩ := hs
  have b1 : Below w.heap.size w (w.alloc (.cells #[.int .i64 e.ver, .slice h.ra e.rs.length h.rc, .slice h.pa e.ps.length h.pc] 45)) := (Below.refl _ _).alloc (Nat.le_refl _) _
  have b2 := b1.alloc b1.size (.cells #[.int .i64 0, .slice none 0 0, .slice none 0 0] 45)
  have s1 : (w.alloc (.cells #[.int .i64 e.ver, .slice h.ra e.rs.length h.rc, .slice h.pa e.ps.length h.pc] 45)).heap.size = w.heap.size + 1 := by simp
  have X1 := hide (show ((w.alloc (.cells #[.int .i64 e.ver, .slice h.ra e.rs.length h.rc, .slice h.pa e.ps.length h.pc] 45)).alloc (.cells #[.int .i64 0, .slice none 0 0, .slice none 0 0] 45)).heap[w.heap.size]? = some (.cells #[.int .i64 e.ver, .slice h.ra e.rs.length h.rc, .slice h.pa e.ps.length h.pc] 45 (0, 0)) by rw [Below.heap_alloc _ _ _ (by simp)]; exact heap_new _ _)
  have X2 := hide (show ((w.alloc (.cells #[.int .i64 e.ver, .slice h.ra e.rs.length h.rc, .slice h.pa e.ps.length h.pc] 45)).alloc (.cells #[.int .i64 0, .slice none 0 0, .slice none 0 0] 45)).heap[w.heap.size + 1]? = some (.cells #[.int .i64 0, .slice none 0 0, .slice none 0 0] 45 (0, 0)) by rw [← s1]; exact heap_new _ _)
  have Z2 := hide (show ((w.alloc (.cells #[.int .i64 e.ver, .slice h.ra e.rs.length h.rc, .slice h.pa e.ps.length h.pc] 45)).alloc (.cells #[.int .i64 0, .slice none 0 0, .slice none 0 0] 45)).heap.size = w.heap.size + 2 by simp)
  have B2 := hide b2
  have R1 := hide hc.rts
  have P1 := hide hc.pos
  have WV := hide hc.wv
  have hrz := hc.rz
  obtain ⟨ver, rs, ps⟩ := e
  obtain ⟨ra, rc, pa, pc⟩ := h
  simp only at *
  have RN := hide (show ra = none → rs.length = 0 ∧ rc = 0 from fun e => by subst e; exact ⟨(unhide R1).nil, hrz rfl⟩)
  have RL := hide (rowsR_length rs)
  have TS := hide ht2
  generalize hn : rs.length = n at *
  generalize hm : ps.length = m at *
  have HN := hide hn
  have HM := hide hm
  clear hc b1 b2 s1 hrz ht2 hn hm
  obtain ⟨i0, hi, hz0, hz1, hz2⟩ := info_parts infoRt
  obtain ⟨i1, ti, tz0, tz1, tz2⟩ := info_parts infoT
  have I0 := hide hi
  have I1 := hide hz0
  have I2 := hide hz1
  have I3 := hide hz2
  have J0 := hide ti
  have J1 := hide tz0
  have J2 := hide tz1
  have J3 := hide tz2
  clear hi hz0 hz1 hz2 ti tz0 tz1 tz2
  go_enter Tryz.func68, Tryz.ntmps68
  go_wp2_with fail
  generalize ((w.alloc (.cells #[.int .i64 ver, .slice ra n rc, .slice pa m pc] 45)).alloc (.cells #[.int .i64 0, .slice none 0 0, .slice none 0 0] 45)) = W2 at *
  have d0 := fcell0 (unhide X1) 0 _ rfl
  have d1 := fcell0 (unhide X1) 1 _ rfl
  have d2 := fcell0 (unhide X1) 2 _ rfl
  have D2 := hide d2
  have SS := hide (show ∀ W : World, Below W2.heap.size W2 W → W.cell? ⟨w.heap.size, 0, none⟩ = some (.int .i64 ver) ∧ W.cell? ⟨w.heap.size, 1, none⟩ = some (.slice ra n rc) from fun W hb => ⟨cell_later hb d0, cell_later hb d1⟩)
  have R2 := hide ((unhide R1).later (unhide B2))
  have P2 := hide ((unhide P1).later (unhide B2))
  have F := hide (show Below W2.heap.size W2 W2.drew from (Below.refl _ _).drew)
  clear d0 d1 d2
  refine wp_region_held_drew (S := fun w' => w'.cell? ⟨w.heap.size, 0, none⟩ = some (.int .i64 ver) ∧ w'.cell? ⟨w.heap.size, 1, none⟩ = some (.slice ra n rc)) (by kernel_rfl) ?_ (fun hHeld => ?_)
  · try dsimp only
    exact unhide SS _ (unhide F)
  refine hT 0 ?_
  refine hT 1 ?_
  refine hT 3 ?_
  refine hT 4 ?_
  refine wpAnyH_ready (rs := [2, 7]) (by kernel_rfl) (by simp) ?_
  refine AllReadyH.cons rfl (fun K hK => ?_) ?_
  · refine step_newR rfl rfl ?_
    intro E U hE hEn hb
    have LE := hide (show W2.heap.size ≤ E by rw [← hE]; exact (unhide F).size)
    have HE := hide hEn
    first
      | (have hV : HC = HC := rfl
         clear hV
         have NE := hide (show C ≠ E by have := (Array.getElem?_eq_some_iff.1 (unhide HC)).1; omega)
         have HC := hide (later_block hb (unhide HC)))
      | skip
    have F := hide ((unhide F).trans (hb.mono (unhide F).size))
    clear hE hEn hb
    refine hK.out _ _ ?_ (fun hHeld => ?_)
    · try dsimp only
      exact unhide SS _ (unhide F)
    clear hK K
    refine hP ?_
    refine wpAnyH_ready (rs := [5, 7]) (by kernel_rfl) (by simp) ?_
    refine AllReadyH.cons rfl (fun K hK => ?_) ?_
    · refine step_cloneG rfl (.tmp 7) (.tmp 9) 42 56 rfl i0 _ 3 48 Tryz.underlying42 (unhide I0) (unhide I1) (unhide I2) (unhide I3) rfl (by omega) E rfl (unhide HE) ra n rc rfl (unhide RN) (rowsR rs) (unhide RL) ((unhide R2).later (unhide F)).news (rt_oneCell rs) (by omega) (by omega) ?_
      intro g3 c3 U ho3 hg3 hw3
      have hEl := (Array.getElem?_eq_some_iff.1 (unhide HE)).1
      have O3 := hide ho3
      first
        | (have hV : HC = HC := rfl
           clear hV
           have NC := hide (show g3 ≠ C by have := (Array.getElem?_eq_some_iff.1 (unhide HC)).1; have := unhide NE; omega)
           have HC := hide ((hg3.block C (Array.getElem?_eq_some_iff.1 (unhide HC)).1 (fun e => unhide NE (Option.some.inj e))).trans (unhide HC)))
        | skip
      have GL := hide (show W2.heap.size ≤ g3 by have := unhide LE; have := (unhide F).size; omega)
      have G3 := hide (show g3 < U.heap.size by
        rcases ho3.2 with ⟨hv, _⟩ | ⟨g', cap, cur, hv, _, hg, _⟩
        · cases hv
        · simp only [Value.slice.injEq, Option.some.injEq, Addr.mk.injEq, and_true, true_and] at hv
          rw [hv.1]
          exact (Array.getElem?_eq_some_iff.1 hg).1)
      have F := hide ((unhide F).grown hg3 (unhide F).size (fun g hg => by have := Option.some.inj hg; have := unhide LE; omega))
      clear ho3 hg3 hw3 hEl
      refine hK.out _ _ ?_ (fun hHeld => ?_)
      · try dsimp only
        exact unhide SS _ (unhide F)
      clear hK K
      refine hP ?_
      refine hT 6 ?_
      refine wpAnyH_ready (rs := [7]) (by kernel_rfl) (by simp) ?_
      refine AllReadyH.cons rfl (fun K hK => ?_) ?_
      · refine step_newC rfl rfl ?_
        intro C U hC hCn hb
        have LC := hide (show W2.heap.size ≤ C by rw [← hC]; exact (unhide F).size)
        have HC := hide hCn
        first
          | (have hV : O3 = O3 := rfl
             clear hV
             have NC := hide (show g3 ≠ C by have := unhide G3; omega)
             have O3 := hide (own_stays (unhide O3) (fun _ hg => hb.block _ hg))
             have G3 := hide (Nat.lt_of_lt_of_le (unhide G3) hb.size))
          | (have hV : HE = HE := rfl
             clear hV
             have NE := hide (show C ≠ E by have := (Array.getElem?_eq_some_iff.1 (unhide HE)).1; omega)
             have HE := hide (later_block hb (unhide HE)))
          | skip
        have F := hide ((unhide F).trans (hb.mono (unhide F).size))
        clear hC hCn hb
        refine hK.out _ _ ?_ (fun hHeld => ?_)
        · try dsimp only
          exact unhide SS _ (unhide F)
        clear hK K
        refine hP ?_
        refine wpAnyH_ready (rs := [8]) (by kernel_rfl) (by simp) ?_
        refine AllReadyH.cons rfl (fun K hK => ?_) ?_
        · obtain ⟨a1, a2⟩ := set3 (x := .int .i64 ver) (y := .slice (some ⟨g3, 0, none⟩) n c3) (z := .slice none 0 0) (unhide HC)
          have F := hide ((unhide F).grown a2 (unhide F).size (fun g hg => by have := Option.some.inj hg; have := unhide LC; omega))
          have O3 := hide (own_stays (unhide O3) (fun _ hg => a2.block _ hg (fun e => unhide NC (Option.some.inj e))))
          have G3 := hide (Nat.lt_of_lt_of_le (unhide G3) a2.size)
          have u0 := fcell0 (unhide HC) 0 _ rfl
          have u1 := fcell0 (unhide HC) 1 _ rfl
          have u2 := fcell0 (unhide HC) 2 _ rfl
          have f0 : U.frozen? ⟨C, 0, none⟩ = false := by simp [World.frozen?, unhide HC]
          have f1 : U.frozen? ⟨C, 1, none⟩ = false := by simp [World.frozen?, unhide HC]
          have f2 : U.frozen? ⟨C, 2, none⟩ = false := by simp [World.frozen?, unhide HC]
          have HC := hide a1
          clear a1 a2
          go_simp
          clear u0 u1 u2 f0 f1 f2
          refine hK.out _ _ ?_ (fun hHeld => ?_)
          · try dsimp only
            exact unhide SS _ (unhide F)
          clear hK K
          refine hP ?_
          refine wpAnyH_done (by kernel_rfl) ?_ _
          generalize (((U.setCell ⟨C, 0, none⟩ (.int .i64 ver)).setCell ⟨C, 1, none⟩ (.slice (some ⟨g3, 0, none⟩) n c3)).setCell ⟨C, 2, none⟩ (.slice none 0 0)) = V at *
          have CV := hide (Array.getElem?_eq_some_iff.1 (unhide HC)).1
          have RT := hide (show ∀ W : World, V.grownBy W (some C) → RtsAt W (some ⟨g3, 0, none⟩) rs ∧ n ≤ c3 from fun W hg => by
            have h3 := own_stays (w' := W) (unhide O3) (fun _ hl => hg.block _ hl (fun e => unhide NC (Option.some.inj e)))
            have hn := unhide HN
            subst hn
            exact own_routes h3 (unhide R1).sz)
          have FB := hide (show ∀ W : World, V.grownBy W (some C) → Below W2.heap.size W2 W from fun W hg => (unhide F).grown hg (unhide F).size (fun g e => by have := Option.some.inj e; have := unhide LC; omega))
          have Z0 := hide (show CpI ver C g3 n c3 ps V 0 V from ⟨none, 0, [], rfl, rfl, OwnW.ofNil _ _, unhide HC, grown_refl _ _⟩)
          clear hHeld F HC O3
          go_wp2_with fail
          go_loopw [4] (fun i wr => ∃ j : Nat, j ≤ m ∧ i = .int .i64 (j : Int) ∧ Hid (CpI ver C g3 n c3 ps V j wr)) (fun i _ => m - (intOf i).toNat)
          case atStart => exact ⟨0, by omega, rfl, Z0⟩
          case round =>
            obtain ⟨j, hj, rfl, IV⟩ := hrel
            obtain ⟨sp, c, l, hlp, hlj, hOW, hHC, hF⟩ := unhide IV
            have LP := hide hlp
            have LJ := hide hlj
            have OW := hide hOW
            have HC := hide hHC
            have FW := hide hF
            have k2 := cell_later (unhide FB _ hF) (unhide D2)
            clear hlp hlj hOW hHC hF IV
            by_cases hjn : j < m
            · have y0 : (0 : Int) ≤ (j : Int) := by omega
              have y1 : (j : Int) < (m : Int) := by omega
              have hjl : j < ps.length := by rw [unhide HM]; exact hjn
              obtain ⟨b, off, ta, tc, rfl, q0, q1, hT, hl, hz⟩ := (unhide P2).cell j hjl
              have LT := hide ((unhide TS) _ (List.getElem_mem hjl))
              have TK := hide (show ps.take (j + 1) = ps.take j ++ [ps[j]] from by rw [List.take_succ_eq_append_getElem hjl])
              generalize ps[j] = po at *
              obtain ⟨nm, ts⟩ := po
              simp only at q0 q1 hT hl LT
              have TT := hide hT
              have TN := hide (show ta = none → ts.length = 0 ∧ tc = 0 from fun e => by subst e; exact ⟨hT.nil, hz rfl⟩)
              have TL := hide (rowsT_length ts)
              have SS5 := hide (show ∀ W : World, V.grownBy W (some C) → W.cell? ⟨w.heap.size, 2, none⟩ = some (.slice (some ⟨b, off, none⟩) m pc) ∧ W.cell? ⟨b, off + j * 2, none⟩ = some (.string nm) ∧ W.cell? ⟨b, off + j * 2 + 1, none⟩ = some (.slice ta ts.length tc) from fun W hg => ⟨cell_later (unhide FB _ hg) (unhide D2), cell_later (unhide FB _ hg) q0, cell_later (unhide FB _ hg) q1⟩)
              have htl := unhide LT
              clear q0 q1 hT hl hz
              generalize htn : ts.length = tl at *
              have HT := hide htn
              clear htn
              have F := hide (show V.grownBy wr.drew (some C) from grown_low (unhide FW) (Below.refl _ _).drew)
              have G := hide (show Below wr.heap.size wr wr.drew from (Below.refl _ _).drew)
              have HC := hide (show wr.drew.heap[C]? = some (.cells #[.int .i64 ver, .slice (some ⟨g3, 0, none⟩) n c3, .slice sp j c] 45 (0, 0)) from unhide HC)
              have VW := hide (unhide FW).size
              go_wp2_with fail
              refine wp_region_held_drew (S := fun w' => w'.cell? ⟨w.heap.size, 2, none⟩ = some (.slice (some ⟨b, off, none⟩) m pc) ∧ w'.cell? ⟨b, off + j * 2, none⟩ = some (.string nm) ∧ w'.cell? ⟨b, off + j * 2 + 1, none⟩ = some (.slice ta tl tc)) (by kernel_rfl) ?_ (fun hHeld => ?_)
              · try dsimp only
                exact unhide SS5 _ (unhide F)
              refine hT 0 ?_
              refine hT 2 ?_
              refine hT 3 ?_
              refine hT 4 ?_
              refine hT 5 ?_
              refine hT 6 ?_
              refine hT 7 ?_
              refine hT 9 ?_
              refine hT 10 ?_
              refine hT 11 ?_
              refine hT 12 ?_
              refine hT 13 ?_
              refine hT 14 ?_
              refine wpAnyH_ready (rs := [1, 8]) (by kernel_rfl) (by simp) ?_
              refine AllReadyH.cons rfl (fun K hK => ?_) ?_
              · have cc := fcell0 (unhide HC) 2 _ rfl
                go_simp
                clear cc
                refine hK.out _ _ ?_ (fun hHeld => ?_)
                · try dsimp only
                  exact unhide SS5 _ (unhide F)
                clear hK K
                refine hP ?_
                refine wpAnyH_ready (rs := [8]) (by kernel_rfl) (by simp) ?_
                refine AllReadyH.cons rfl (fun K hK => ?_) ?_
                · refine step_newT rfl rfl ?_
                  intro E5 U5 hE hEn hb
                  have LE5 := hide (show wr.heap.size ≤ E5 by rw [← hE]; exact (unhide G).size)
                  have HE5 := hide hEn
                  have HC := hide (later_block hb (unhide HC))
                  have F := hide (grown_low (unhide F) (hb.mono (unhide F).size))
                  have G := hide ((unhide G).trans (hb.mono (unhide G).size))
                  clear hE hEn hb
                  refine hK.out _ _ ?_ (fun hHeld => ?_)
                  · try dsimp only
                    exact unhide SS5 _ (unhide F)
                  clear hK K
                  refine hP ?_
                  refine wpAnyH_ready (rs := [15]) (by kernel_rfl) (by simp) ?_
                  refine AllReadyH.cons rfl (fun K hK => ?_) ?_
                  · refine step_cloneG rfl (.tmp 27) (.tmp 33) 31 70 rfl i1 _ 2 24 Tryz.underlying31 (unhide J0) (unhide J1) (unhide J2) (unhide J3) rfl (by omega) E5 rfl (unhide HE5) ta tl tc rfl (unhide TN) (rowsT ts) (unhide TL) ((unhide TT).later (unhide FB _ (unhide F))).news (tg_oneCell ts) (by omega) (by omega) ?_
                    intro g5 c5 U5 ho hg hw5
                    have HC := hide ((hg.block C (Array.getElem?_eq_some_iff.1 (unhide HC)).1 (fun e => by have := Option.some.inj e; have := unhide LE5; have := unhide VW; have := unhide CV; omega)).trans (unhide HC))
                    have G5 := hide (show wr.heap.size ≤ g5 by have := unhide LE5; have := (unhide G).size; omega)
                    have OT := hide (show OwnT V.heap.size U5 (some ⟨g5, 0, none⟩) c5 ts by
                      have := unhide HT
                      subst this
                      exact OwnT.low ho (Nat.le_trans (unhide VW) (unhide LE5)))
                    have NE5 := hide (show sp.map (·.block) ≠ some g5 from fun e => by have := (unhide OW).blk_lt _ e; have := unhide G5; omega)
                    have F := hide (show V.grownBy U5 (some C) from ⟨hg.os.trans (unhide F).os, hg.tape.trans (unhide F).tape, hg.output.trans (unhide F).output, Nat.le_trans (unhide F).size hg.size, fun k hk hne => (hg.block k (Nat.lt_of_lt_of_le hk (unhide F).size) (fun e => by have := Option.some.inj e; have := unhide LE5; have := unhide VW; omega)).trans ((unhide F).block k hk hne)⟩)
                    have G := hide ((unhide G).grown hg (unhide G).size (fun g e => by have := Option.some.inj e; have := unhide LE5; omega))
                    clear ho hg hw5
                    refine hK.out _ _ ?_ (fun hHeld => ?_)
                    · try dsimp only
                      exact unhide SS5 _ (unhide F)
                    clear hK K
                    refine hP ?_
                    refine hT 16 ?_
                    refine wpAnyH_ready (rs := [17]) (by kernel_rfl) (by simp) ?_
                    refine AllReadyH.cons rfl (fun K hK => ?_) ?_
                    · refine step_newP rfl 35 rfl nm (some ⟨g5, 0, none⟩) tl c5 rfl ?_
                      intro B5 U5 hE hEn hb
                      have HB5 := hide hEn
                      have HC := hide (later_block hb (unhide HC))
                      have F := hide (grown_low (unhide F) (hb.mono (unhide F).size))
                      have OT := hide ((unhide OT).below hb)
                      have G := hide ((unhide G).trans (hb.mono (unhide G).size))
                      clear hE hEn hb
                      refine hK.out _ _ ?_ (fun hHeld => ?_)
                      · try dsimp only
                        exact unhide SS5 _ (unhide F)
                      clear hK K
                      refine hP ?_
                      refine wpAnyH_ready (rs := [18]) (by kernel_rfl) (by simp) ?_
                      refine AllReadyH.cons rfl (fun K hK => ?_) ?_
                      · refine step_appendW rfl (.tmp 20) (.tmp 36) rfl V.heap.size sp j c l rfl (unhide LJ) ((unhide OW).same (fun g _ h2 => (unhide G).block g h2)) B5 ⟨⟨nm, ts⟩, g5, c5⟩ rfl (by have := unhide HT; subst this; exact unhide HB5) (unhide OT) (unhide NE5) (by omega) (unhide F).size ?_
                        intro sp6 c6 U5 ho hb
                        have O6 := hide ho
                        have HC := hide ((hb.block C (unhide CV)).trans (unhide HC))
                        have F := hide (grown_low (unhide F) hb)
                        clear ho hb
                        refine hK.out _ _ ?_ (fun hHeld => ?_)
                        · try dsimp only
                          exact unhide SS5 _ (unhide F)
                        clear hK K
                        refine hP ?_
                        refine hT 19 ?_
                        refine wpAnyH_ready (rs := [20]) (by kernel_rfl) (by simp) ?_
                        refine AllReadyH.cons rfl (fun K hK => ?_) ?_
                        · have cc := fcell0 (unhide HC) 2 _ rfl
                          have cf : U5.frozen? ⟨C, 2, none⟩ = false := by simp [World.frozen?, unhide HC]
                          have a1 := heap_setCell_same U5 C 2 _ 45 (.slice sp6 (j + 1) c6) (unhide HC)
                          have a2 := grownSet U5 C 2 (.slice sp6 (j + 1) c6)
                          have O6 := hide ((unhide O6).same (w' := U5.setCell ⟨C, 2, none⟩ (.slice sp6 (j + 1) c6)) (fun g h1 h2 => a2.block g h2 (fun e => by have := Option.some.inj e; have := unhide CV; omega)))
                          have F := hide (grown_same (unhide F) a2)
                          have HC := hide (show (U5.setCell ⟨C, 2, none⟩ (.slice sp6 (j + 1) c6)).heap[C]? = some (.cells #[.int .i64 ver, .slice (some ⟨g3, 0, none⟩) n c3, .slice sp6 (j + 1) c6] 45 (0, 0)) from a1)
                          clear a1 a2
                          go_simp
                          clear cc cf
                          refine hK.out _ _ ?_ (fun hHeld => ?_)
                          · try dsimp only
                            exact unhide SS5 _ (unhide F)
                          clear hK K
                          refine hP ?_
                          refine wpAnyH_done (by kernel_rfl) ?_ _
                          have IV := hide (show CpI ver C g3 n c3 ps V (j + 1) (U5.setCell ⟨C, 2, none⟩ (.slice sp6 (j + 1) c6)) from ⟨sp6, c6, _, by rw [List.map_append, unhide LP, unhide TK]; rfl, by rw [List.length_append, unhide LJ]; rfl, unhide O6, unhide HC, unhide F⟩)
                          generalize U5.setCell ⟨C, 2, none⟩ (.slice sp6 (j + 1) c6) = U6 at *
                          clear F G HC O6 OT hHeld
                          go_wp2
                          exact ⟨⟨j + 1, by omega, by go_num, IV⟩, by simp [intOf]; omega⟩
                        exact AllReadyH.nil
                      exact AllReadyH.nil
                    exact AllReadyH.nil
                  exact AllReadyH.nil
                exact AllReadyH.nil
              refine AllReadyH.cons rfl (fun K hK => ?_) ?_
              · refine step_newT rfl rfl ?_
                intro E5 U5 hE hEn hb
                have LE5 := hide (show wr.heap.size ≤ E5 by rw [← hE]; exact (unhide G).size)
                have HE5 := hide hEn
                have HC := hide (later_block hb (unhide HC))
                have F := hide (grown_low (unhide F) (hb.mono (unhide F).size))
                have G := hide ((unhide G).trans (hb.mono (unhide G).size))
                clear hE hEn hb
                refine hK.out _ _ ?_ (fun hHeld => ?_)
                · try dsimp only
                  exact unhide SS5 _ (unhide F)
                clear hK K
                refine hP ?_
                refine wpAnyH_ready (rs := [1, 15]) (by kernel_rfl) (by simp) ?_
                refine AllReadyH.cons rfl (fun K hK => ?_) ?_
                · have cc := fcell0 (unhide HC) 2 _ rfl
                  go_simp
                  clear cc
                  refine hK.out _ _ ?_ (fun hHeld => ?_)
                  · try dsimp only
                    exact unhide SS5 _ (unhide F)
                  clear hK K
                  refine hP ?_
                  refine wpAnyH_ready (rs := [15]) (by kernel_rfl) (by simp) ?_
                  refine AllReadyH.cons rfl (fun K hK => ?_) ?_
                  · refine step_cloneG rfl (.tmp 27) (.tmp 33) 31 70 rfl i1 _ 2 24 Tryz.underlying31 (unhide J0) (unhide J1) (unhide J2) (unhide J3) rfl (by omega) E5 rfl (unhide HE5) ta tl tc rfl (unhide TN) (rowsT ts) (unhide TL) ((unhide TT).later (unhide FB _ (unhide F))).news (tg_oneCell ts) (by omega) (by omega) ?_
                    intro g5 c5 U5 ho hg hw5
                    have HC := hide ((hg.block C (Array.getElem?_eq_some_iff.1 (unhide HC)).1 (fun e => by have := Option.some.inj e; have := unhide LE5; have := unhide VW; have := unhide CV; omega)).trans (unhide HC))
                    have G5 := hide (show wr.heap.size ≤ g5 by have := unhide LE5; have := (unhide G).size; omega)
                    have OT := hide (show OwnT V.heap.size U5 (some ⟨g5, 0, none⟩) c5 ts by
                      have := unhide HT
                      subst this
                      exact OwnT.low ho (Nat.le_trans (unhide VW) (unhide LE5)))
                    have NE5 := hide (show sp.map (·.block) ≠ some g5 from fun e => by have := (unhide OW).blk_lt _ e; have := unhide G5; omega)
                    have F := hide (show V.grownBy U5 (some C) from ⟨hg.os.trans (unhide F).os, hg.tape.trans (unhide F).tape, hg.output.trans (unhide F).output, Nat.le_trans (unhide F).size hg.size, fun k hk hne => (hg.block k (Nat.lt_of_lt_of_le hk (unhide F).size) (fun e => by have := Option.some.inj e; have := unhide LE5; have := unhide VW; omega)).trans ((unhide F).block k hk hne)⟩)
                    have G := hide ((unhide G).grown hg (unhide G).size (fun g e => by have := Option.some.inj e; have := unhide LE5; omega))
                    clear ho hg hw5
                    refine hK.out _ _ ?_ (fun hHeld => ?_)
                    · try dsimp only
                      exact unhide SS5 _ (unhide F)
                    clear hK K
                    refine hP ?_
                    refine hT 16 ?_
                    refine wpAnyH_ready (rs := [17]) (by kernel_rfl) (by simp) ?_
                    refine AllReadyH.cons rfl (fun K hK => ?_) ?_
                    · refine step_newP rfl 35 rfl nm (some ⟨g5, 0, none⟩) tl c5 rfl ?_
                      intro B5 U5 hE hEn hb
                      have HB5 := hide hEn
                      have HC := hide (later_block hb (unhide HC))
                      have F := hide (grown_low (unhide F) (hb.mono (unhide F).size))
                      have OT := hide ((unhide OT).below hb)
                      have G := hide ((unhide G).trans (hb.mono (unhide G).size))
                      clear hE hEn hb
                      refine hK.out _ _ ?_ (fun hHeld => ?_)
                      · try dsimp only
                        exact unhide SS5 _ (unhide F)
                      clear hK K
                      refine hP ?_
                      refine wpAnyH_ready (rs := [18]) (by kernel_rfl) (by simp) ?_
                      refine AllReadyH.cons rfl (fun K hK => ?_) ?_
                      · refine step_appendW rfl (.tmp 20) (.tmp 36) rfl V.heap.size sp j c l rfl (unhide LJ) ((unhide OW).same (fun g _ h2 => (unhide G).block g h2)) B5 ⟨⟨nm, ts⟩, g5, c5⟩ rfl (by have := unhide HT; subst this; exact unhide HB5) (unhide OT) (unhide NE5) (by omega) (unhide F).size ?_
                        intro sp6 c6 U5 ho hb
                        have O6 := hide ho
                        have HC := hide ((hb.block C (unhide CV)).trans (unhide HC))
                        have F := hide (grown_low (unhide F) hb)
                        clear ho hb
                        refine hK.out _ _ ?_ (fun hHeld => ?_)
                        · try dsimp only
                          exact unhide SS5 _ (unhide F)
                        clear hK K
                        refine hP ?_
                        refine hT 19 ?_
                        refine wpAnyH_ready (rs := [20]) (by kernel_rfl) (by simp) ?_
                        refine AllReadyH.cons rfl (fun K hK => ?_) ?_
                        · have cc := fcell0 (unhide HC) 2 _ rfl
                          have cf : U5.frozen? ⟨C, 2, none⟩ = false := by simp [World.frozen?, unhide HC]
                          have a1 := heap_setCell_same U5 C 2 _ 45 (.slice sp6 (j + 1) c6) (unhide HC)
                          have a2 := grownSet U5 C 2 (.slice sp6 (j + 1) c6)
                          have O6 := hide ((unhide O6).same (w' := U5.setCell ⟨C, 2, none⟩ (.slice sp6 (j + 1) c6)) (fun g h1 h2 => a2.block g h2 (fun e => by have := Option.some.inj e; have := unhide CV; omega)))
                          have F := hide (grown_same (unhide F) a2)
                          have HC := hide (show (U5.setCell ⟨C, 2, none⟩ (.slice sp6 (j + 1) c6)).heap[C]? = some (.cells #[.int .i64 ver, .slice (some ⟨g3, 0, none⟩) n c3, .slice sp6 (j + 1) c6] 45 (0, 0)) from a1)
                          clear a1 a2
                          go_simp
                          clear cc cf
                          refine hK.out _ _ ?_ (fun hHeld => ?_)
                          · try dsimp only
                            exact unhide SS5 _ (unhide F)
                          clear hK K
                          refine hP ?_
                          refine wpAnyH_done (by kernel_rfl) ?_ _
                          have IV := hide (show CpI ver C g3 n c3 ps V (j + 1) (U5.setCell ⟨C, 2, none⟩ (.slice sp6 (j + 1) c6)) from ⟨sp6, c6, _, by rw [List.map_append, unhide LP, unhide TK]; rfl, by rw [List.length_append, unhide LJ]; rfl, unhide O6, unhide HC, unhide F⟩)
                          generalize U5.setCell ⟨C, 2, none⟩ (.slice sp6 (j + 1) c6) = U6 at *
                          clear F G HC O6 OT hHeld
                          go_wp2
                          exact ⟨⟨j + 1, by omega, by go_num, IV⟩, by simp [intOf]; omega⟩
                        exact AllReadyH.nil
                      exact AllReadyH.nil
                    exact AllReadyH.nil
                  exact AllReadyH.nil
                refine AllReadyH.cons rfl (fun K hK => ?_) ?_
                · refine step_cloneG rfl (.tmp 27) (.tmp 33) 31 70 rfl i1 _ 2 24 Tryz.underlying31 (unhide J0) (unhide J1) (unhide J2) (unhide J3) rfl (by omega) E5 rfl (unhide HE5) ta tl tc rfl (unhide TN) (rowsT ts) (unhide TL) ((unhide TT).later (unhide FB _ (unhide F))).news (tg_oneCell ts) (by omega) (by omega) ?_
                  intro g5 c5 U5 ho hg hw5
                  have HC := hide ((hg.block C (Array.getElem?_eq_some_iff.1 (unhide HC)).1 (fun e => by have := Option.some.inj e; have := unhide LE5; have := unhide VW; have := unhide CV; omega)).trans (unhide HC))
                  have G5 := hide (show wr.heap.size ≤ g5 by have := unhide LE5; have := (unhide G).size; omega)
                  have OT := hide (show OwnT V.heap.size U5 (some ⟨g5, 0, none⟩) c5 ts by
                    have := unhide HT
                    subst this
                    exact OwnT.low ho (Nat.le_trans (unhide VW) (unhide LE5)))
                  have NE5 := hide (show sp.map (·.block) ≠ some g5 from fun e => by have := (unhide OW).blk_lt _ e; have := unhide G5; omega)
                  have F := hide (show V.grownBy U5 (some C) from ⟨hg.os.trans (unhide F).os, hg.tape.trans (unhide F).tape, hg.output.trans (unhide F).output, Nat.le_trans (unhide F).size hg.size, fun k hk hne => (hg.block k (Nat.lt_of_lt_of_le hk (unhide F).size) (fun e => by have := Option.some.inj e; have := unhide LE5; have := unhide VW; omega)).trans ((unhide F).block k hk hne)⟩)
                  have G := hide ((unhide G).grown hg (unhide G).size (fun g e => by have := Option.some.inj e; have := unhide LE5; omega))
                  clear ho hg hw5
                  refine hK.out _ _ ?_ (fun hHeld => ?_)
                  · try dsimp only
                    exact unhide SS5 _ (unhide F)
                  clear hK K
                  refine hP ?_
                  refine hT 16 ?_
                  refine wpAnyH_ready (rs := [1, 17]) (by kernel_rfl) (by simp) ?_
                  refine AllReadyH.cons rfl (fun K hK => ?_) ?_
                  · have cc := fcell0 (unhide HC) 2 _ rfl
                    go_simp
                    clear cc
                    refine hK.out _ _ ?_ (fun hHeld => ?_)
                    · try dsimp only
                      exact unhide SS5 _ (unhide F)
                    clear hK K
                    refine hP ?_
                    refine wpAnyH_ready (rs := [17]) (by kernel_rfl) (by simp) ?_
                    refine AllReadyH.cons rfl (fun K hK => ?_) ?_
                    · refine step_newP rfl 35 rfl nm (some ⟨g5, 0, none⟩) tl c5 rfl ?_
                      intro B5 U5 hE hEn hb
                      have HB5 := hide hEn
                      have HC := hide (later_block hb (unhide HC))
                      have F := hide (grown_low (unhide F) (hb.mono (unhide F).size))
                      have OT := hide ((unhide OT).below hb)
                      have G := hide ((unhide G).trans (hb.mono (unhide G).size))
                      clear hE hEn hb
                      refine hK.out _ _ ?_ (fun hHeld => ?_)
                      · try dsimp only
                        exact unhide SS5 _ (unhide F)
                      clear hK K
                      refine hP ?_
                      refine wpAnyH_ready (rs := [18]) (by kernel_rfl) (by simp) ?_
                      refine AllReadyH.cons rfl (fun K hK => ?_) ?_
                      · refine step_appendW rfl (.tmp 20) (.tmp 36) rfl V.heap.size sp j c l rfl (unhide LJ) ((unhide OW).same (fun g _ h2 => (unhide G).block g h2)) B5 ⟨⟨nm, ts⟩, g5, c5⟩ rfl (by have := unhide HT; subst this; exact unhide HB5) (unhide OT) (unhide NE5) (by omega) (unhide F).size ?_
                        intro sp6 c6 U5 ho hb
                        have O6 := hide ho
                        have HC := hide ((hb.block C (unhide CV)).trans (unhide HC))
                        have F := hide (grown_low (unhide F) hb)
                        clear ho hb
                        refine hK.out _ _ ?_ (fun hHeld => ?_)
                        · try dsimp only
                          exact unhide SS5 _ (unhide F)
                        clear hK K
                        refine hP ?_
                        refine hT 19 ?_
                        refine wpAnyH_ready (rs := [20]) (by kernel_rfl) (by simp) ?_
                        refine AllReadyH.cons rfl (fun K hK => ?_) ?_
                        · have cc := fcell0 (unhide HC) 2 _ rfl
                          have cf : U5.frozen? ⟨C, 2, none⟩ = false := by simp [World.frozen?, unhide HC]
                          have a1 := heap_setCell_same U5 C 2 _ 45 (.slice sp6 (j + 1) c6) (unhide HC)
                          have a2 := grownSet U5 C 2 (.slice sp6 (j + 1) c6)
                          have O6 := hide ((unhide O6).same (w' := U5.setCell ⟨C, 2, none⟩ (.slice sp6 (j + 1) c6)) (fun g h1 h2 => a2.block g h2 (fun e => by have := Option.some.inj e; have := unhide CV; omega)))
                          have F := hide (grown_same (unhide F) a2)
                          have HC := hide (show (U5.setCell ⟨C, 2, none⟩ (.slice sp6 (j + 1) c6)).heap[C]? = some (.cells #[.int .i64 ver, .slice (some ⟨g3, 0, none⟩) n c3, .slice sp6 (j + 1) c6] 45 (0, 0)) from a1)
                          clear a1 a2
                          go_simp
                          clear cc cf
                          refine hK.out _ _ ?_ (fun hHeld => ?_)
                          · try dsimp only
                            exact unhide SS5 _ (unhide F)
                          clear hK K
                          refine hP ?_
                          refine wpAnyH_done (by kernel_rfl) ?_ _
                          have IV := hide (show CpI ver C g3 n c3 ps V (j + 1) (U5.setCell ⟨C, 2, none⟩ (.slice sp6 (j + 1) c6)) from ⟨sp6, c6, _, by rw [List.map_append, unhide LP, unhide TK]; rfl, by rw [List.length_append, unhide LJ]; rfl, unhide O6, unhide HC, unhide F⟩)
                          generalize U5.setCell ⟨C, 2, none⟩ (.slice sp6 (j + 1) c6) = U6 at *
                          clear F G HC O6 OT hHeld
                          go_wp2
                          exact ⟨⟨j + 1, by omega, by go_num, IV⟩, by simp [intOf]; omega⟩
                        exact AllReadyH.nil
                      exact AllReadyH.nil
                    exact AllReadyH.nil
                  refine AllReadyH.cons rfl (fun K hK => ?_) ?_
                  · refine step_newP rfl 35 rfl nm (some ⟨g5, 0, none⟩) tl c5 rfl ?_
                    intro B5 U5 hE hEn hb
                    have HB5 := hide hEn
                    have HC := hide (later_block hb (unhide HC))
                    have F := hide (grown_low (unhide F) (hb.mono (unhide F).size))
                    have OT := hide ((unhide OT).below hb)
                    have G := hide ((unhide G).trans (hb.mono (unhide G).size))
                    clear hE hEn hb
                    refine hK.out _ _ ?_ (fun hHeld => ?_)
                    · try dsimp only
                      exact unhide SS5 _ (unhide F)
                    clear hK K
                    refine hP ?_
                    refine wpAnyH_ready (rs := [1]) (by kernel_rfl) (by simp) ?_
                    refine AllReadyH.cons rfl (fun K hK => ?_) ?_
                    · have cc := fcell0 (unhide HC) 2 _ rfl
                      go_simp
                      clear cc
                      refine hK.out _ _ ?_ (fun hHeld => ?_)
                      · try dsimp only
                        exact unhide SS5 _ (unhide F)
                      clear hK K
                      refine hP ?_
                      refine wpAnyH_ready (rs := [18]) (by kernel_rfl) (by simp) ?_
                      refine AllReadyH.cons rfl (fun K hK => ?_) ?_
                      · refine step_appendW rfl (.tmp 20) (.tmp 36) rfl V.heap.size sp j c l rfl (unhide LJ) ((unhide OW).same (fun g _ h2 => (unhide G).block g h2)) B5 ⟨⟨nm, ts⟩, g5, c5⟩ rfl (by have := unhide HT; subst this; exact unhide HB5) (unhide OT) (unhide NE5) (by omega) (unhide F).size ?_
                        intro sp6 c6 U5 ho hb
                        have O6 := hide ho
                        have HC := hide ((hb.block C (unhide CV)).trans (unhide HC))
                        have F := hide (grown_low (unhide F) hb)
                        clear ho hb
                        refine hK.out _ _ ?_ (fun hHeld => ?_)
                        · try dsimp only
                          exact unhide SS5 _ (unhide F)
                        clear hK K
                        refine hP ?_
                        refine hT 19 ?_
                        refine wpAnyH_ready (rs := [20]) (by kernel_rfl) (by simp) ?_
                        refine AllReadyH.cons rfl (fun K hK => ?_) ?_
                        · have cc := fcell0 (unhide HC) 2 _ rfl
                          have cf : U5.frozen? ⟨C, 2, none⟩ = false := by simp [World.frozen?, unhide HC]
                          have a1 := heap_setCell_same U5 C 2 _ 45 (.slice sp6 (j + 1) c6) (unhide HC)
                          have a2 := grownSet U5 C 2 (.slice sp6 (j + 1) c6)
                          have O6 := hide ((unhide O6).same (w' := U5.setCell ⟨C, 2, none⟩ (.slice sp6 (j + 1) c6)) (fun g h1 h2 => a2.block g h2 (fun e => by have := Option.some.inj e; have := unhide CV; omega)))
                          have F := hide (grown_same (unhide F) a2)
                          have HC := hide (show (U5.setCell ⟨C, 2, none⟩ (.slice sp6 (j + 1) c6)).heap[C]? = some (.cells #[.int .i64 ver, .slice (some ⟨g3, 0, none⟩) n c3, .slice sp6 (j + 1) c6] 45 (0, 0)) from a1)
                          clear a1 a2
                          go_simp
                          clear cc cf
                          refine hK.out _ _ ?_ (fun hHeld => ?_)
                          · try dsimp only
                            exact unhide SS5 _ (unhide F)
                          clear hK K
                          refine hP ?_
                          refine wpAnyH_done (by kernel_rfl) ?_ _
                          have IV := hide (show CpI ver C g3 n c3 ps V (j + 1) (U5.setCell ⟨C, 2, none⟩ (.slice sp6 (j + 1) c6)) from ⟨sp6, c6, _, by rw [List.map_append, unhide LP, unhide TK]; rfl, by rw [List.length_append, unhide LJ]; rfl, unhide O6, unhide HC, unhide F⟩)
                          generalize U5.setCell ⟨C, 2, none⟩ (.slice sp6 (j + 1) c6) = U6 at *
                          clear F G HC O6 OT hHeld
                          go_wp2
                          exact ⟨⟨j + 1, by omega, by go_num, IV⟩, by simp [intOf]; omega⟩
                        exact AllReadyH.nil
                      exact AllReadyH.nil
                    exact AllReadyH.nil
                  exact AllReadyH.nil
                exact AllReadyH.nil
              exact AllReadyH.nil
            · have hjj : ¬ (j : Int) < (m : Int) := by omega
              obtain rfl : j = m := by omega
              have e0 := fcell0 (unhide HC) 0 _ rfl
              have e1 := fcell0 (unhide HC) 1 _ rfl
              have e2 := fcell0 (unhide HC) 2 _ rfl
              have XD := hide (later_block (unhide FB _ (unhide FW)) (unhide X2))
              have z0 := fcell0 (unhide XD) 0 _ rfl
              have z1 := fcell0 (unhide XD) 1 _ rfl
              have z2 := fcell0 (unhide XD) 2 _ rfl
              have f0 : wr.frozen? ⟨w.heap.size + 1, 0, none⟩ = false := by simp [World.frozen?, unhide XD]
              have f1 : wr.frozen? ⟨w.heap.size + 1, 1, none⟩ = false := by simp [World.frozen?, unhide XD]
              have f2 : wr.frozen? ⟨w.heap.size + 1, 2, none⟩ = false := by simp [World.frozen?, unhide XD]
              obtain ⟨a1, a2⟩ := set3 (x := .int .i64 ver) (y := .slice (some ⟨g3, 0, none⟩) n c3) (z := .slice sp j c) (unhide XD)
              have A1 := hide a1
              have A2 := hide a2
              clear a1 a2
              go_wp2
              generalize (((wr.setCell ⟨w.heap.size + 1, 0, none⟩ (.int .i64 ver)).setCell ⟨w.heap.size + 1, 1, none⟩ (.slice (some ⟨g3, 0, none⟩) n c3)).setCell ⟨w.heap.size + 1, 2, none⟩ (.slice sp j c)) = W9 at *
              clear z0 z1 z2 f0 f1 f2 e0 e1 e2
              have g0 := fcell0 (unhide A1) 0 _ rfl
              have g1 := fcell0 (unhide A1) 1 _ rfl
              have g2 := fcell0 (unhide A1) 2 _ rfl
              have CF := hide (show CfAt W9 ⟨ver, rs, ps⟩ ⟨some ⟨g3, 0, none⟩, c3, sp, c⟩ ∧ Below w.heap.size w W9 ∧ OwnW w.heap.size W9 sp c l ∧ l.map Pw.po = ps by
                have hpo : List.map Pw.po l = ps := by rw [unhide LP, ← unhide HM, List.take_length]
                have hlow : V.heap.size ≤ wr.heap.size := (unhide FW).size
                have hZ := unhide Z2
                have hF2 := (unhide FB _ (unhide FW)).size
                have hO := (unhide OW).same (w' := W9) (fun g h1 h2 => (unhide A2).block g h2 (fun e => by have := Option.some.inj e; have := unhide LC; have := unhide CV; omega))
                obtain ⟨hpos, hpc⟩ := hO.at_ (fun x hx => by
                  have hx2 : x.po ∈ ps := by rw [← hpo]; exact List.mem_map_of_mem hx
                  obtain ⟨i, hi, e⟩ := List.getElem_of_mem hx2
                  obtain ⟨_, _, ta, tc, _, _, _, hT, hl, _⟩ := (unhide P1).cell i hi
                  rw [e] at hT hl
                  exact ⟨hT.lt, hl.1⟩)
                rw [hpo] at hpos
                obtain ⟨hrt, hrc⟩ := unhide RT wr (unhide FW)
                have hrt9 : RtsAt W9 (some ⟨g3, 0, none⟩) rs := ⟨hrt.sz, fun i hi => by
                  obtain ⟨b, off, e, r0, r1, r2⟩ := hrt.cell i hi
                  have hb : b = g3 := by cases e; rfl
                  have hlt : g3 < wr.heap.size := by have := unhide G3; omega
                  have hk : W9.heap[g3]? = wr.heap[g3]? := (unhide A2).block _ hlt (fun e => by have := Option.some.inj e; have := unhide GL; omega)
                  subst hb
                  exact ⟨b, off, e, (World.cell?_of_block hk).trans r0, (World.cell?_of_block hk).trans r1, (World.cell?_of_block hk).trans r2⟩⟩
                have hlm := unhide LJ
                refine ⟨⟨unhide WV, hrt9, hpos, ⟨by have := unhide HN; simp only [maxLen]; omega, by have := unhide HN; simp only; omega⟩, ⟨by have := unhide HM; simp only [maxLen]; omega, by have := unhide HM; simp only; omega⟩, fun h => by cases h⟩, ?_, hO.low (by have := (unhide B2).size; have := (unhide FB _ (grown_refl V _)).size; omega), hpo⟩
                exact ((unhide B2).trans ((unhide FB _ (unhide FW)).mono (unhide B2).size)).grown (unhide A2) (by have := (unhide B2).size; omega) (fun g e => by have := Option.some.inj e; omega))
              refine bodyPost_ret (v := .agg #[.int .i64 ver, .slice (some ⟨g3, 0, none⟩) n c3, .slice sp j c]) (by simp [results, Tryz.results68, go_sem, g0, g1, g2]) rfl ⟨⟨some ⟨g3, 0, none⟩, c3, sp, c⟩, rfl, (unhide CF).1, (unhide CF).2.1, l, (unhide CF).2.2.1, (unhide CF).2.2.2⟩
        exact AllReadyH.nil
      exact AllReadyH.nil
    refine AllReadyH.cons rfl (fun K hK => ?_) ?_
    · refine step_newC rfl rfl ?_
      intro C U hC hCn hb
      have LC := hide (show W2.heap.size ≤ C by rw [← hC]; exact (unhide F).size)
      have HC := hide hCn
      first
        | (have hV : O3 = O3 := rfl
           clear hV
           have NC := hide (show g3 ≠ C by have := unhide G3; omega)
           have O3 := hide (own_stays (unhide O3) (fun _ hg => hb.block _ hg))
           have G3 := hide (Nat.lt_of_lt_of_le (unhide G3) hb.size))
        | (have hV : HE = HE := rfl
           clear hV
           have NE := hide (show C ≠ E by have := (Array.getElem?_eq_some_iff.1 (unhide HE)).1; omega)
           have HE := hide (later_block hb (unhide HE)))
        | skip
      have F := hide ((unhide F).trans (hb.mono (unhide F).size))
      clear hC hCn hb
      refine hK.out _ _ ?_ (fun hHeld => ?_)
      · try dsimp only
        exact unhide SS _ (unhide F)
      clear hK K
      refine hP ?_
      refine wpAnyH_ready (rs := [5]) (by kernel_rfl) (by simp) ?_
      refine AllReadyH.cons rfl (fun K hK => ?_) ?_
      · refine step_cloneG rfl (.tmp 7) (.tmp 9) 42 56 rfl i0 _ 3 48 Tryz.underlying42 (unhide I0) (unhide I1) (unhide I2) (unhide I3) rfl (by omega) E rfl (unhide HE) ra n rc rfl (unhide RN) (rowsR rs) (unhide RL) ((unhide R2).later (unhide F)).news (rt_oneCell rs) (by omega) (by omega) ?_
        intro g3 c3 U ho3 hg3 hw3
        have hEl := (Array.getElem?_eq_some_iff.1 (unhide HE)).1
        have O3 := hide ho3
        first
          | (have hV : HC = HC := rfl
             clear hV
             have NC := hide (show g3 ≠ C by have := (Array.getElem?_eq_some_iff.1 (unhide HC)).1; have := unhide NE; omega)
             have HC := hide ((hg3.block C (Array.getElem?_eq_some_iff.1 (unhide HC)).1 (fun e => unhide NE (Option.some.inj e))).trans (unhide HC)))
          | skip
        have GL := hide (show W2.heap.size ≤ g3 by have := unhide LE; have := (unhide F).size; omega)
        have G3 := hide (show g3 < U.heap.size by
          rcases ho3.2 with ⟨hv, _⟩ | ⟨g', cap, cur, hv, _, hg, _⟩
          · cases hv
          · simp only [Value.slice.injEq, Option.some.injEq, Addr.mk.injEq, and_true, true_and] at hv
            rw [hv.1]
            exact (Array.getElem?_eq_some_iff.1 hg).1)
        have F := hide ((unhide F).grown hg3 (unhide F).size (fun g hg => by have := Option.some.inj hg; have := unhide LE; omega))
        clear ho3 hg3 hw3 hEl
        refine hK.out _ _ ?_ (fun hHeld => ?_)
        · try dsimp only
          exact unhide SS _ (unhide F)
        clear hK K
        refine hP ?_
        refine hT 6 ?_
        refine wpAnyH_ready (rs := [8]) (by kernel_rfl) (by simp) ?_
        refine AllReadyH.cons rfl (fun K hK => ?_) ?_
        · obtain ⟨a1, a2⟩ := set3 (x := .int .i64 ver) (y := .slice (some ⟨g3, 0, none⟩) n c3) (z := .slice none 0 0) (unhide HC)
          have F := hide ((unhide F).grown a2 (unhide F).size (fun g hg => by have := Option.some.inj hg; have := unhide LC; omega))
          have O3 := hide (own_stays (unhide O3) (fun _ hg => a2.block _ hg (fun e => unhide NC (Option.some.inj e))))
          have G3 := hide (Nat.lt_of_lt_of_le (unhide G3) a2.size)
          have u0 := fcell0 (unhide HC) 0 _ rfl
          have u1 := fcell0 (unhide HC) 1 _ rfl
          have u2 := fcell0 (unhide HC) 2 _ rfl
          have f0 : U.frozen? ⟨C, 0, none⟩ = false := by simp [World.frozen?, unhide HC]
          have f1 : U.frozen? ⟨C, 1, none⟩ = false := by simp [World.frozen?, unhide HC]
          have f2 : U.frozen? ⟨C, 2, none⟩ = false := by simp [World.frozen?, unhide HC]
          have HC := hide a1
          clear a1 a2
          go_simp
          clear u0 u1 u2 f0 f1 f2
          refine hK.out _ _ ?_ (fun hHeld => ?_)
          · try dsimp only
            exact unhide SS _ (unhide F)
          clear hK K
          refine hP ?_
          refine wpAnyH_done (by kernel_rfl) ?_ _
          generalize (((U.setCell ⟨C, 0, none⟩ (.int .i64 ver)).setCell ⟨C, 1, none⟩ (.slice (some ⟨g3, 0, none⟩) n c3)).setCell ⟨C, 2, none⟩ (.slice none 0 0)) = V at *
          have CV := hide (Array.getElem?_eq_some_iff.1 (unhide HC)).1
          have RT := hide (show ∀ W : World, V.grownBy W (some C) → RtsAt W (some ⟨g3, 0, none⟩) rs ∧ n ≤ c3 from fun W hg => by
            have h3 := own_stays (w' := W) (unhide O3) (fun _ hl => hg.block _ hl (fun e => unhide NC (Option.some.inj e)))
            have hn := unhide HN
            subst hn
            exact own_routes h3 (unhide R1).sz)
          have FB := hide (show ∀ W : World, V.grownBy W (some C) → Below W2.heap.size W2 W from fun W hg => (unhide F).grown hg (unhide F).size (fun g e => by have := Option.some.inj e; have := unhide LC; omega))
          have Z0 := hide (show CpI ver C g3 n c3 ps V 0 V from ⟨none, 0, [], rfl, rfl, OwnW.ofNil _ _, unhide HC, grown_refl _ _⟩)
          clear hHeld F HC O3
          go_wp2_with fail
          go_loopw [4] (fun i wr => ∃ j : Nat, j ≤ m ∧ i = .int .i64 (j : Int) ∧ Hid (CpI ver C g3 n c3 ps V j wr)) (fun i _ => m - (intOf i).toNat)
          case atStart => exact ⟨0, by omega, rfl, Z0⟩
          case round =>
            obtain ⟨j, hj, rfl, IV⟩ := hrel
            obtain ⟨sp, c, l, hlp, hlj, hOW, hHC, hF⟩ := unhide IV
            have LP := hide hlp
            have LJ := hide hlj
            have OW := hide hOW
            have HC := hide hHC
            have FW := hide hF
            have k2 := cell_later (unhide FB _ hF) (unhide D2)
            clear hlp hlj hOW hHC hF IV
            by_cases hjn : j < m
            · have y0 : (0 : Int) ≤ (j : Int) := by omega
              have y1 : (j : Int) < (m : Int) := by omega
              have hjl : j < ps.length := by rw [unhide HM]; exact hjn
              obtain ⟨b, off, ta, tc, rfl, q0, q1, hT, hl, hz⟩ := (unhide P2).cell j hjl
              have LT := hide ((unhide TS) _ (List.getElem_mem hjl))
              have TK := hide (show ps.take (j + 1) = ps.take j ++ [ps[j]] from by rw [List.take_succ_eq_append_getElem hjl])
              generalize ps[j] = po at *
              obtain ⟨nm, ts⟩ := po
              simp only at q0 q1 hT hl LT
              have TT := hide hT
              have TN := hide (show ta = none → ts.length = 0 ∧ tc = 0 from fun e => by subst e; exact ⟨hT.nil, hz rfl⟩)
              have TL := hide (rowsT_length ts)
              have SS5 := hide (show ∀ W : World, V.grownBy W (some C) → W.cell? ⟨w.heap.size, 2, none⟩ = some (.slice (some ⟨b, off, none⟩) m pc) ∧ W.cell? ⟨b, off + j * 2, none⟩ = some (.string nm) ∧ W.cell? ⟨b, off + j * 2 + 1, none⟩ = some (.slice ta ts.length tc) from fun W hg => ⟨cell_later (unhide FB _ hg) (unhide D2), cell_later (unhide FB _ hg) q0, cell_later (unhide FB _ hg) q1⟩)
              have htl := unhide LT
              clear q0 q1 hT hl hz
              generalize htn : ts.length = tl at *
              have HT := hide htn
              clear htn
              have F := hide (show V.grownBy wr.drew (some C) from grown_low (unhide FW) (Below.refl _ _).drew)
              have G := hide (show Below wr.heap.size wr wr.drew from (Below.refl _ _).drew)
              have HC := hide (show wr.drew.heap[C]? = some (.cells #[.int .i64 ver, .slice (some ⟨g3, 0, none⟩) n c3, .slice sp j c] 45 (0, 0)) from unhide HC)
              have VW := hide (unhide FW).size
              go_wp2_with fail
              refine wp_region_held_drew (S := fun w' => w'.cell? ⟨w.heap.size, 2, none⟩ = some (.slice (some ⟨b, off, none⟩) m pc) ∧ w'.cell? ⟨b, off + j * 2, none⟩ = some (.string nm) ∧ w'.cell? ⟨b, off + j * 2 + 1, none⟩ = some (.slice ta tl tc)) (by kernel_rfl) ?_ (fun hHeld => ?_)
              · try dsimp only
                exact unhide SS5 _ (unhide F)
              refine hT 0 ?_
              refine hT 2 ?_
              refine hT 3 ?_
              refine hT 4 ?_
              refine hT 5 ?_
              refine hT 6 ?_
              refine hT 7 ?_
              refine hT 9 ?_
              refine hT 10 ?_
              refine hT 11 ?_
              refine hT 12 ?_
              refine hT 13 ?_
              refine hT 14 ?_
              refine wpAnyH_ready (rs := [1, 8]) (by kernel_rfl) (by simp) ?_
              refine AllReadyH.cons rfl (fun K hK => ?_) ?_
              · have cc := fcell0 (unhide HC) 2 _ rfl
                go_simp
                clear cc
                refine hK.out _ _ ?_ (fun hHeld => ?_)
                · try dsimp only
                  exact unhide SS5 _ (unhide F)
                clear hK K
                refine hP ?_
                refine wpAnyH_ready (rs := [8]) (by kernel_rfl) (by simp) ?_
                refine AllReadyH.cons rfl (fun K hK => ?_) ?_
                · refine step_newT rfl rfl ?_
                  intro E5 U5 hE hEn hb
                  have LE5 := hide (show wr.heap.size ≤ E5 by rw [← hE]; exact (unhide G).size)
                  have HE5 := hide hEn
                  have HC := hide (later_block hb (unhide HC))
                  have F := hide (grown_low (unhide F) (hb.mono (unhide F).size))
                  have G := hide ((unhide G).trans (hb.mono (unhide G).size))
                  clear hE hEn hb
                  refine hK.out _ _ ?_ (fun hHeld => ?_)
                  · try dsimp only
                    exact unhide SS5 _ (unhide F)
                  clear hK K
                  refine hP ?_
                  refine wpAnyH_ready (rs := [15]) (by kernel_rfl) (by simp) ?_
                  refine AllReadyH.cons rfl (fun K hK => ?_) ?_
                  · refine step_cloneG rfl (.tmp 27) (.tmp 33) 31 70 rfl i1 _ 2 24 Tryz.underlying31 (unhide J0) (unhide J1) (unhide J2) (unhide J3) rfl (by omega) E5 rfl (unhide HE5) ta tl tc rfl (unhide TN) (rowsT ts) (unhide TL) ((unhide TT).later (unhide FB _ (unhide F))).news (tg_oneCell ts) (by omega) (by omega) ?_
                    intro g5 c5 U5 ho hg hw5
                    have HC := hide ((hg.block C (Array.getElem?_eq_some_iff.1 (unhide HC)).1 (fun e => by have := Option.some.inj e; have := unhide LE5; have := unhide VW; have := unhide CV; omega)).trans (unhide HC))
                    have G5 := hide (show wr.heap.size ≤ g5 by have := unhide LE5; have := (unhide G).size; omega)
                    have OT := hide (show OwnT V.heap.size U5 (some ⟨g5, 0, none⟩) c5 ts by
                      have := unhide HT
                      subst this
                      exact OwnT.low ho (Nat.le_trans (unhide VW) (unhide LE5)))
                    have NE5 := hide (show sp.map (·.block) ≠ some g5 from fun e => by have := (unhide OW).blk_lt _ e; have := unhide G5; omega)
                    have F := hide (show V.grownBy U5 (some C) from ⟨hg.os.trans (unhide F).os, hg.tape.trans (unhide F).tape, hg.output.trans (unhide F).output, Nat.le_trans (unhide F).size hg.size, fun k hk hne => (hg.block k (Nat.lt_of_lt_of_le hk (unhide F).size) (fun e => by have := Option.some.inj e; have := unhide LE5; have := unhide VW; omega)).trans ((unhide F).block k hk hne)⟩)
                    have G := hide ((unhide G).grown hg (unhide G).size (fun g e => by have := Option.some.inj e; have := unhide LE5; omega))
                    clear ho hg hw5
                    refine hK.out _ _ ?_ (fun hHeld => ?_)
                    · try dsimp only
                      exact unhide SS5 _ (unhide F)
                    clear hK K
                    refine hP ?_
                    refine hT 16 ?_
                    refine wpAnyH_ready (rs := [17]) (by kernel_rfl) (by simp) ?_
                    refine AllReadyH.cons rfl (fun K hK => ?_) ?_
                    · refine step_newP rfl 35 rfl nm (some ⟨g5, 0, none⟩) tl c5 rfl ?_
                      intro B5 U5 hE hEn hb
                      have HB5 := hide hEn
                      have HC := hide (later_block hb (unhide HC))
                      have F := hide (grown_low (unhide F) (hb.mono (unhide F).size))
                      have OT := hide ((unhide OT).below hb)
                      have G := hide ((unhide G).trans (hb.mono (unhide G).size))
                      clear hE hEn hb
                      refine hK.out _ _ ?_ (fun hHeld => ?_)
                      · try dsimp only
                        exact unhide SS5 _ (unhide F)
                      clear hK K
                      refine hP ?_
                      refine wpAnyH_ready (rs := [18]) (by kernel_rfl) (by simp) ?_
                      refine AllReadyH.cons rfl (fun K hK => ?_) ?_
                      · refine step_appendW rfl (.tmp 20) (.tmp 36) rfl V.heap.size sp j c l rfl (unhide LJ) ((unhide OW).same (fun g _ h2 => (unhide G).block g h2)) B5 ⟨⟨nm, ts⟩, g5, c5⟩ rfl (by have := unhide HT; subst this; exact unhide HB5) (unhide OT) (unhide NE5) (by omega) (unhide F).size ?_
                        intro sp6 c6 U5 ho hb
                        have O6 := hide ho
                        have HC := hide ((hb.block C (unhide CV)).trans (unhide HC))
                        have F := hide (grown_low (unhide F) hb)
                        clear ho hb
                        refine hK.out _ _ ?_ (fun hHeld => ?_)
                        · try dsimp only
                          exact unhide SS5 _ (unhide F)
                        clear hK K
                        refine hP ?_
                        refine hT 19 ?_
                        refine wpAnyH_ready (rs := [20]) (by kernel_rfl) (by simp) ?_
                        refine AllReadyH.cons rfl (fun K hK => ?_) ?_
                        · have cc := fcell0 (unhide HC) 2 _ rfl
                          have cf : U5.frozen? ⟨C, 2, none⟩ = false := by simp [World.frozen?, unhide HC]
                          have a1 := heap_setCell_same U5 C 2 _ 45 (.slice sp6 (j + 1) c6) (unhide HC)
                          have a2 := grownSet U5 C 2 (.slice sp6 (j + 1) c6)
                          have O6 := hide ((unhide O6).same (w' := U5.setCell ⟨C, 2, none⟩ (.slice sp6 (j + 1) c6)) (fun g h1 h2 => a2.block g h2 (fun e => by have := Option.some.inj e; have := unhide CV; omega)))
                          have F := hide (grown_same (unhide F) a2)
                          have HC := hide (show (U5.setCell ⟨C, 2, none⟩ (.slice sp6 (j + 1) c6)).heap[C]? = some (.cells #[.int .i64 ver, .slice (some ⟨g3, 0, none⟩) n c3, .slice sp6 (j + 1) c6] 45 (0, 0)) from a1)
                          clear a1 a2
                          go_simp
                          clear cc cf
                          refine hK.out _ _ ?_ (fun hHeld => ?_)
                          · try dsimp only
                            exact unhide SS5 _ (unhide F)
                          clear hK K
                          refine hP ?_
                          refine wpAnyH_done (by kernel_rfl) ?_ _
                          have IV := hide (show CpI ver C g3 n c3 ps V (j + 1) (U5.setCell ⟨C, 2, none⟩ (.slice sp6 (j + 1) c6)) from ⟨sp6, c6, _, by rw [List.map_append, unhide LP, unhide TK]; rfl, by rw [List.length_append, unhide LJ]; rfl, unhide O6, unhide HC, unhide F⟩)
                          generalize U5.setCell ⟨C, 2, none⟩ (.slice sp6 (j + 1) c6) = U6 at *
                          clear F G HC O6 OT hHeld
                          go_wp2
                          exact ⟨⟨j + 1, by omega, by go_num, IV⟩, by simp [intOf]; omega⟩
                        exact AllReadyH.nil
                      exact AllReadyH.nil
                    exact AllReadyH.nil
                  exact AllReadyH.nil
                exact AllReadyH.nil
              refine AllReadyH.cons rfl (fun K hK => ?_) ?_
              · refine step_newT rfl rfl ?_
                intro E5 U5 hE hEn hb
                have LE5 := hide (show wr.heap.size ≤ E5 by rw [← hE]; exact (unhide G).size)
                have HE5 := hide hEn
                have HC := hide (later_block hb (unhide HC))
                have F := hide (grown_low (unhide F) (hb.mono (unhide F).size))
                have G := hide ((unhide G).trans (hb.mono (unhide G).size))
                clear hE hEn hb
                refine hK.out _ _ ?_ (fun hHeld => ?_)
                · try dsimp only
                  exact unhide SS5 _ (unhide F)
                clear hK K
                refine hP ?_
                refine wpAnyH_ready (rs := [1, 15]) (by kernel_rfl) (by simp) ?_
                refine AllReadyH.cons rfl (fun K hK => ?_) ?_
                · have cc := fcell0 (unhide HC) 2 _ rfl
                  go_simp
                  clear cc
                  refine hK.out _ _ ?_ (fun hHeld => ?_)
                  · try dsimp only
                    exact unhide SS5 _ (unhide F)
                  clear hK K
                  refine hP ?_
                  refine wpAnyH_ready (rs := [15]) (by kernel_rfl) (by simp) ?_
                  refine AllReadyH.cons rfl (fun K hK => ?_) ?_
                  · refine step_cloneG rfl (.tmp 27) (.tmp 33) 31 70 rfl i1 _ 2 24 Tryz.underlying31 (unhide J0) (unhide J1) (unhide J2) (unhide J3) rfl (by omega) E5 rfl (unhide HE5) ta tl tc rfl (unhide TN) (rowsT ts) (unhide TL) ((unhide TT).later (unhide FB _ (unhide F))).news (tg_oneCell ts) (by omega) (by omega) ?_
                    intro g5 c5 U5 ho hg hw5
                    have HC := hide ((hg.block C (Array.getElem?_eq_some_iff.1 (unhide HC)).1 (fun e => by have := Option.some.inj e; have := unhide LE5; have := unhide VW; have := unhide CV; omega)).trans (unhide HC))
                    have G5 := hide (show wr.heap.size ≤ g5 by have := unhide LE5; have := (unhide G).size; omega)
                    have OT := hide (show OwnT V.heap.size U5 (some ⟨g5, 0, none⟩) c5 ts by
                      have := unhide HT
                      subst this
                      exact OwnT.low ho (Nat.le_trans (unhide VW) (unhide LE5)))
                    have NE5 := hide (show sp.map (·.block) ≠ some g5 from fun e => by have := (unhide OW).blk_lt _ e; have := unhide G5; omega)
                    have F := hide (show V.grownBy U5 (some C) from ⟨hg.os.trans (unhide F).os, hg.tape.trans (unhide F).tape, hg.output.trans (unhide F).output, Nat.le_trans (unhide F).size hg.size, fun k hk hne => (hg.block k (Nat.lt_of_lt_of_le hk (unhide F).size) (fun e => by have := Option.some.inj e; have := unhide LE5; have := unhide VW; omega)).trans ((unhide F).block k hk hne)⟩)
                    have G := hide ((unhide G).grown hg (unhide G).size (fun g e => by have := Option.some.inj e; have := unhide LE5; omega))
                    clear ho hg hw5
                    refine hK.out _ _ ?_ (fun hHeld => ?_)
                    · try dsimp only
                      exact unhide SS5 _ (unhide F)
                    clear hK K
                    refine hP ?_
                    refine hT 16 ?_
                    refine wpAnyH_ready (rs := [17]) (by kernel_rfl) (by simp) ?_
                    refine AllReadyH.cons rfl (fun K hK => ?_) ?_
                    · refine step_newP rfl 35 rfl nm (some ⟨g5, 0, none⟩) tl c5 rfl ?_
                      intro B5 U5 hE hEn hb
                      have HB5 := hide hEn
                      have HC := hide (later_block hb (unhide HC))
                      have F := hide (grown_low (unhide F) (hb.mono (unhide F).size))
                      have OT := hide ((unhide OT).below hb)
                      have G := hide ((unhide G).trans (hb.mono (unhide G).size))
                      clear hE hEn hb
                      refine hK.out _ _ ?_ (fun hHeld => ?_)
                      · try dsimp only
                        exact unhide SS5 _ (unhide F)
                      clear hK K
                      refine hP ?_
                      refine wpAnyH_ready (rs := [18]) (by kernel_rfl) (by simp) ?_
                      refine AllReadyH.cons rfl (fun K hK => ?_) ?_
                      · refine step_appendW rfl (.tmp 20) (.tmp 36) rfl V.heap.size sp j c l rfl (unhide LJ) ((unhide OW).same (fun g _ h2 => (unhide G).block g h2)) B5 ⟨⟨nm, ts⟩, g5, c5⟩ rfl (by have := unhide HT; subst this; exact unhide HB5) (unhide OT) (unhide NE5) (by omega) (unhide F).size ?_
                        intro sp6 c6 U5 ho hb
                        have O6 := hide ho
                        have HC := hide ((hb.block C (unhide CV)).trans (unhide HC))
                        have F := hide (grown_low (unhide F) hb)
                        clear ho hb
                        refine hK.out _ _ ?_ (fun hHeld => ?_)
                        · try dsimp only
                          exact unhide SS5 _ (unhide F)
                        clear hK K
                        refine hP ?_
                        refine hT 19 ?_
                        refine wpAnyH_ready (rs := [20]) (by kernel_rfl) (by simp) ?_
                        refine AllReadyH.cons rfl (fun K hK => ?_) ?_
                        · have cc := fcell0 (unhide HC) 2 _ rfl
                          have cf : U5.frozen? ⟨C, 2, none⟩ = false := by simp [World.frozen?, unhide HC]
                          have a1 := heap_setCell_same U5 C 2 _ 45 (.slice sp6 (j + 1) c6) (unhide HC)
                          have a2 := grownSet U5 C 2 (.slice sp6 (j + 1) c6)
                          have O6 := hide ((unhide O6).same (w' := U5.setCell ⟨C, 2, none⟩ (.slice sp6 (j + 1) c6)) (fun g h1 h2 => a2.block g h2 (fun e => by have := Option.some.inj e; have := unhide CV; omega)))
                          have F := hide (grown_same (unhide F) a2)
                          have HC := hide (show (U5.setCell ⟨C, 2, none⟩ (.slice sp6 (j + 1) c6)).heap[C]? = some (.cells #[.int .i64 ver, .slice (some ⟨g3, 0, none⟩) n c3, .slice sp6 (j + 1) c6] 45 (0, 0)) from a1)
                          clear a1 a2
                          go_simp
                          clear cc cf
                          refine hK.out _ _ ?_ (fun hHeld => ?_)
                          · try dsimp only
                            exact unhide SS5 _ (unhide F)
                          clear hK K
                          refine hP ?_
                          refine wpAnyH_done (by kernel_rfl) ?_ _
                          have IV := hide (show CpI ver C g3 n c3 ps V (j + 1) (U5.setCell ⟨C, 2, none⟩ (.slice sp6 (j + 1) c6)) from ⟨sp6, c6, _, by rw [List.map_append, unhide LP, unhide TK]; rfl, by rw [List.length_append, unhide LJ]; rfl, unhide O6, unhide HC, unhide F⟩)
                          generalize U5.setCell ⟨C, 2, none⟩ (.slice sp6 (j + 1) c6) = U6 at *
                          clear F G HC O6 OT hHeld
                          go_wp2
                          exact ⟨⟨j + 1, by omega, by go_num, IV⟩, by simp [intOf]; omega⟩
                        exact AllReadyH.nil
                      exact AllReadyH.nil
                    exact AllReadyH.nil
                  exact AllReadyH.nil
                refine AllReadyH.cons rfl (fun K hK => ?_) ?_
                · refine step_cloneG rfl (.tmp 27) (.tmp 33) 31 70 rfl i1 _ 2 24 Tryz.underlying31 (unhide J0) (unhide J1) (unhide J2) (unhide J3) rfl (by omega) E5 rfl (unhide HE5) ta tl tc rfl (unhide TN) (rowsT ts) (unhide TL) ((unhide TT).later (unhide FB _ (unhide F))).news (tg_oneCell ts) (by omega) (by omega) ?_
                  intro g5 c5 U5 ho hg hw5
                  have HC := hide ((hg.block C (Array.getElem?_eq_some_iff.1 (unhide HC)).1 (fun e => by have := Option.some.inj e; have := unhide LE5; have := unhide VW; have := unhide CV; omega)).trans (unhide HC))
                  have G5 := hide (show wr.heap.size ≤ g5 by have := unhide LE5; have := (unhide G).size; omega)
                  have OT := hide (show OwnT V.heap.size U5 (some ⟨g5, 0, none⟩) c5 ts by
                    have := unhide HT
                    subst this
                    exact OwnT.low ho (Nat.le_trans (unhide VW) (unhide LE5)))
                  have NE5 := hide (show sp.map (·.block) ≠ some g5 from fun e => by have := (unhide OW).blk_lt _ e; have := unhide G5; omega)
                  have F := hide (show V.grownBy U5 (some C) from ⟨hg.os.trans (unhide F).os, hg.tape.trans (unhide F).tape, hg.output.trans (unhide F).output, Nat.le_trans (unhide F).size hg.size, fun k hk hne => (hg.block k (Nat.lt_of_lt_of_le hk (unhide F).size) (fun e => by have := Option.some.inj e; have := unhide LE5; have := unhide VW; omega)).trans ((unhide F).block k hk hne)⟩)
                  have G := hide ((unhide G).grown hg (unhide G).size (fun g e => by have := Option.some.inj e; have := unhide LE5; omega))
                  clear ho hg hw5
                  refine hK.out _ _ ?_ (fun hHeld => ?_)
                  · try dsimp only
                    exact unhide SS5 _ (unhide F)
                  clear hK K
                  refine hP ?_
                  refine hT 16 ?_
                  refine wpAnyH_ready (rs := [1, 17]) (by kernel_rfl) (by simp) ?_
                  refine AllReadyH.cons rfl (fun K hK => ?_) ?_
                  · have cc := fcell0 (unhide HC) 2 _ rfl
                    go_simp
                    clear cc
                    refine hK.out _ _ ?_ (fun hHeld => ?_)
                    · try dsimp only
                      exact unhide SS5 _ (unhide F)
                    clear hK K
                    refine hP ?_
                    refine wpAnyH_ready (rs := [17]) (by kernel_rfl) (by simp) ?_
                    refine AllReadyH.cons rfl (fun K hK => ?_) ?_
                    · refine step_newP rfl 35 rfl nm (some ⟨g5, 0, none⟩) tl c5 rfl ?_
                      intro B5 U5 hE hEn hb
                      have HB5 := hide hEn
                      have HC := hide (later_block hb (unhide HC))
                      have F := hide (grown_low (unhide F) (hb.mono (unhide F).size))
                      have OT := hide ((unhide OT).below hb)
                      have G := hide ((unhide G).trans (hb.mono (unhide G).size))
                      clear hE hEn hb
                      refine hK.out _ _ ?_ (fun hHeld => ?_)
                      · try dsimp only
                        exact unhide SS5 _ (unhide F)
                      clear hK K
                      refine hP ?_
                      refine wpAnyH_ready (rs := [18]) (by kernel_rfl) (by simp) ?_
                      refine AllReadyH.cons rfl (fun K hK => ?_) ?_
                      · refine step_appendW rfl (.tmp 20) (.tmp 36) rfl V.heap.size sp j c l rfl (unhide LJ) ((unhide OW).same (fun g _ h2 => (unhide G).block g h2)) B5 ⟨⟨nm, ts⟩, g5, c5⟩ rfl (by have := unhide HT; subst this; exact unhide HB5) (unhide OT) (unhide NE5) (by omega) (unhide F).size ?_
                        intro sp6 c6 U5 ho hb
                        have O6 := hide ho
                        have HC := hide ((hb.block C (unhide CV)).trans (unhide HC))
                        have F := hide (grown_low (unhide F) hb)
                        clear ho hb
                        refine hK.out _ _ ?_ (fun hHeld => ?_)
                        · try dsimp only
                          exact unhide SS5 _ (unhide F)
                        clear hK K
                        refine hP ?_
                        refine hT 19 ?_
                        refine wpAnyH_ready (rs := [20]) (by kernel_rfl) (by simp) ?_
                        refine AllReadyH.cons rfl (fun K hK => ?_) ?_
                        · have cc := fcell0 (unhide HC) 2 _ rfl
                          have cf : U5.frozen? ⟨C, 2, none⟩ = false := by simp [World.frozen?, unhide HC]
                          have a1 := heap_setCell_same U5 C 2 _ 45 (.slice sp6 (j + 1) c6) (unhide HC)
                          have a2 := grownSet U5 C 2 (.slice sp6 (j + 1) c6)
                          have O6 := hide ((unhide O6).same (w' := U5.setCell ⟨C, 2, none⟩ (.slice sp6 (j + 1) c6)) (fun g h1 h2 => a2.block g h2 (fun e => by have := Option.some.inj e; have := unhide CV; omega)))
                          have F := hide (grown_same (unhide F) a2)
                          have HC := hide (show (U5.setCell ⟨C, 2, none⟩ (.slice sp6 (j + 1) c6)).heap[C]? = some (.cells #[.int .i64 ver, .slice (some ⟨g3, 0, none⟩) n c3, .slice sp6 (j + 1) c6] 45 (0, 0)) from a1)
                          clear a1 a2
                          go_simp
                          clear cc cf
                          refine hK.out _ _ ?_ (fun hHeld => ?_)
                          · try dsimp only
                            exact unhide SS5 _ (unhide F)
                          clear hK K
                          refine hP ?_
                          refine wpAnyH_done (by kernel_rfl) ?_ _
                          have IV := hide (show CpI ver C g3 n c3 ps V (j + 1) (U5.setCell ⟨C, 2, none⟩ (.slice sp6 (j + 1) c6)) from ⟨sp6, c6, _, by rw [List.map_append, unhide LP, unhide TK]; rfl, by rw [List.length_append, unhide LJ]; rfl, unhide O6, unhide HC, unhide F⟩)
                          generalize U5.setCell ⟨C, 2, none⟩ (.slice sp6 (j + 1) c6) = U6 at *
                          clear F G HC O6 OT hHeld
                          go_wp2
                          exact ⟨⟨j + 1, by omega, by go_num, IV⟩, by simp [intOf]; omega⟩
                        exact AllReadyH.nil
                      exact AllReadyH.nil
                    exact AllReadyH.nil
                  refine AllReadyH.cons rfl (fun K hK => ?_) ?_
                  · refine step_newP rfl 35 rfl nm (some ⟨g5, 0, none⟩) tl c5 rfl ?_
                    intro B5 U5 hE hEn hb
                    have HB5 := hide hEn
                    have HC := hide (later_block hb (unhide HC))
                    have F := hide (grown_low (unhide F) (hb.mono (unhide F).size))
                    have OT := hide ((unhide OT).below hb)
                    have G := hide ((unhide G).trans (hb.mono (unhide G).size))
                    clear hE hEn hb
                    refine hK.out _ _ ?_ (fun hHeld => ?_)
                    · try dsimp only
                      exact unhide SS5 _ (unhide F)
                    clear hK K
                    refine hP ?_
                    refine wpAnyH_ready (rs := [1]) (by kernel_rfl) (by simp) ?_
                    refine AllReadyH.cons rfl (fun K hK => ?_) ?_
                    · have cc := fcell0 (unhide HC) 2 _ rfl
                      go_simp
                      clear cc
                      refine hK.out _ _ ?_ (fun hHeld => ?_)
                      · try dsimp only
                        exact unhide SS5 _ (unhide F)
                      clear hK K
                      refine hP ?_
                      refine wpAnyH_ready (rs := [18]) (by kernel_rfl) (by simp) ?_
                      refine AllReadyH.cons rfl (fun K hK => ?_) ?_
                      · refine step_appendW rfl (.tmp 20) (.tmp 36) rfl V.heap.size sp j c l rfl (unhide LJ) ((unhide OW).same (fun g _ h2 => (unhide G).block g h2)) B5 ⟨⟨nm, ts⟩, g5, c5⟩ rfl (by have := unhide HT; subst this; exact unhide HB5) (unhide OT) (unhide NE5) (by omega) (unhide F).size ?_
                        intro sp6 c6 U5 ho hb
                        have O6 := hide ho
                        have HC := hide ((hb.block C (unhide CV)).trans (unhide HC))
                        have F := hide (grown_low (unhide F) hb)
                        clear ho hb
                        refine hK.out _ _ ?_ (fun hHeld => ?_)
                        · try dsimp only
                          exact unhide SS5 _ (unhide F)
                        clear hK K
                        refine hP ?_
                        refine hT 19 ?_
                        refine wpAnyH_ready (rs := [20]) (by kernel_rfl) (by simp) ?_
                        refine AllReadyH.cons rfl (fun K hK => ?_) ?_
                        · have cc := fcell0 (unhide HC) 2 _ rfl
                          have cf : U5.frozen? ⟨C, 2, none⟩ = false := by simp [World.frozen?, unhide HC]
                          have a1 := heap_setCell_same U5 C 2 _ 45 (.slice sp6 (j + 1) c6) (unhide HC)
                          have a2 := grownSet U5 C 2 (.slice sp6 (j + 1) c6)
                          have O6 := hide ((unhide O6).same (w' := U5.setCell ⟨C, 2, none⟩ (.slice sp6 (j + 1) c6)) (fun g h1 h2 => a2.block g h2 (fun e => by have := Option.some.inj e; have := unhide CV; omega)))
                          have F := hide (grown_same (unhide F) a2)
                          have HC := hide (show (U5.setCell ⟨C, 2, none⟩ (.slice sp6 (j + 1) c6)).heap[C]? = some (.cells #[.int .i64 ver, .slice (some ⟨g3, 0, none⟩) n c3, .slice sp6 (j + 1) c6] 45 (0, 0)) from a1)
                          clear a1 a2
                          go_simp
                          clear cc cf
                          refine hK.out _ _ ?_ (fun hHeld => ?_)
                          · try dsimp only
                            exact unhide SS5 _ (unhide F)
                          clear hK K
                          refine hP ?_
                          refine wpAnyH_done (by kernel_rfl) ?_ _
                          have IV := hide (show CpI ver C g3 n c3 ps V (j + 1) (U5.setCell ⟨C, 2, none⟩ (.slice sp6 (j + 1) c6)) from ⟨sp6, c6, _, by rw [List.map_append, unhide LP, unhide TK]; rfl, by rw [List.length_append, unhide LJ]; rfl, unhide O6, unhide HC, unhide F⟩)
                          generalize U5.setCell ⟨C, 2, none⟩ (.slice sp6 (j + 1) c6) = U6 at *
                          clear F G HC O6 OT hHeld
                          go_wp2
                          exact ⟨⟨j + 1, by omega, by go_num, IV⟩, by simp [intOf]; omega⟩
                        exact AllReadyH.nil
                      exact AllReadyH.nil
                    exact AllReadyH.nil
                  exact AllReadyH.nil
                exact AllReadyH.nil
              exact AllReadyH.nil
            · have hjj : ¬ (j : Int) < (m : Int) := by omega
              obtain rfl : j = m := by omega
              have e0 := fcell0 (unhide HC) 0 _ rfl
              have e1 := fcell0 (unhide HC) 1 _ rfl
              have e2 := fcell0 (unhide HC) 2 _ rfl
              have XD := hide (later_block (unhide FB _ (unhide FW)) (unhide X2))
              have z0 := fcell0 (unhide XD) 0 _ rfl
              have z1 := fcell0 (unhide XD) 1 _ rfl
              have z2 := fcell0 (unhide XD) 2 _ rfl
              have f0 : wr.frozen? ⟨w.heap.size + 1, 0, none⟩ = false := by simp [World.frozen?, unhide XD]
              have f1 : wr.frozen? ⟨w.heap.size + 1, 1, none⟩ = false := by simp [World.frozen?, unhide XD]
              have f2 : wr.frozen? ⟨w.heap.size + 1, 2, none⟩ = false := by simp [World.frozen?, unhide XD]
              obtain ⟨a1, a2⟩ := set3 (x := .int .i64 ver) (y := .slice (some ⟨g3, 0, none⟩) n c3) (z := .slice sp j c) (unhide XD)
              have A1 := hide a1
              have A2 := hide a2
              clear a1 a2
              go_wp2
              generalize (((wr.setCell ⟨w.heap.size + 1, 0, none⟩ (.int .i64 ver)).setCell ⟨w.heap.size + 1, 1, none⟩ (.slice (some ⟨g3, 0, none⟩) n c3)).setCell ⟨w.heap.size + 1, 2, none⟩ (.slice sp j c)) = W9 at *
              clear z0 z1 z2 f0 f1 f2 e0 e1 e2
              have g0 := fcell0 (unhide A1) 0 _ rfl
              have g1 := fcell0 (unhide A1) 1 _ rfl
              have g2 := fcell0 (unhide A1) 2 _ rfl
              have CF := hide (show CfAt W9 ⟨ver, rs, ps⟩ ⟨some ⟨g3, 0, none⟩, c3, sp, c⟩ ∧ Below w.heap.size w W9 ∧ OwnW w.heap.size W9 sp c l ∧ l.map Pw.po = ps by
                have hpo : List.map Pw.po l = ps := by rw [unhide LP, ← unhide HM, List.take_length]
                have hlow : V.heap.size ≤ wr.heap.size := (unhide FW).size
                have hZ := unhide Z2
                have hF2 := (unhide FB _ (unhide FW)).size
                have hO := (unhide OW).same (w' := W9) (fun g h1 h2 => (unhide A2).block g h2 (fun e => by have := Option.some.inj e; have := unhide LC; have := unhide CV; omega))
                obtain ⟨hpos, hpc⟩ := hO.at_ (fun x hx => by
                  have hx2 : x.po ∈ ps := by rw [← hpo]; exact List.mem_map_of_mem hx
                  obtain ⟨i, hi, e⟩ := List.getElem_of_mem hx2
                  obtain ⟨_, _, ta, tc, _, _, _, hT, hl, _⟩ := (unhide P1).cell i hi
                  rw [e] at hT hl
                  exact ⟨hT.lt, hl.1⟩)
                rw [hpo] at hpos
                obtain ⟨hrt, hrc⟩ := unhide RT wr (unhide FW)
                have hrt9 : RtsAt W9 (some ⟨g3, 0, none⟩) rs := ⟨hrt.sz, fun i hi => by
                  obtain ⟨b, off, e, r0, r1, r2⟩ := hrt.cell i hi
                  have hb : b = g3 := by cases e; rfl
                  have hlt : g3 < wr.heap.size := by have := unhide G3; omega
                  have hk : W9.heap[g3]? = wr.heap[g3]? := (unhide A2).block _ hlt (fun e => by have := Option.some.inj e; have := unhide GL; omega)
                  subst hb
                  exact ⟨b, off, e, (World.cell?_of_block hk).trans r0, (World.cell?_of_block hk).trans r1, (World.cell?_of_block hk).trans r2⟩⟩
                have hlm := unhide LJ
                refine ⟨⟨unhide WV, hrt9, hpos, ⟨by have := unhide HN; simp only [maxLen]; omega, by have := unhide HN; simp only; omega⟩, ⟨by have := unhide HM; simp only [maxLen]; omega, by have := unhide HM; simp only; omega⟩, fun h => by cases h⟩, ?_, hO.low (by have := (unhide B2).size; have := (unhide FB _ (grown_refl V _)).size; omega), hpo⟩
                exact ((unhide B2).trans ((unhide FB _ (unhide FW)).mono (unhide B2).size)).grown (unhide A2) (by have := (unhide B2).size; omega) (fun g e => by have := Option.some.inj e; omega))
              refine bodyPost_ret (v := .agg #[.int .i64 ver, .slice (some ⟨g3, 0, none⟩) n c3, .slice sp j c]) (by simp [results, Tryz.results68, go_sem, g0, g1, g2]) rfl ⟨⟨some ⟨g3, 0, none⟩, c3, sp, c⟩, rfl, (unhide CF).1, (unhide CF).2.1, l, (unhide CF).2.2.1, (unhide CF).2.2.2⟩
        exact AllReadyH.nil
      exact AllReadyH.nil
    exact AllReadyH.nil
  refine AllReadyH.cons rfl (fun K hK => ?_) ?_
  · refine step_newC rfl rfl ?_
    intro C U hC hCn hb
    have LC := hide (show W2.heap.size ≤ C by rw [← hC]; exact (unhide F).size)
    have HC := hide hCn
    first
      | (have hV : O3 = O3 := rfl
         clear hV
         have NC := hide (show g3 ≠ C by have := unhide G3; omega)
         have O3 := hide (own_stays (unhide O3) (fun _ hg => hb.block _ hg))
         have G3 := hide (Nat.lt_of_lt_of_le (unhide G3) hb.size))
      | (have hV : HE = HE := rfl
         clear hV
         have NE := hide (show C ≠ E by have := (Array.getElem?_eq_some_iff.1 (unhide HE)).1; omega)
         have HE := hide (later_block hb (unhide HE)))
      | skip
    have F := hide ((unhide F).trans (hb.mono (unhide F).size))
    clear hC hCn hb
    refine hK.out _ _ ?_ (fun hHeld => ?_)
    · try dsimp only
      exact unhide SS _ (unhide F)
    clear hK K
    refine hP ?_
    refine wpAnyH_ready (rs := [2]) (by kernel_rfl) (by simp) ?_
    refine AllReadyH.cons rfl (fun K hK => ?_) ?_
    · refine step_newR rfl rfl ?_
      intro E U hE hEn hb
      have LE := hide (show W2.heap.size ≤ E by rw [← hE]; exact (unhide F).size)
      have HE := hide hEn
      first
        | (have hV : HC = HC := rfl
           clear hV
           have NE := hide (show C ≠ E by have := (Array.getElem?_eq_some_iff.1 (unhide HC)).1; omega)
           have HC := hide (later_block hb (unhide HC)))
        | skip
      have F := hide ((unhide F).trans (hb.mono (unhide F).size))
      clear hE hEn hb
      refine hK.out _ _ ?_ (fun hHeld => ?_)
      · try dsimp only
        exact unhide SS _ (unhide F)
      clear hK K
      refine hP ?_
      refine wpAnyH_ready (rs := [5]) (by kernel_rfl) (by simp) ?_
      refine AllReadyH.cons rfl (fun K hK => ?_) ?_
      · refine step_cloneG rfl (.tmp 7) (.tmp 9) 42 56 rfl i0 _ 3 48 Tryz.underlying42 (unhide I0) (unhide I1) (unhide I2) (unhide I3) rfl (by omega) E rfl (unhide HE) ra n rc rfl (unhide RN) (rowsR rs) (unhide RL) ((unhide R2).later (unhide F)).news (rt_oneCell rs) (by omega) (by omega) ?_
        intro g3 c3 U ho3 hg3 hw3
        have hEl := (Array.getElem?_eq_some_iff.1 (unhide HE)).1
        have O3 := hide ho3
        first
          | (have hV : HC = HC := rfl
             clear hV
             have NC := hide (show g3 ≠ C by have := (Array.getElem?_eq_some_iff.1 (unhide HC)).1; have := unhide NE; omega)
             have HC := hide ((hg3.block C (Array.getElem?_eq_some_iff.1 (unhide HC)).1 (fun e => unhide NE (Option.some.inj e))).trans (unhide HC)))
          | skip
        have GL := hide (show W2.heap.size ≤ g3 by have := unhide LE; have := (unhide F).size; omega)
        have G3 := hide (show g3 < U.heap.size by
          rcases ho3.2 with ⟨hv, _⟩ | ⟨g', cap, cur, hv, _, hg, _⟩
          · cases hv
          · simp only [Value.slice.injEq, Option.some.injEq, Addr.mk.injEq, and_true, true_and] at hv
            rw [hv.1]
            exact (Array.getElem?_eq_some_iff.1 hg).1)
        have F := hide ((unhide F).grown hg3 (unhide F).size (fun g hg => by have := Option.some.inj hg; have := unhide LE; omega))
        clear ho3 hg3 hw3 hEl
        refine hK.out _ _ ?_ (fun hHeld => ?_)
        · try dsimp only
          exact unhide SS _ (unhide F)
        clear hK K
        refine hP ?_
        refine hT 6 ?_
        refine wpAnyH_ready (rs := [8]) (by kernel_rfl) (by simp) ?_
        refine AllReadyH.cons rfl (fun K hK => ?_) ?_
        · obtain ⟨a1, a2⟩ := set3 (x := .int .i64 ver) (y := .slice (some ⟨g3, 0, none⟩) n c3) (z := .slice none 0 0) (unhide HC)
          have F := hide ((unhide F).grown a2 (unhide F).size (fun g hg => by have := Option.some.inj hg; have := unhide LC; omega))
          have O3 := hide (own_stays (unhide O3) (fun _ hg => a2.block _ hg (fun e => unhide NC (Option.some.inj e))))
          have G3 := hide (Nat.lt_of_lt_of_le (unhide G3) a2.size)
          have u0 := fcell0 (unhide HC) 0 _ rfl
          have u1 := fcell0 (unhide HC) 1 _ rfl
          have u2 := fcell0 (unhide HC) 2 _ rfl
          have f0 : U.frozen? ⟨C, 0, none⟩ = false := by simp [World.frozen?, unhide HC]
          have f1 : U.frozen? ⟨C, 1, none⟩ = false := by simp [World.frozen?, unhide HC]
          have f2 : U.frozen? ⟨C, 2, none⟩ = false := by simp [World.frozen?, unhide HC]
          have HC := hide a1
          clear a1 a2
          go_simp
          clear u0 u1 u2 f0 f1 f2
          refine hK.out _ _ ?_ (fun hHeld => ?_)
          · try dsimp only
            exact unhide SS _ (unhide F)
          clear hK K
          refine hP ?_
          refine wpAnyH_done (by kernel_rfl) ?_ _
          generalize (((U.setCell ⟨C, 0, none⟩ (.int .i64 ver)).setCell ⟨C, 1, none⟩ (.slice (some ⟨g3, 0, none⟩) n c3)).setCell ⟨C, 2, none⟩ (.slice none 0 0)) = V at *
          have CV := hide (Array.getElem?_eq_some_iff.1 (unhide HC)).1
          have RT := hide (show ∀ W : World, V.grownBy W (some C) → RtsAt W (some ⟨g3, 0, none⟩) rs ∧ n ≤ c3 from fun W hg => by
            have h3 := own_stays (w' := W) (unhide O3) (fun _ hl => hg.block _ hl (fun e => unhide NC (Option.some.inj e)))
            have hn := unhide HN
            subst hn
            exact own_routes h3 (unhide R1).sz)
          have FB := hide (show ∀ W : World, V.grownBy W (some C) → Below W2.heap.size W2 W from fun W hg => (unhide F).grown hg (unhide F).size (fun g e => by have := Option.some.inj e; have := unhide LC; omega))
          have Z0 := hide (show CpI ver C g3 n c3 ps V 0 V from ⟨none, 0, [], rfl, rfl, OwnW.ofNil _ _, unhide HC, grown_refl _ _⟩)
          clear hHeld F HC O3
          go_wp2_with fail
          go_loopw [4] (fun i wr => ∃ j : Nat, j ≤ m ∧ i = .int .i64 (j : Int) ∧ Hid (CpI ver C g3 n c3 ps V j wr)) (fun i _ => m - (intOf i).toNat)
          case atStart => exact ⟨0, by omega, rfl, Z0⟩
          case round =>
            obtain ⟨j, hj, rfl, IV⟩ := hrel
            obtain ⟨sp, c, l, hlp, hlj, hOW, hHC, hF⟩ := unhide IV
            have LP := hide hlp
            have LJ := hide hlj
            have OW := hide hOW
            have HC := hide hHC
            have FW := hide hF
            have k2 := cell_later (unhide FB _ hF) (unhide D2)
            clear hlp hlj hOW hHC hF IV
            by_cases hjn : j < m
            · have y0 : (0 : Int) ≤ (j : Int) := by omega
              have y1 : (j : Int) < (m : Int) := by omega
              have hjl : j < ps.length := by rw [unhide HM]; exact hjn
              obtain ⟨b, off, ta, tc, rfl, q0, q1, hT, hl, hz⟩ := (unhide P2).cell j hjl
              have LT := hide ((unhide TS) _ (List.getElem_mem hjl))
              have TK := hide (show ps.take (j + 1) = ps.take j ++ [ps[j]] from by rw [List.take_succ_eq_append_getElem hjl])
              generalize ps[j] = po at *
              obtain ⟨nm, ts⟩ := po
              simp only at q0 q1 hT hl LT
              have TT := hide hT
              have TN := hide (show ta = none → ts.length = 0 ∧ tc = 0 from fun e => by subst e; exact ⟨hT.nil, hz rfl⟩)
              have TL := hide (rowsT_length ts)
              have SS5 := hide (show ∀ W : World, V.grownBy W (some C) → W.cell? ⟨w.heap.size, 2, none⟩ = some (.slice (some ⟨b, off, none⟩) m pc) ∧ W.cell? ⟨b, off + j * 2, none⟩ = some (.string nm) ∧ W.cell? ⟨b, off + j * 2 + 1, none⟩ = some (.slice ta ts.length tc) from fun W hg => ⟨cell_later (unhide FB _ hg) (unhide D2), cell_later (unhide FB _ hg) q0, cell_later (unhide FB _ hg) q1⟩)
              have htl := unhide LT
              clear q0 q1 hT hl hz
              generalize htn : ts.length = tl at *
              have HT := hide htn
              clear htn
              have F := hide (show V.grownBy wr.drew (some C) from grown_low (unhide FW) (Below.refl _ _).drew)
              have G := hide (show Below wr.heap.size wr wr.drew from (Below.refl _ _).drew)
              have HC := hide (show wr.drew.heap[C]? = some (.cells #[.int .i64 ver, .slice (some ⟨g3, 0, none⟩) n c3, .slice sp j c] 45 (0, 0)) from unhide HC)
              have VW := hide (unhide FW).size
              go_wp2_with fail
              refine wp_region_held_drew (S := fun w' => w'.cell? ⟨w.heap.size, 2, none⟩ = some (.slice (some ⟨b, off, none⟩) m pc) ∧ w'.cell? ⟨b, off + j * 2, none⟩ = some (.string nm) ∧ w'.cell? ⟨b, off + j * 2 + 1, none⟩ = some (.slice ta tl tc)) (by kernel_rfl) ?_ (fun hHeld => ?_)
              · try dsimp only
                exact unhide SS5 _ (unhide F)
              refine hT 0 ?_
              refine hT 2 ?_
              refine hT 3 ?_
              refine hT 4 ?_
              refine hT 5 ?_
              refine hT 6 ?_
              refine hT 7 ?_
              refine hT 9 ?_
              refine hT 10 ?_
              refine hT 11 ?_
              refine hT 12 ?_
              refine hT 13 ?_
              refine hT 14 ?_
              refine wpAnyH_ready (rs := [1, 8]) (by kernel_rfl) (by simp) ?_
              refine AllReadyH.cons rfl (fun K hK => ?_) ?_
              · have cc := fcell0 (unhide HC) 2 _ rfl
                go_simp
                clear cc
                refine hK.out _ _ ?_ (fun hHeld => ?_)
                · try dsimp only
                  exact unhide SS5 _ (unhide F)
                clear hK K
                refine hP ?_
                refine wpAnyH_ready (rs := [8]) (by kernel_rfl) (by simp) ?_
                refine AllReadyH.cons rfl (fun K hK => ?_) ?_
                · refine step_newT rfl rfl ?_
                  intro E5 U5 hE hEn hb
                  have LE5 := hide (show wr.heap.size ≤ E5 by rw [← hE]; exact (unhide G).size)
                  have HE5 := hide hEn
                  have HC := hide (later_block hb (unhide HC))
                  have F := hide (grown_low (unhide F) (hb.mono (unhide F).size))
                  have G := hide ((unhide G).trans (hb.mono (unhide G).size))
                  clear hE hEn hb
                  refine hK.out _ _ ?_ (fun hHeld => ?_)
                  · try dsimp only
                    exact unhide SS5 _ (unhide F)
                  clear hK K
                  refine hP ?_
                  refine wpAnyH_ready (rs := [15]) (by kernel_rfl) (by simp) ?_
                  refine AllReadyH.cons rfl (fun K hK => ?_) ?_
                  · refine step_cloneG rfl (.tmp 27) (.tmp 33) 31 70 rfl i1 _ 2 24 Tryz.underlying31 (unhide J0) (unhide J1) (unhide J2) (unhide J3) rfl (by omega) E5 rfl (unhide HE5) ta tl tc rfl (unhide TN) (rowsT ts) (unhide TL) ((unhide TT).later (unhide FB _ (unhide F))).news (tg_oneCell ts) (by omega) (by omega) ?_
                    intro g5 c5 U5 ho hg hw5
                    have HC := hide ((hg.block C (Array.getElem?_eq_some_iff.1 (unhide HC)).1 (fun e => by have := Option.some.inj e; have := unhide LE5; have := unhide VW; have := unhide CV; omega)).trans (unhide HC))
                    have G5 := hide (show wr.heap.size ≤ g5 by have := unhide LE5; have := (unhide G).size; omega)
                    have OT := hide (show OwnT V.heap.size U5 (some ⟨g5, 0, none⟩) c5 ts by
                      have := unhide HT
                      subst this
                      exact OwnT.low ho (Nat.le_trans (unhide VW) (unhide LE5)))
                    have NE5 := hide (show sp.map (·.block) ≠ some g5 from fun e => by have := (unhide OW).blk_lt _ e; have := unhide G5; omega)
                    have F := hide (show V.grownBy U5 (some C) from ⟨hg.os.trans (unhide F).os, hg.tape.trans (unhide F).tape, hg.output.trans (unhide F).output, Nat.le_trans (unhide F).size hg.size, fun k hk hne => (hg.block k (Nat.lt_of_lt_of_le hk (unhide F).size) (fun e => by have := Option.some.inj e; have := unhide LE5; have := unhide VW; omega)).trans ((unhide F).block k hk hne)⟩)
                    have G := hide ((unhide G).grown hg (unhide G).size (fun g e => by have := Option.some.inj e; have := unhide LE5; omega))
                    clear ho hg hw5
                    refine hK.out _ _ ?_ (fun hHeld => ?_)
                    · try dsimp only
                      exact unhide SS5 _ (unhide F)
                    clear hK K
                    refine hP ?_
                    refine hT 16 ?_
                    refine wpAnyH_ready (rs := [17]) (by kernel_rfl) (by simp) ?_
                    refine AllReadyH.cons rfl (fun K hK => ?_) ?_
                    · refine step_newP rfl 35 rfl nm (some ⟨g5, 0, none⟩) tl c5 rfl ?_
                      intro B5 U5 hE hEn hb
                      have HB5 := hide hEn
                      have HC := hide (later_block hb (unhide HC))
                      have F := hide (grown_low (unhide F) (hb.mono (unhide F).size))
                      have OT := hide ((unhide OT).below hb)
                      have G := hide ((unhide G).trans (hb.mono (unhide G).size))
                      clear hE hEn hb
                      refine hK.out _ _ ?_ (fun hHeld => ?_)
                      · try dsimp only
                        exact unhide SS5 _ (unhide F)
                      clear hK K
                      refine hP ?_
                      refine wpAnyH_ready (rs := [18]) (by kernel_rfl) (by simp) ?_
                      refine AllReadyH.cons rfl (fun K hK => ?_) ?_
                      · refine step_appendW rfl (.tmp 20) (.tmp 36) rfl V.heap.size sp j c l rfl (unhide LJ) ((unhide OW).same (fun g _ h2 => (unhide G).block g h2)) B5 ⟨⟨nm, ts⟩, g5, c5⟩ rfl (by have := unhide HT; subst this; exact unhide HB5) (unhide OT) (unhide NE5) (by omega) (unhide F).size ?_
                        intro sp6 c6 U5 ho hb
                        have O6 := hide ho
                        have HC := hide ((hb.block C (unhide CV)).trans (unhide HC))
                        have F := hide (grown_low (unhide F) hb)
                        clear ho hb
                        refine hK.out _ _ ?_ (fun hHeld => ?_)
                        · try dsimp only
                          exact unhide SS5 _ (unhide F)
                        clear hK K
                        refine hP ?_
                        refine hT 19 ?_
                        refine wpAnyH_ready (rs := [20]) (by kernel_rfl) (by simp) ?_
                        refine AllReadyH.cons rfl (fun K hK => ?_) ?_
                        · have cc := fcell0 (unhide HC) 2 _ rfl
                          have cf : U5.frozen? ⟨C, 2, none⟩ = false := by simp [World.frozen?, unhide HC]
                          have a1 := heap_setCell_same U5 C 2 _ 45 (.slice sp6 (j + 1) c6) (unhide HC)
                          have a2 := grownSet U5 C 2 (.slice sp6 (j + 1) c6)
                          have O6 := hide ((unhide O6).same (w' := U5.setCell ⟨C, 2, none⟩ (.slice sp6 (j + 1) c6)) (fun g h1 h2 => a2.block g h2 (fun e => by have := Option.some.inj e; have := unhide CV; omega)))
                          have F := hide (grown_same (unhide F) a2)
                          have HC := hide (show (U5.setCell ⟨C, 2, none⟩ (.slice sp6 (j + 1) c6)).heap[C]? = some (.cells #[.int .i64 ver, .slice (some ⟨g3, 0, none⟩) n c3, .slice sp6 (j + 1) c6] 45 (0, 0)) from a1)
                          clear a1 a2
                          go_simp
                          clear cc cf
                          refine hK.out _ _ ?_ (fun hHeld => ?_)
                          · try dsimp only
                            exact unhide SS5 _ (unhide F)
                          clear hK K
                          refine hP ?_
                          refine wpAnyH_done (by kernel_rfl) ?_ _
                          have IV := hide (show CpI ver C g3 n c3 ps V (j + 1) (U5.setCell ⟨C, 2, none⟩ (.slice sp6 (j + 1) c6)) from ⟨sp6, c6, _, by rw [List.map_append, unhide LP, unhide TK]; rfl, by rw [List.length_append, unhide LJ]; rfl, unhide O6, unhide HC, unhide F⟩)
                          generalize U5.setCell ⟨C, 2, none⟩ (.slice sp6 (j + 1) c6) = U6 at *
                          clear F G HC O6 OT hHeld
                          go_wp2
                          exact ⟨⟨j + 1, by omega, by go_num, IV⟩, by simp [intOf]; omega⟩
                        exact AllReadyH.nil
                      exact AllReadyH.nil
                    exact AllReadyH.nil
                  exact AllReadyH.nil
                exact AllReadyH.nil
              refine AllReadyH.cons rfl (fun K hK => ?_) ?_
              · refine step_newT rfl rfl ?_
                intro E5 U5 hE hEn hb
                have LE5 := hide (show wr.heap.size ≤ E5 by rw [← hE]; exact (unhide G).size)
                have HE5 := hide hEn
                have HC := hide (later_block hb (unhide HC))
                have F := hide (grown_low (unhide F) (hb.mono (unhide F).size))
                have G := hide ((unhide G).trans (hb.mono (unhide G).size))
                clear hE hEn hb
                refine hK.out _ _ ?_ (fun hHeld => ?_)
                · try dsimp only
                  exact unhide SS5 _ (unhide F)
                clear hK K
                refine hP ?_
                refine wpAnyH_ready (rs := [1, 15]) (by kernel_rfl) (by simp) ?_
                refine AllReadyH.cons rfl (fun K hK => ?_) ?_
                · have cc := fcell0 (unhide HC) 2 _ rfl
                  go_simp
                  clear cc
                  refine hK.out _ _ ?_ (fun hHeld => ?_)
                  · try dsimp only
                    exact unhide SS5 _ (unhide F)
                  clear hK K
                  refine hP ?_
                  refine wpAnyH_ready (rs := [15]) (by kernel_rfl) (by simp) ?_
                  refine AllReadyH.cons rfl (fun K hK => ?_) ?_
                  · refine step_cloneG rfl (.tmp 27) (.tmp 33) 31 70 rfl i1 _ 2 24 Tryz.underlying31 (unhide J0) (unhide J1) (unhide J2) (unhide J3) rfl (by omega) E5 rfl (unhide HE5) ta tl tc rfl (unhide TN) (rowsT ts) (unhide TL) ((unhide TT).later (unhide FB _ (unhide F))).news (tg_oneCell ts) (by omega) (by omega) ?_
                    intro g5 c5 U5 ho hg hw5
                    have HC := hide ((hg.block C (Array.getElem?_eq_some_iff.1 (unhide HC)).1 (fun e => by have := Option.some.inj e; have := unhide LE5; have := unhide VW; have := unhide CV; omega)).trans (unhide HC))
                    have G5 := hide (show wr.heap.size ≤ g5 by have := unhide LE5; have := (unhide G).size; omega)
                    have OT := hide (show OwnT V.heap.size U5 (some ⟨g5, 0, none⟩) c5 ts by
                      have := unhide HT
                      subst this
                      exact OwnT.low ho (Nat.le_trans (unhide VW) (unhide LE5)))
                    have NE5 := hide (show sp.map (·.block) ≠ some g5 from fun e => by have := (unhide OW).blk_lt _ e; have := unhide G5; omega)
                    have F := hide (show V.grownBy U5 (some C) from ⟨hg.os.trans (unhide F).os, hg.tape.trans (unhide F).tape, hg.output.trans (unhide F).output, Nat.le_trans (unhide F).size hg.size, fun k hk hne => (hg.block k (Nat.lt_of_lt_of_le hk (unhide F).size) (fun e => by have := Option.some.inj e; have := unhide LE5; have := unhide VW; omega)).trans ((unhide F).block k hk hne)⟩)
                    have G := hide ((unhide G).grown hg (unhide G).size (fun g e => by have := Option.some.inj e; have := unhide LE5; omega))
                    clear ho hg hw5
                    refine hK.out _ _ ?_ (fun hHeld => ?_)
                    · try dsimp only
                      exact unhide SS5 _ (unhide F)
                    clear hK K
                    refine hP ?_
                    refine hT 16 ?_
                    refine wpAnyH_ready (rs := [17]) (by kernel_rfl) (by simp) ?_
                    refine AllReadyH.cons rfl (fun K hK => ?_) ?_
                    · refine step_newP rfl 35 rfl nm (some ⟨g5, 0, none⟩) tl c5 rfl ?_
                      intro B5 U5 hE hEn hb
                      have HB5 := hide hEn
                      have HC := hide (later_block hb (unhide HC))
                      have F := hide (grown_low (unhide F) (hb.mono (unhide F).size))
                      have OT := hide ((unhide OT).below hb)
                      have G := hide ((unhide G).trans (hb.mono (unhide G).size))
                      clear hE hEn hb
                      refine hK.out _ _ ?_ (fun hHeld => ?_)
                      · try dsimp only
                        exact unhide SS5 _ (unhide F)
                      clear hK K
                      refine hP ?_
                      refine wpAnyH_ready (rs := [18]) (by kernel_rfl) (by simp) ?_
                      refine AllReadyH.cons rfl (fun K hK => ?_) ?_
                      · refine step_appendW rfl (.tmp 20) (.tmp 36) rfl V.heap.size sp j c l rfl (unhide LJ) ((unhide OW).same (fun g _ h2 => (unhide G).block g h2)) B5 ⟨⟨nm, ts⟩, g5, c5⟩ rfl (by have := unhide HT; subst this; exact unhide HB5) (unhide OT) (unhide NE5) (by omega) (unhide F).size ?_
                        intro sp6 c6 U5 ho hb
                        have O6 := hide ho
                        have HC := hide ((hb.block C (unhide CV)).trans (unhide HC))
                        have F := hide (grown_low (unhide F) hb)
                        clear ho hb
                        refine hK.out _ _ ?_ (fun hHeld => ?_)
                        · try dsimp only
                          exact unhide SS5 _ (unhide F)
                        clear hK K
                        refine hP ?_
                        refine hT 19 ?_
                        refine wpAnyH_ready (rs := [20]) (by kernel_rfl) (by simp) ?_
                        refine AllReadyH.cons rfl (fun K hK => ?_) ?_
                        · have cc := fcell0 (unhide HC) 2 _ rfl
                          have cf : U5.frozen? ⟨C, 2, none⟩ = false := by simp [World.frozen?, unhide HC]
                          have a1 := heap_setCell_same U5 C 2 _ 45 (.slice sp6 (j + 1) c6) (unhide HC)
                          have a2 := grownSet U5 C 2 (.slice sp6 (j + 1) c6)
                          have O6 := hide ((unhide O6).same (w' := U5.setCell ⟨C, 2, none⟩ (.slice sp6 (j + 1) c6)) (fun g h1 h2 => a2.block g h2 (fun e => by have := Option.some.inj e; have := unhide CV; omega)))
                          have F := hide (grown_same (unhide F) a2)
                          have HC := hide (show (U5.setCell ⟨C, 2, none⟩ (.slice sp6 (j + 1) c6)).heap[C]? = some (.cells #[.int .i64 ver, .slice (some ⟨g3, 0, none⟩) n c3, .slice sp6 (j + 1) c6] 45 (0, 0)) from a1)
                          clear a1 a2
                          go_simp
                          clear cc cf
                          refine hK.out _ _ ?_ (fun hHeld => ?_)
                          · try dsimp only
                            exact unhide SS5 _ (unhide F)
                          clear hK K
                          refine hP ?_
                          refine wpAnyH_done (by kernel_rfl) ?_ _
                          have IV := hide (show CpI ver C g3 n c3 ps V (j + 1) (U5.setCell ⟨C, 2, none⟩ (.slice sp6 (j + 1) c6)) from ⟨sp6, c6, _, by rw [List.map_append, unhide LP, unhide TK]; rfl, by rw [List.length_append, unhide LJ]; rfl, unhide O6, unhide HC, unhide F⟩)
                          generalize U5.setCell ⟨C, 2, none⟩ (.slice sp6 (j + 1) c6) = U6 at *
                          clear F G HC O6 OT hHeld
                          go_wp2
                          exact ⟨⟨j + 1, by omega, by go_num, IV⟩, by simp [intOf]; omega⟩
                        exact AllReadyH.nil
                      exact AllReadyH.nil
                    exact AllReadyH.nil
                  exact AllReadyH.nil
                refine AllReadyH.cons rfl (fun K hK => ?_) ?_
                · refine step_cloneG rfl (.tmp 27) (.tmp 33) 31 70 rfl i1 _ 2 24 Tryz.underlying31 (unhide J0) (unhide J1) (unhide J2) (unhide J3) rfl (by omega) E5 rfl (unhide HE5) ta tl tc rfl (unhide TN) (rowsT ts) (unhide TL) ((unhide TT).later (unhide FB _ (unhide F))).news (tg_oneCell ts) (by omega) (by omega) ?_
                  intro g5 c5 U5 ho hg hw5
                  have HC := hide ((hg.block C (Array.getElem?_eq_some_iff.1 (unhide HC)).1 (fun e => by have := Option.some.inj e; have := unhide LE5; have := unhide VW; have := unhide CV; omega)).trans (unhide HC))
                  have G5 := hide (show wr.heap.size ≤ g5 by have := unhide LE5; have := (unhide G).size; omega)
                  have OT := hide (show OwnT V.heap.size U5 (some ⟨g5, 0, none⟩) c5 ts by
                    have := unhide HT
                    subst this
                    exact OwnT.low ho (Nat.le_trans (unhide VW) (unhide LE5)))
                  have NE5 := hide (show sp.map (·.block) ≠ some g5 from fun e => by have := (unhide OW).blk_lt _ e; have := unhide G5; omega)
                  have F := hide (show V.grownBy U5 (some C) from ⟨hg.os.trans (unhide F).os, hg.tape.trans (unhide F).tape, hg.output.trans (unhide F).output, Nat.le_trans (unhide F).size hg.size, fun k hk hne => (hg.block k (Nat.lt_of_lt_of_le hk (unhide F).size) (fun e => by have := Option.some.inj e; have := unhide LE5; have := unhide VW; omega)).trans ((unhide F).block k hk hne)⟩)
                  have G := hide ((unhide G).grown hg (unhide G).size (fun g e => by have := Option.some.inj e; have := unhide LE5; omega))
                  clear ho hg hw5
                  refine hK.out _ _ ?_ (fun hHeld => ?_)
                  · try dsimp only
                    exact unhide SS5 _ (unhide F)
                  clear hK K
                  refine hP ?_
                  refine hT 16 ?_
                  refine wpAnyH_ready (rs := [1, 17]) (by kernel_rfl) (by simp) ?_
                  refine AllReadyH.cons rfl (fun K hK => ?_) ?_
                  · have cc := fcell0 (unhide HC) 2 _ rfl
                    go_simp
                    clear cc
                    refine hK.out _ _ ?_ (fun hHeld => ?_)
                    · try dsimp only
                      exact unhide SS5 _ (unhide F)
                    clear hK K
                    refine hP ?_
                    refine wpAnyH_ready (rs := [17]) (by kernel_rfl) (by simp) ?_
                    refine AllReadyH.cons rfl (fun K hK => ?_) ?_
                    · refine step_newP rfl 35 rfl nm (some ⟨g5, 0, none⟩) tl c5 rfl ?_
                      intro B5 U5 hE hEn hb
                      have HB5 := hide hEn
                      have HC := hide (later_block hb (unhide HC))
                      have F := hide (grown_low (unhide F) (hb.mono (unhide F).size))
                      have OT := hide ((unhide OT).below hb)
                      have G := hide ((unhide G).trans (hb.mono (unhide G).size))
                      clear hE hEn hb
                      refine hK.out _ _ ?_ (fun hHeld => ?_)
                      · try dsimp only
                        exact unhide SS5 _ (unhide F)
                      clear hK K
                      refine hP ?_
                      refine wpAnyH_ready (rs := [18]) (by kernel_rfl) (by simp) ?_
                      refine AllReadyH.cons rfl (fun K hK => ?_) ?_
                      · refine step_appendW rfl (.tmp 20) (.tmp 36) rfl V.heap.size sp j c l rfl (unhide LJ) ((unhide OW).same (fun g _ h2 => (unhide G).block g h2)) B5 ⟨⟨nm, ts⟩, g5, c5⟩ rfl (by have := unhide HT; subst this; exact unhide HB5) (unhide OT) (unhide NE5) (by omega) (unhide F).size ?_
                        intro sp6 c6 U5 ho hb
                        have O6 := hide ho
                        have HC := hide ((hb.block C (unhide CV)).trans (unhide HC))
                        have F := hide (grown_low (unhide F) hb)
                        clear ho hb
                        refine hK.out _ _ ?_ (fun hHeld => ?_)
                        · try dsimp only
                          exact unhide SS5 _ (unhide F)
                        clear hK K
                        refine hP ?_
                        refine hT 19 ?_
                        refine wpAnyH_ready (rs := [20]) (by kernel_rfl) (by simp) ?_
                        refine AllReadyH.cons rfl (fun K hK => ?_) ?_
                        · have cc := fcell0 (unhide HC) 2 _ rfl
                          have cf : U5.frozen? ⟨C, 2, none⟩ = false := by simp [World.frozen?, unhide HC]
                          have a1 := heap_setCell_same U5 C 2 _ 45 (.slice sp6 (j + 1) c6) (unhide HC)
                          have a2 := grownSet U5 C 2 (.slice sp6 (j + 1) c6)
                          have O6 := hide ((unhide O6).same (w' := U5.setCell ⟨C, 2, none⟩ (.slice sp6 (j + 1) c6)) (fun g h1 h2 => a2.block g h2 (fun e => by have := Option.some.inj e; have := unhide CV; omega)))
                          have F := hide (grown_same (unhide F) a2)
                          have HC := hide (show (U5.setCell ⟨C, 2, none⟩ (.slice sp6 (j + 1) c6)).heap[C]? = some (.cells #[.int .i64 ver, .slice (some ⟨g3, 0, none⟩) n c3, .slice sp6 (j + 1) c6] 45 (0, 0)) from a1)
                          clear a1 a2
                          go_simp
                          clear cc cf
                          refine hK.out _ _ ?_ (fun hHeld => ?_)
                          · try dsimp only
                            exact unhide SS5 _ (unhide F)
                          clear hK K
                          refine hP ?_
                          refine wpAnyH_done (by kernel_rfl) ?_ _
                          have IV := hide (show CpI ver C g3 n c3 ps V (j + 1) (U5.setCell ⟨C, 2, none⟩ (.slice sp6 (j + 1) c6)) from ⟨sp6, c6, _, by rw [List.map_append, unhide LP, unhide TK]; rfl, by rw [List.length_append, unhide LJ]; rfl, unhide O6, unhide HC, unhide F⟩)
                          generalize U5.setCell ⟨C, 2, none⟩ (.slice sp6 (j + 1) c6) = U6 at *
                          clear F G HC O6 OT hHeld
                          go_wp2
                          exact ⟨⟨j + 1, by omega, by go_num, IV⟩, by simp [intOf]; omega⟩
                        exact AllReadyH.nil
                      exact AllReadyH.nil
                    exact AllReadyH.nil
                  refine AllReadyH.cons rfl (fun K hK => ?_) ?_
                  · refine step_newP rfl 35 rfl nm (some ⟨g5, 0, none⟩) tl c5 rfl ?_
                    intro B5 U5 hE hEn hb
                    have HB5 := hide hEn
                    have HC := hide (later_block hb (unhide HC))
                    have F := hide (grown_low (unhide F) (hb.mono (unhide F).size))
                    have OT := hide ((unhide OT).below hb)
                    have G := hide ((unhide G).trans (hb.mono (unhide G).size))
                    clear hE hEn hb
                    refine hK.out _ _ ?_ (fun hHeld => ?_)
                    · try dsimp only
                      exact unhide SS5 _ (unhide F)
                    clear hK K
                    refine hP ?_
                    refine wpAnyH_ready (rs := [1]) (by kernel_rfl) (by simp) ?_
                    refine AllReadyH.cons rfl (fun K hK => ?_) ?_
                    · have cc := fcell0 (unhide HC) 2 _ rfl
                      go_simp
                      clear cc
                      refine hK.out _ _ ?_ (fun hHeld => ?_)
                      · try dsimp only
                        exact unhide SS5 _ (unhide F)
                      clear hK K
                      refine hP ?_
                      refine wpAnyH_ready (rs := [18]) (by kernel_rfl) (by simp) ?_
                      refine AllReadyH.cons rfl (fun K hK => ?_) ?_
                      · refine step_appendW rfl (.tmp 20) (.tmp 36) rfl V.heap.size sp j c l rfl (unhide LJ) ((unhide OW).same (fun g _ h2 => (unhide G).block g h2)) B5 ⟨⟨nm, ts⟩, g5, c5⟩ rfl (by have := unhide HT; subst this; exact unhide HB5) (unhide OT) (unhide NE5) (by omega) (unhide F).size ?_
                        intro sp6 c6 U5 ho hb
                        have O6 := hide ho
                        have HC := hide ((hb.block C (unhide CV)).trans (unhide HC))
                        have F := hide (grown_low (unhide F) hb)
                        clear ho hb
                        refine hK.out _ _ ?_ (fun hHeld => ?_)
                        · try dsimp only
                          exact unhide SS5 _ (unhide F)
                        clear hK K
                        refine hP ?_
                        refine hT 19 ?_
                        refine wpAnyH_ready (rs := [20]) (by kernel_rfl) (by simp) ?_
                        refine AllReadyH.cons rfl (fun K hK => ?_) ?_
                        · have cc := fcell0 (unhide HC) 2 _ rfl
                          have cf : U5.frozen? ⟨C, 2, none⟩ = false := by simp [World.frozen?, unhide HC]
                          have a1 := heap_setCell_same U5 C 2 _ 45 (.slice sp6 (j + 1) c6) (unhide HC)
                          have a2 := grownSet U5 C 2 (.slice sp6 (j + 1) c6)
                          have O6 := hide ((unhide O6).same (w' := U5.setCell ⟨C, 2, none⟩ (.slice sp6 (j + 1) c6)) (fun g h1 h2 => a2.block g h2 (fun e => by have := Option.some.inj e; have := unhide CV; omega)))
                          have F := hide (grown_same (unhide F) a2)
                          have HC := hide (show (U5.setCell ⟨C, 2, none⟩ (.slice sp6 (j + 1) c6)).heap[C]? = some (.cells #[.int .i64 ver, .slice (some ⟨g3, 0, none⟩) n c3, .slice sp6 (j + 1) c6] 45 (0, 0)) from a1)
                          clear a1 a2
                          go_simp
                          clear cc cf
                          refine hK.out _ _ ?_ (fun hHeld => ?_)
                          · try dsimp only
                            exact unhide SS5 _ (unhide F)
                          clear hK K
                          refine hP ?_
                          refine wpAnyH_done (by kernel_rfl) ?_ _
                          have IV := hide (show CpI ver C g3 n c3 ps V (j + 1) (U5.setCell ⟨C, 2, none⟩ (.slice sp6 (j + 1) c6)) from ⟨sp6, c6, _, by rw [List.map_append, unhide LP, unhide TK]; rfl, by rw [List.length_append, unhide LJ]; rfl, unhide O6, unhide HC, unhide F⟩)
                          generalize U5.setCell ⟨C, 2, none⟩ (.slice sp6 (j + 1) c6) = U6 at *
                          clear F G HC O6 OT hHeld
                          go_wp2
                          exact ⟨⟨j + 1, by omega, by go_num, IV⟩, by simp [intOf]; omega⟩
                        exact AllReadyH.nil
                      exact AllReadyH.nil
                    exact AllReadyH.nil
                  exact AllReadyH.nil
                exact AllReadyH.nil
              exact AllReadyH.nil
            · have hjj : ¬ (j : Int) < (m : Int) := by omega
              obtain rfl : j = m := by omega
              have e0 := fcell0 (unhide HC) 0 _ rfl
              have e1 := fcell0 (unhide HC) 1 _ rfl
              have e2 := fcell0 (unhide HC) 2 _ rfl
              have XD := hide (later_block (unhide FB _ (unhide FW)) (unhide X2))
              have z0 := fcell0 (unhide XD) 0 _ rfl
              have z1 := fcell0 (unhide XD) 1 _ rfl
              have z2 := fcell0 (unhide XD) 2 _ rfl
              have f0 : wr.frozen? ⟨w.heap.size + 1, 0, none⟩ = false := by simp [World.frozen?, unhide XD]
              have f1 : wr.frozen? ⟨w.heap.size + 1, 1, none⟩ = false := by simp [World.frozen?, unhide XD]
              have f2 : wr.frozen? ⟨w.heap.size + 1, 2, none⟩ = false := by simp [World.frozen?, unhide XD]
              obtain ⟨a1, a2⟩ := set3 (x := .int .i64 ver) (y := .slice (some ⟨g3, 0, none⟩) n c3) (z := .slice sp j c) (unhide XD)
              have A1 := hide a1
              have A2 := hide a2
              clear a1 a2
              go_wp2
              generalize (((wr.setCell ⟨w.heap.size + 1, 0, none⟩ (.int .i64 ver)).setCell ⟨w.heap.size + 1, 1, none⟩ (.slice (some ⟨g3, 0, none⟩) n c3)).setCell ⟨w.heap.size + 1, 2, none⟩ (.slice sp j c)) = W9 at *
              clear z0 z1 z2 f0 f1 f2 e0 e1 e2
              have g0 := fcell0 (unhide A1) 0 _ rfl
              have g1 := fcell0 (unhide A1) 1 _ rfl
              have g2 := fcell0 (unhide A1) 2 _ rfl
              have CF := hide (show CfAt W9 ⟨ver, rs, ps⟩ ⟨some ⟨g3, 0, none⟩, c3, sp, c⟩ ∧ Below w.heap.size w W9 ∧ OwnW w.heap.size W9 sp c l ∧ l.map Pw.po = ps by
                have hpo : List.map Pw.po l = ps := by rw [unhide LP, ← unhide HM, List.take_length]
                have hlow : V.heap.size ≤ wr.heap.size := (unhide FW).size
                have hZ := unhide Z2
                have hF2 := (unhide FB _ (unhide FW)).size
                have hO := (unhide OW).same (w' := W9) (fun g h1 h2 => (unhide A2).block g h2 (fun e => by have := Option.some.inj e; have := unhide LC; have := unhide CV; omega))
                obtain ⟨hpos, hpc⟩ := hO.at_ (fun x hx => by
                  have hx2 : x.po ∈ ps := by rw [← hpo]; exact List.mem_map_of_mem hx
                  obtain ⟨i, hi, e⟩ := List.getElem_of_mem hx2
                  obtain ⟨_, _, ta, tc, _, _, _, hT, hl, _⟩ := (unhide P1).cell i hi
                  rw [e] at hT hl
                  exact ⟨hT.lt, hl.1⟩)
                rw [hpo] at hpos
                obtain ⟨hrt, hrc⟩ := unhide RT wr (unhide FW)
                have hrt9 : RtsAt W9 (some ⟨g3, 0, none⟩) rs := ⟨hrt.sz, fun i hi => by
                  obtain ⟨b, off, e, r0, r1, r2⟩ := hrt.cell i hi
                  have hb : b = g3 := by cases e; rfl
                  have hlt : g3 < wr.heap.size := by have := unhide G3; omega
                  have hk : W9.heap[g3]? = wr.heap[g3]? := (unhide A2).block _ hlt (fun e => by have := Option.some.inj e; have := unhide GL; omega)
                  subst hb
                  exact ⟨b, off, e, (World.cell?_of_block hk).trans r0, (World.cell?_of_block hk).trans r1, (World.cell?_of_block hk).trans r2⟩⟩
                have hlm := unhide LJ
                refine ⟨⟨unhide WV, hrt9, hpos, ⟨by have := unhide HN; simp only [maxLen]; omega, by have := unhide HN; simp only; omega⟩, ⟨by have := unhide HM; simp only [maxLen]; omega, by have := unhide HM; simp only; omega⟩, fun h => by cases h⟩, ?_, hO.low (by have := (unhide B2).size; have := (unhide FB _ (grown_refl V _)).size; omega), hpo⟩
                exact ((unhide B2).trans ((unhide FB _ (unhide FW)).mono (unhide B2).size)).grown (unhide A2) (by have := (unhide B2).size; omega) (fun g e => by have := Option.some.inj e; omega))
              refine bodyPost_ret (v := .agg #[.int .i64 ver, .slice (some ⟨g3, 0, none⟩) n c3, .slice sp j c]) (by simp [results, Tryz.results68, go_sem, g0, g1, g2]) rfl ⟨⟨some ⟨g3, 0, none⟩, c3, sp, c⟩, rfl, (unhide CF).1, (unhide CF).2.1, l, (unhide CF).2.2.1, (unhide CF).2.2.2⟩
        exact AllReadyH.nil
      exact AllReadyH.nil
    exact AllReadyH.nil
  exact AllReadyH.nil
theorem copyO_calls {w : World} {e : Cf} {h : CfH} (hc : CfAt w e h) (hs : shortC e = true) : Calls Tryz.prog 68 #[cfVal e h] w fun r w' => ∃ h', r = .returned (cfVal e h') ∧ CfAt w' e h' ∧ Below w.heap.size w w' ∧ ∃ l, OwnW w.heap.size w' h'.pa h'.pc l ∧ l.map Pw.po = e.ps := copyG_calls hc (short_small hs)
theorem copyC_calls {w : World} {e : Cf} {h : CfH} (hc : CfAt w e h) (hs : shortC e = true) : Calls Tryz.prog 68 #[cfVal e h] w fun r w' => ∃ h', r = .returned (cfVal e h') ∧ CfAt w' e h' ∧ Below w.heap.size w w' := by
  refine (copyO_calls hc hs).mono ?_
  rintro r w' ⟨h', h1, h2, h3, _⟩
  exact ⟨h', h1, h2, h3⟩
end Go.Proofs.YtjcjleaicjhpeaaGreatDoor
