/- Logs: the walk of WalLasts. -/
import Derived.Test.YtijcpmbfhfppmaaGreatDoorB26
import Derived.Test.YtijcpmbfhfppmaaGreatDoorB32
import Derived.Deep.CutBlock
import Derived.Deep.CutRange
import Derived.Deep.DeepCutAuto
namespace Go.Proofs.YtijcpmbfhfppmaaGreatDoor.walLasts
open Go.ChangeShapes Go.WideShapes Go.ChangeAt Go.RowKit
set_option linter.unusedVariables false

set_option maxRecDepth 20000 in
set_option maxHeartbeats 16000000 in
theorem walk0 (a0 : Option Addr) (c0 : Nat) (l0 : List Wd) (a1 : Option Addr) (c1 : Nat) (l1 : List Int) (w : World) (hx0 : l0.length ≤ maxLen) (hb0 : WdsAt w a0 l0) (hx1 : l1.length ≤ maxLen) (hb1 : IntsAt w a1 l1) (hTz : Tz w) :
    Calls Tryz.prog 5 #[.slice a0 l0.length c0, .slice a1 l1.length c1] w fun e w' => e = .returned (.bool true) ∧ Below w.heap.size w w' := by
  have TZ := hide hTz
  have HB0 := hide hb0
  have HB1 := hide hb1
  simp only [maxLen] at hx0 hx1
  have NC := hide (anew_calls w 20000)
  rw [show ((20000 : Int).toNat) = 20000 from rfl] at NC
  generalize hq0 : l0.length = m0 at *
  generalize hq1 : l1.length = m1 at *
  have Q0 := hide hq0
  have Q1 := hide hq1
  clear hTz hb0 hb1 hq0 hq1
  go_enter Tryz.func5, Tryz.ntmps5
  go_wp2_with fail
  go_at_call 24
  refine (unhide NC).mono ?_
  rintro e V1 ⟨d, M, rfl, h1, v1⟩
  have TT := hide (show ∃ w0 : World, w0.heap.size = w.heap.size ∧ Tz w0 ∧ Below w.heap.size w0 V1 from ⟨w, rfl, unhide TZ, v1⟩)
  have OC := hide (open_calls h1 (unhide TT) (by omega))
  rw [(LS.begin (show 22 ≤ 20000 by omega)).1] at OC
  have A1 := hide v1
  clear h1 v1 NC
  go_wp2_with fail
  go_at_call 25
  refine (unhide OC).mono ?_
  rintro e V2 ⟨a2, L, ep, ec, hs, rfl, z2, _⟩
  have B2 := hide ((unhide A1).trans a2.bel)
  have Z2 := hide z2
  clear a2 z2 OC TT A1
  by_cases h50 : 50 < m1
  · have y50 : (50 : Int) < (m1 : Int) := by omega
    go_wp2_with fail
    go_at_call 18
    refine (live6_calls _ ((unhide TZ).later (unhide B2))).mono ?_
    rintro e V3 ⟨rfl, v3⟩
    have B3 := hide ((unhide B2).trans (v3.mono (unhide B2).size))
    clear v3
    go_wp2
    go_ret
    exact ⟨rfl, unhide B3⟩
  · have y50 : ¬ (50 : Int) < (m1 : Int) := by omega
    have SC := hide (state_calls (unhide Z2) Ix.nil)
    go_wp2_with fail
    go_at_call 26
    refine (unhide SC).mono ?_
    rintro e V3 ⟨p3, q3, h3, rfl, o3, v3⟩
    unfold stRow
    have U3 := hide ((Below.refl V3.heap.size V3).alloc (Nat.le_refl _) (.cells #[.int .i64 (wc0.bi : Int), .int .i64 (wc0.bt : Int), .int .i64 (wc0.ht : Int), .int .i64 (wc0.hv : Int), .slice p3 wc0.es.length q3] 53))
    have X3 := hide (heap_new V3 (.cells #[.int .i64 (wc0.bi : Int), .int .i64 (wc0.bt : Int), .int .i64 (wc0.ht : Int), .int .i64 (wc0.hv : Int), .slice p3 wc0.es.length q3] 53))
    have I3 := hide (show ∀ W, Below V3.heap.size V3 W → W.heap[V3.heap.size]? = some (.cells (stRow wc0 p3 q3) 53 (0, 0)) → La w.heap.size w W L d M wc0 [wc0] (some ⟨V3.heap.size, 0, none⟩) 1 2 from fun W u hW => by
      have u2 := v3.trans (u.mono v3.size)
      have hz := (unhide Z2).dk.le
      have hlt := (Array.getElem?_eq_some_iff.1 hW).1
      refine ⟨_, _, _, _, _, _, _, _, _, [(p3, q3, h3)], (unhide Z2).more u2, (LS.begin (by omega)).2, OwnSt.one hW (by have := v3.size; omega) ((o3.later u).mono hz), fun g hg => ?_, Seen.fresh (LS.begin (room := 20000) (by omega)).2.cont, ⟨[], rfl⟩, by omega, (unhide B2).trans (u2.mono hz)⟩
      rcases hg with hg | ⟨x, hx, hg⟩
      · cases hg
        exact .inr ⟨v3.size, hlt⟩
      · rw [List.mem_singleton.1 hx] at hg
        have := (o3.later u).foot g hg
        exact .inr ⟨this.1, this.2.1⟩)
    clear o3 v3 SC
    go_upto_block 0 with fail
    have I4 := hide (unhide I3 _ (unhide U3) (unhide X3))
    generalize V3.alloc _ = W3 at *
    clear I3 U3 X3 Z2
    generalize (some (⟨V3.heap.size, 0, none⟩ : Addr)) = sp4 at *
    go_cut [8, 9, 10, 11, 12] (fun v8 v9 _ _ _ wc => ∃ (i : Nat) (c : Wc) (S : List Wc) (sp : Option Addr) (k ms : Nat), i ≤ m0 ∧ i ≤ 60 ∧ v9 = .int .i64 (i : Int) ∧ v8 = .slice sp ms k ∧ Hid (S.length = ms) ∧ ms ≤ 1 + 302 * i ∧ Hid (La w.heap.size w wc L d M c S sp k (2 + 700 * i)))
    case first =>
      go_wp2_with fail
      go_loopw [8, 9, 10, 11, 12] (fun v8 v9 _ _ _ wr => ∃ (i : Nat) (c : Wc) (S : List Wc) (sp : Option Addr) (k ms : Nat), i ≤ m0 ∧ i ≤ 60 ∧ v9 = .int .i64 (i : Int) ∧ v8 = .slice sp ms k ∧ Hid (S.length = ms) ∧ ms ≤ 1 + 302 * i ∧ Hid (La w.heap.size w wr L d M c S sp k (2 + 700 * i))) (fun _ v9 _ _ _ _ => 60 - (intOf v9).toNat)
      case atStart => exact ⟨0, wc0, [wc0], sp4, 1, 1, by omega, by omega, rfl, rfl, hide rfl, by omega, I4⟩
      case round =>
        obtain ⟨i, c, S, sp, k, ms, hi, hi6, rfl, rfl, HM, hms, I5⟩ := hrel
        by_cases hi1 : i < m0
        · have y1 : (i : Int) < (m0 : Int) := by omega
          by_cases hi2 : i < 60
          · have y0 : (0 : Int) ≤ (i : Int) := by omega
            have y2 : (i : Int) < 60 := by omega
            have hil : i < l0.length := by rw [unhide Q0]; exact hi1
            have BB := hide (show Below w.heap.size w wr by obtain ⟨_, _, _, _, _, _, _, _, _, _, _, _, _, _, _, _, _, hb⟩ := unhide I5; exact hb)
            obtain ⟨b, off, h, rfl, ⟨q0, q1, q2, q3, q4, q5, q6⟩, hA⟩ := (unhide HB0).cell i hil
            have p0 := cell_later (unhide BB) q0
            have p1 := cell_later (unhide BB) q1
            have p2 := cell_later (unhide BB) q2
            have p3 := cell_later (unhide BB) q3
            have p4 := cell_later (unhide BB) q4
            have p5 := cell_later (unhide BB) q5
            have p6 := cell_later (unhide BB) q6
            clear q0 q1 q2 q3 q4 q5 q6
            generalize l0[i] = x at *
            obtain ⟨kd, es, ht, hv, mi, mt, kp⟩ := x
            dsimp only at p0 p1 p2 p3 p4 p5 p6
            have HA := hide hA
            have U1 := hide ((Below.refl wr.heap.size wr).alloc (Nat.le_refl _) (.cells #[.int .i64 kd, .slice h.ep es.length h.ec, .int .i64 ht, .int .i64 hv, .int .i64 mi, .int .i64 mt, .slice h.kp kp.length h.kc] 34))
            have X1 := hide (heap_new wr (.cells #[.int .i64 kd, .slice h.ep es.length h.ec, .int .i64 ht, .int .i64 hv, .int .i64 mi, .int .i64 mt, .slice h.kp kp.length h.kc] 34))
            clear hA
            go_upto_block 2 with fail
            clear p0 p1 p2 p3 p4 p5 p6
            generalize wr.alloc _ = W1 at *
            have B1 := hide ((unhide BB).trans ((unhide U1).mono (unhide BB).size))
            have LX := hide (show wr.heap.size < W1.heap.size from (Array.getElem?_eq_some_iff.1 (unhide X1)).1)
            have SH := hide (short6_calls ⟨kd, es, ht, hv, mi, mt, kp⟩ h W1 ((unhide HA).later (unhide B1)))
            unfold wdRow at SH
            dsimp only at SH
            go_cut [8, 11, 12] from 41 to 136 (fun v8 v11 _ wc => ∃ (sure : Bool) (c : Wc) (S : List Wc) (sp : Option Addr) (k ms : Nat), v8 = .slice sp ms k ∧ v11 = .bool sure ∧ Hid (S.length = ms) ∧ ms ≤ 1 + 302 * i + 300 ∧ Hid (Lb w.heap.size w wc L d M c S sp k sure (2 + 700 * i + 602)))
            case first =>
              obtain ⟨Av0, N, ss, n, r1, r2, ep5, ec5, hs5, hS, z5, ls5, os5, hf5, se5, ⟨S', hS'⟩, N5, bb5⟩ := unhide I5
              have z6 := z5.more (unhide U1)
              obtain ⟨Av, hAv⟩ : ∃ P : Nat → Prop, P = (fun g => Av0 g ∨ (wr.heap.size ≤ g ∧ g < W1.heap.size)) := ⟨_, rfl⟩
              rw [← hAv] at z6
              have Z6 := hide z6
              have LS6 := hide ls5
              have O6 := hide (os5.later (unhide U1))
              have HF := hide (show ∀ g, SFoot sp hS g → Av g from fun g hg => by rw [hAv]; exact .inl (hf5 g hg))
              have HBX := hide (show Av wr.heap.size by rw [hAv]; exact .inr ⟨Nat.le_refl _, unhide LX⟩)
              have SE := hide se5
              have LST := hide hS'
              clear z5 ls5 os5 hf5 se5 hS' bb5 z6 hAv I5
              have x0 : W1.cell? ⟨wr.heap.size, 0, none⟩ = some (.int .i64 kd) := box_cell (unhide X1) 0 _ rfl
              have x1 : W1.cell? ⟨wr.heap.size, 1, none⟩ = some (.slice h.ep es.length h.ec) := box_cell (unhide X1) 1 _ rfl
              have x2 : W1.cell? ⟨wr.heap.size, 2, none⟩ = some (.int .i64 ht) := box_cell (unhide X1) 2 _ rfl
              have x3 : W1.cell? ⟨wr.heap.size, 3, none⟩ = some (.int .i64 hv) := box_cell (unhide X1) 3 _ rfl
              have x4 : W1.cell? ⟨wr.heap.size, 4, none⟩ = some (.int .i64 mi) := box_cell (unhide X1) 4 _ rfl
              have x5 : W1.cell? ⟨wr.heap.size, 5, none⟩ = some (.int .i64 mt) := box_cell (unhide X1) 5 _ rfl
              have x6 : W1.cell? ⟨wr.heap.size, 6, none⟩ = some (.slice h.kp kp.length h.kc) := box_cell (unhide X1) 6 _ rfl
              go_wp2_with fail
              clear x0 x1 x2 x3 x4 x5 x6
              go_at_call 15
              refine (unhide SH).mono ?_
              rintro e V4 ⟨b4, rfl, hb4, v4⟩
              have Z7 := hide ((unhide Z6).later v4)
              have O7 := hide ((unhide O6).later v4)
              have B7 := hide ((unhide B1).trans (v4.mono (unhide B1).size))
              have X7 := hide (later_block v4 (unhide X1))
              have H4 := hide hb4
              clear hb4 v4 SH
              cases b4 with
              | false =>
                have FF := hide (show Lb w.heap.size w V4 L d M c S sp k false (2 + 700 * i + 602) from ⟨_, _, _, _, _, _, _, _, _, _, unhide Z7, unhide LS6, unhide O7, unhide HF, (fun h => by cases h), fun _ => (unhide SE).more c, by omega, unhide B7⟩)
                go_wp2_with fail
                go_meet
                case rel => exact ⟨false, c, S, sp, k, ms, rfl, rfl, HM, by omega, FF⟩
              | true =>
                have h6 := (unhide H4 rfl).1
                dsimp only at h6
                have x0 : V4.cell? ⟨wr.heap.size, 0, none⟩ = some (.int .i64 kd) := box_cell (unhide X7) 0 _ rfl
                have x1 : V4.cell? ⟨wr.heap.size, 1, none⟩ = some (.slice h.ep es.length h.ec) := box_cell (unhide X7) 1 _ rfl
                have x2 : V4.cell? ⟨wr.heap.size, 2, none⟩ = some (.int .i64 ht) := box_cell (unhide X7) 2 _ rfl
                have x3 : V4.cell? ⟨wr.heap.size, 3, none⟩ = some (.int .i64 hv) := box_cell (unhide X7) 3 _ rfl
                have x4 : V4.cell? ⟨wr.heap.size, 4, none⟩ = some (.int .i64 mi) := box_cell (unhide X7) 4 _ rfl
                have x5 : V4.cell? ⟨wr.heap.size, 5, none⟩ = some (.int .i64 mt) := box_cell (unhide X7) 5 _ rfl
                by_cases k0 : kd = 0
                · subst k0
                  have E0 := hide (unhide HA).en
                  have EIN := hide (show EntsIn (fun g => g < w.heap.size) w h.ep es from EntsIn.ofLt (unhide HA).en)
                  have I8 := hide (show Lc w.heap.size w V4 L d M c S sp k (2 + 700 * i + 2 * 0) wr.heap.size from ⟨_, _, _, _, _, _, _, _, _, _, unhide Z7, unhide LS6, unhide O7, unhide HF, unhide SE, ⟨S', unhide LST⟩, by omega, unhide B7, unhide HBX⟩)
                  have hes : es.length ≤ 300 := by have := sumN_len es; omega
                  clear x2 x3 x4 x5
                  go_wp2_with fail
                  clear x0 x1 U1 BB X1 LX
                  generalize wr.heap.size = DB at *
                  go_loopw [8, 12] (fun v8 v12 wz => ∃ (y : Nat) (c : Wc) (S : List Wc) (sp : Option Addr) (k ms : Nat), y ≤ es.length ∧ v12 = .int .i64 (y : Int) ∧ v8 = .slice sp ms k ∧ Hid (S.length = ms) ∧ ms ≤ 1 + 302 * i + y ∧ Hid (Lc w.heap.size w wz L d M c S sp k (2 + 700 * i + 2 * y) DB) ∧ Hid (wz.heap[DB]? = some (.cells #[.int .i64 0, .slice h.ep es.length h.ec, .int .i64 ht, .int .i64 hv, .int .i64 mi, .int .i64 mt, .slice h.kp kp.length h.kc] 34 (0, 0)))) (fun _ v12 _ => es.length - (intOf v12).toNat)
                  case atStart => exact ⟨0, c, S, sp, k, ms, by omega, rfl, rfl, HM, by omega, I8, X7⟩
                  case round =>
                    clear I8 X7 HM O7 Z7 LS6 SE LST HF B7
                    obtain ⟨y, c, S, sp, k, ms, hy, rfl, rfl, HM, hms2, I8, X8⟩ := hrel
                    have x1 : wr.cell? ⟨DB, 1, none⟩ = some (.slice h.ep es.length h.ec) := box_cell (unhide X8) 1 _ rfl
                    obtain ⟨Av, N, ss, n, r1, r2, ep5, ec5, hs5, hS, z5, ls5, os5, hf5, se5, ⟨S', hS'⟩, N5, bb5, hB5⟩ := unhide I8
                    by_cases hyl : y < es.length
                    · have z0 : (0 : Int) ≤ (y : Int) := by omega
                      have z1 : (y : Int) < (es.length : Int) := by omega
                      obtain ⟨b', off', dp, dc, hep, q0, q1, q2, q3, q4, q5⟩ := (unhide E0).cell y hyl
                      have hdat := (unhide EIN).dat y hyl b' off' dp dc _ hep q3
                      have p0 := cell_later bb5 q0
                      have p1 := cell_later bb5 q1
                      have p2 := cell_later bb5 q2
                      have p3 := cell_later bb5 q3
                      have p4 := q4.later bb5
                      have hsm := sumN_mem (List.getElem_mem hyl)
                      clear q0 q1 q2 q3 q4
                      generalize es[y] = x at *
                      obtain ⟨xk, xt, xi, xd⟩ := x
                      dsimp only at p0 p1 p2 p3 p4 hdat
                      rw [hep] at x1
                      clear hep
                      have U9 := (Below.refl wr.heap.size wr).alloc (Nat.le_refl _) (.cells #[.int .i64 xk, .int .i64 xt, .int .i64 xi, .slice dp xd.length dc] 60)
                      have X9 := heap_new wr (.cells #[.int .i64 xk, .int .i64 xt, .int .i64 xi, .slice dp xd.length dc] 60)
                      have L9 := (Array.getElem?_eq_some_iff.1 X9).1
                      have hfew := ls5.few
                      have z9 := z5.more U9
                      obtain ⟨Av9, hAv9⟩ : ∃ P : Nat → Prop, P = (fun g => Av g ∨ (wr.heap.size ≤ g ∧ g < (wr.alloc (.cells #[.int .i64 xk, .int .i64 xt, .int .i64 xi, .slice dp xd.length dc] 60)).heap.size)) := ⟨_, rfl⟩
                      rw [← hAv9] at z9
                      have hA9 : ∀ g, Av g → Av9 g := fun g hg => by rw [hAv9]; exact .inl hg
                      have hE9 : Av9 wr.heap.size := by rw [hAv9]; exact .inr ⟨Nat.le_refl _, L9⟩
                      have AC := hide (append_do z9 ls5 (by omega) (by omega) (some ⟨wr.heap.size, 0, none⟩) 1 1 [(xk, xt, xi, xd)] rfl (one_inE X9 (p4.later U9) q5 (.inr hE9) (fun g o e h0 => .inl (hdat g o e h0))) (by omega) (by omega))
                      have O9 := hide (os5.later U9)
                      have HF9 := hide (show ∀ g, SFoot sp hS g → Av9 g from fun g hg => hA9 g (hf5 g hg))
                      have HB9 := hide (hA9 DB hB5)
                      have SE9 := hide se5
                      have B9 := hide (bb5.trans (U9.mono bb5.size))
                      have X10 := hide (later_block U9 (unhide X8))
                      clear z5 ls5 os5 hf5 se5 bb5 hB5 hA9 hE9 hAv9 z9 U9 X9 L9 I8 X8 hdat p4 hsm hfew hS'
                      go_wp2_with fail
                      clear p0 p1 p2 p3 x1
                      generalize wr.alloc _ = W9 at *
                      go_at_call 27
                      refine (unhide AC).mono ?_
                      rintro e V5 ⟨r, ss5, c5, ep5, ec5, hs5, rs, rfl, z5, ls5, _, hrs, _, a5⟩
                      have SC := hide (state_calls z5 ls5.ix)
                      have OS := hide ((unhide O9).asd a5 (unhide HF9))
                      have X11 := hide ((a5.av DB (unhide HB9)).trans (unhide X10))
                      have BS := hide z5.dk.le
                      have PU := hide (fun (W3 w' : World) (p : Option Addr) (q : Nat) (hx : List (Option Addr × Nat)) (sp' : Option Addr) (k' : Nat) (u : Below V5.heap.size V5 W3) (hx1 : ∀ g, LFoot p hx g → V5.heap.size ≤ g) (ho : OwnSt w.heap.size w' sp' k' (S ++ [c5]) (hS ++ [(p, q, hx)])) (hg : W3.grownBy w' (blk sp)) (hl : ∀ g, blk sp' = some g → blk sp = some g ∨ W3.heap.size ≤ g) => Lc.push (w0 := w) (xN := 2 + 700 * i + 2 * (y + 1)) z5 ls5 (unhide OS) (unhide HF9) ((unhide SE9).add hrs ls5.cont) ((unhide B9).trans a5.bel) u hx1 ho hg hl (by omega) (unhide HB9))
                      have NB := hide (show ∀ g, blk sp = some g → g ≠ DB from fun g hg e => by
                        obtain ⟨_, _, cur, hc⟩ := (unhide OS).rowT g hg
                        rw [e, unhide X11] at hc
                        injection Option.some.inj hc with _ h3
                        exact absurd h3 (by decide))
                      clear z5 ls5 a5 AC hrs
                      go_wp2_with fail
                      go_at_call 26
                      refine (unhide SC).mono ?_
                      rintro e V6 ⟨p5, q5, h5, rfl, o5, v5⟩
                      unfold stRow
                      have U5 := hide ((Below.refl V6.heap.size V6).alloc (Nat.le_refl _) (.cells #[.int .i64 (c5.bi : Int), .int .i64 (c5.bt : Int), .int .i64 (c5.ht : Int), .int .i64 (c5.hv : Int), .slice p5 c5.es.length q5] 53))
                      have X5 := hide (heap_new V6 (.cells #[.int .i64 (c5.bi : Int), .int .i64 (c5.bt : Int), .int .i64 (c5.ht : Int), .int .i64 (c5.hv : Int), .slice p5 c5.es.length q5] 53))
                      have V5B := hide v5
                      have O5 := hide ((o5.later (unhide U5)).mono (unhide BS))
                      have F5 := hide (show ∀ g, LFoot p5 h5 g → V5.heap.size ≤ g from fun g hg => (o5.foot g hg).1)
                      have X12 := hide (later_block ((unhide V5B).trans ((unhide U5).mono (unhide V5B).size)) (unhide X11))
                      clear o5 v5 SC
                      go_wp2_with (at_builtin; refine unhide ?_)
                      generalize V6.alloc _ = W5 at *
                      refine hide ?_
                      refine wpList_appendSt rfl (.tmp 78) (.tmp 81) rfl w.heap.size sp ms k S hS rfl (unhide HM) ((unhide OS).later ((unhide V5B).trans ((unhide U5).mono (unhide V5B).size))) V6.heap.size c5 (p5, q5, h5) rfl (by exact unhide X5) (unhide O5) (by rw [unhide HM]; omega) (Nat.le_trans (unhide BS) (Nat.le_trans (unhide V5B).size (unhide U5).size)) ?_
                      intro sp9 k9 w9 ho9 hg9 hl9
                      have I9 := hide (unhide PU W5 w9 p5 q5 h5 sp9 k9 ((unhide V5B).trans ((unhide U5).mono (unhide V5B).size)) (unhide F5) ho9 hg9 hl9)
                      have HM9 := hide (show (S ++ [c5]).length = ms + 1 by rw [List.length_append, unhide HM]; rfl)
                      have X13 := hide ((hg9.block DB (Array.getElem?_eq_some_iff.1 (unhide X12)).1 (fun e => unhide NB DB e.symm rfl)).trans (unhide X12))
                      clear ho9 hg9 hl9 PU
                      go_wp2
                      exact ⟨⟨y + 1, c5, _, sp9, k9, ms + 1, by omega, by go_num, rfl, HM9, by omega, I9, X13⟩, by simp [intOf]; omega⟩
                    · have z1 : ¬ (y : Int) < (es.length : Int) := by omega
                      have FF := hide (show Lb w.heap.size w wr L d M c S sp k false (2 + 700 * i + 602) from ⟨_, _, _, _, _, _, _, _, _, _, z5, ls5, os5, hf5, (fun h => by cases h), fun _ => se5.more c, by omega, bb5⟩)
                      clear z5 ls5 os5 hf5 se5 bb5 hB5
                      go_wp2_with fail
                      go_meet
                      case rel => exact ⟨false, c, S, sp, k, ms, rfl, rfl, HM, by omega, FF⟩
                · have k0' : (kd == 0) = false := by simp [k0]
                  by_cases k1 : kd = 1
                  · subst k1
                    have AC := hide (hard_do (unhide Z7) (unhide LS6) (by omega) (by omega) ht hv)
                    go_wp2_with fail
                    go_at_call 28
                    refine (unhide AC).mono ?_
                    rintro e V5 ⟨r, ss5, c5, ep5, ec5, hs5, rs, rfl, z5, ls5, _, hrs, _, a5⟩
                    have FF := hide (show Lb w.heap.size w V5 L d M c5 S sp k false (2 + 700 * i + 602) from ⟨_, _, _, _, _, _, _, _, _, _, z5, ls5, (unhide O7).asd a5 (unhide HF), unhide HF, (fun h => by cases h), fun _ => (unhide SE).add hrs ls5.cont, by omega, (unhide B7).trans a5.bel⟩)
                    clear z5 ls5 a5
                    go_wp2_with fail
                    go_meet
                    case rel => exact ⟨false, c5, S, sp, k, ms, rfl, rfl, HM, by omega, FF⟩
                  · have k1' : (kd == 1) = false := by simp [k1]
                    by_cases k2 : kd = 2
                    · subst k2
                      have AC := hide (sync_do (unhide Z7) (unhide LS6))
                      go_wp2_with fail
                      go_at_call 29
                      refine (unhide AC).mono ?_
                      rintro e V5 ⟨ss5, ep5, ec5, hs5, rfl, z5, ls5, a5⟩
                      have FF := hide (show Lb w.heap.size w V5 L d M c S sp k true (2 + 700 * i + 602) from ⟨_, _, _, _, _, _, _, _, _, _, z5, ls5, (unhide O7).asd a5 (unhide HF), unhide HF, fun _ => rfl, fun h => (by cases h), by omega, (unhide B7).trans a5.bel⟩)
                      clear z5 ls5 a5
                      go_wp2_with fail
                      go_meet
                      case rel => exact ⟨true, c, S, sp, k, ms, rfl, rfl, HM, by omega, FF⟩
                    · have k2' : (kd == 2) = false := by simp [k2]
                      by_cases k3 : kd = 3
                      · subst k3
                        have hms1 : 1 ≤ ms := by
                          rw [← unhide HM, unhide LST, List.length_append]
                          simp
                        obtain ⟨z, hz⟩ : ∃ z, ms = z + 1 := ⟨ms - 1, by omega⟩
                        have hzl : z < S.length := by rw [unhide HM]; omega
                        obtain ⟨g, pz, qz, hxz, hsp, c0z, cz1, cz2, cz3, cz4, oz⟩ := (unhide O7).at_ z hzl
                        have hlast : S[z] = c := by
                          have hl : z = S'.length := by
                            have h1 := unhide HM
                            rw [unhide LST, List.length_append] at h1
                            simp only [List.length_singleton] at h1
                            omega
                          have h2 : S[z]? = some c := by
                            rw [unhide LST, hl]
                            simp
                          rw [List.getElem?_eq_getElem hzl] at h2
                          exact Option.some.inj h2
                        rw [hlast] at c0z
                        subst hsp
                        have hwm : IntKind.i64.wrap ((ms : Int) - 1) = (z : Int) := by
                          rw [IntKind.wrap_i64]
                          omega
                        have w0 : (0 : Int) ≤ (z : Int) := by omega
                        have w1 : (z : Int) < (ms : Int) := by omega
                        have d0 : V4.drew.cell? ⟨wr.heap.size, 4, none⟩ = some (.int .i64 mi) := x4
                        have d1 : V4.drew.cell? ⟨g, z * 5, none⟩ = some (.int .i64 (c.bi : Int)) := c0z
                        have CC := hide (compact_calls ((unhide Z7).later ((Below.refl _ _).drew)) (show N + 1 ≤ 1000000 by omega) (unhide LS6).ix mi (unhide HA).wi)
                        have OD := hide ((unhide O7).later ((Below.refl _ _).drew))
                        have BD := hide (show Below w.heap.size w V4.drew from (unhide B7).trans ((Below.refl _ _).drew))
                        clear cz1 cz2 cz3 cz4 oz hlast hz hzl c0z x1 x2 x3 x5
                        generalize wr.heap.size = DB at *
                        rcases compact_plain (unhide Z7).ok (unhide LS6) mi with ⟨ss5, c5, n5, r5, hw, hlt, ls5⟩ | ⟨r, hr, hw⟩ | ⟨hw, hlt⟩
                        · rw [hw] at CC
                          have LBX := hide (show ∀ V, (∃ ep ec hs, WAt Av w.heap.size V L d M 20000 (N + 1) ss5 c5 n5 ep ec hs) → Asd Av w.heap.size V4.drew V → Lb w.heap.size w V L d M c5 S (some ⟨g, 0, none⟩) k true (2 + 700 * i + 602) from fun V hz ha => by
                            obtain ⟨_, _, _, z5⟩ := hz
                            exact ⟨_, _, _, _, _, _, _, _, _, _, z5, ls5, (unhide OD).asd ha (unhide HF), unhide HF, fun _ => rfl, fun h => (by cases h), by omega, (unhide BD).trans ha.bel⟩)
                          have hgt : decide ((c.bi : Int) < mi) = true := by simp [hlt]
                          clear hw ls5
                          go_wp2_with fail
                          refine wp_region_held_drew (S := fun w' => w'.cell? ⟨DB, 4, none⟩ = some (.int .i64 mi) ∧ w'.cell? ⟨g, z * 5, none⟩ = some (.int .i64 (c.bi : Int))) (by kernel_rfl) ?_ (fun hHeld => ?_)
                          · try dsimp only
                            first | exact ⟨d0, d1⟩ | exact ⟨e0, e1⟩
                          refine held_take 0 (oi := { dst := some 102, op := Op.move (Operand.tmp 6), type := 39, pos := "law.go:174", after := #[], guard := none }) (v := ?_) (by kernel_rfl) rfl (by rfl) (by kernel_rfl) (by kernel_rfl) (fun _ _ _ h => h) ?_ (by assumption) ?_
                          rotate_left
                          · (intro w hSw; (try dsimp only at hSw); go_simp; try with_reducible rfl)
                          try simp only [Act.put, List.setIfInBounds_toArray, List.set_cons_zero, List.set_cons_succ]
                          refine held_take 1 (oi := { dst := some 103, op := Op.fieldAddr 34 (Operand.tmp 10) 3, type := 0, pos := "law.go:174", after := #[], guard := none }) (v := ?_) (by kernel_rfl) rfl (by rfl) (by kernel_rfl) (by kernel_rfl) (fun _ _ _ h => h) ?_ (by assumption) ?_
                          rotate_left
                          · (intro w hSw; (try dsimp only at hSw); go_simp; try with_reducible rfl)
                          try simp only [Act.put, List.setIfInBounds_toArray, List.set_cons_zero, List.set_cons_succ]
                          refine held_take 2 (oi := { dst := some 104, op := Op.fieldAddr 31 (Operand.tmp 103) 0, type := 0, pos := "law.go:174", after := #[{ on := 1, ground := Ground.data }], guard := none }) (v := ?_) (by kernel_rfl) rfl (by rfl) (by kernel_rfl) (by kernel_rfl) (fun _ _ _ h => h) ?_ (by assumption) ?_
                          rotate_left
                          · (intro w hSw; (try dsimp only at hSw); go_simp; try with_reducible rfl)
                          try simp only [Act.put, List.setIfInBounds_toArray, List.set_cons_zero, List.set_cons_succ]
                          refine held_take 3 (oi := { dst := some 105, op := Op.load 3 (Operand.tmp 104), type := 3, pos := "law.go:174", after := #[{ on := 2, ground := Ground.data }], guard := none }) (v := ?_) (by kernel_rfl) rfl (by rfl) (by kernel_rfl) (by kernel_rfl) (fun _ _ _ h => h) ?_ (by assumption) ?_
                          rotate_left
                          · (intro w hSw; (try dsimp only at hSw); go_simp; try with_reducible rfl)
                          try simp only [Act.put, List.setIfInBounds_toArray, List.set_cons_zero, List.set_cons_succ]
                          refine held_one 4 (oi := { dst := some 106, op := Op.call { callee := Callee.value (Operand.func 30), args := #[Operand.tmp 102, Operand.tmp 105], argTypes := #[39, 3] }, type := 49, pos := "law.go:174", after := #[{ on := 0, ground := Ground.data }, { on := 3, ground := Ground.data }], guard := none }) (by kernel_rfl) rfl (fun K hK => ?_)
                          go_simp
                          first
                              | (go_at_call 30
                                 refine (unhide CC).mono ?_
                                 rintro e V5 ⟨rfl, ⟨ep5, ec5, hs5, z5⟩, a5⟩
                                 have e0 := (World.cell?_of_block (a := ⟨DB, 4, none⟩) (a5.av DB (unhide HBX))).trans d0
                                 have e1 := (World.cell?_of_block (a := ⟨g, z * 5, none⟩) (a5.av g (unhide HF g (.inl rfl)))).trans d1
                                 have FF := hide (unhide LBX V5 ⟨ep5, ec5, hs5, z5⟩ a5)
                                 clear z5 a5)
                          go_wp2_with fail
                          refine hK.out _ _ ?_ (fun hHeld => ?_)
                          · try dsimp only
                            first | exact ⟨d0, d1⟩ | exact ⟨e0, e1⟩
                          clear hK K
                          try simp only [Act.put, List.setIfInBounds_toArray, List.set_cons_zero, List.set_cons_succ]
                          refine held_take 5 (oi := { dst := some 107, op := Op.binOp BinOp.eql 49 (Operand.tmp 106) (Operand.const (Value.int IntKind.i64 0)) 49, type := 4, pos := "law.go:174", after := #[{ on := 4, ground := Ground.data }], guard := none }) (v := ?_) (by kernel_rfl) rfl (by rfl) (by kernel_rfl) (by kernel_rfl) (fun _ _ _ h => h) ?_ (by assumption) ?_
                          rotate_left
                          · (intro w hSw; (try dsimp only at hSw); go_simp; try with_reducible rfl)
                          try simp only [Act.put, List.setIfInBounds_toArray, List.set_cons_zero, List.set_cons_succ]
                          refine held_take 6 (oi := { dst := some 108, op := Op.move (Operand.tmp 107), type := 4, pos := "law.go:174", after := #[{ on := 5, ground := Ground.data }, { on := 4, ground := Ground.chain }], guard := none }) (v := ?_) (by kernel_rfl) rfl (by rfl) (by kernel_rfl) (by kernel_rfl) (fun _ _ _ h => h) ?_ (by assumption) ?_
                          rotate_left
                          · (intro w hSw; (try dsimp only at hSw); go_simp; try with_reducible rfl)
                          try simp only [Act.put, List.setIfInBounds_toArray, List.set_cons_zero, List.set_cons_succ]
                          refine held_take 7 (oi := { dst := some 109, op := Op.fieldAddr 34 (Operand.tmp 10) 3, type := 0, pos := "law.go:174", after := #[{ on := 6, ground := Ground.guard }], guard := some (6, true) }) (v := ?_) (by kernel_rfl) rfl (by rfl) (by kernel_rfl) (by kernel_rfl) (fun _ _ _ h => h) ?_ (by assumption) ?_
                          rotate_left
                          · (intro w hSw; (try dsimp only at hSw); go_simp; try with_reducible rfl)
                          try simp only [Act.put, List.setIfInBounds_toArray, List.set_cons_zero, List.set_cons_succ]
                          refine held_take 8 (oi := { dst := some 110, op := Op.fieldAddr 31 (Operand.tmp 109) 0, type := 0, pos := "law.go:174", after := #[{ on := 7, ground := Ground.data }, { on := 6, ground := Ground.guard }], guard := some (6, true) }) (v := ?_) (by kernel_rfl) rfl (by rfl) (by kernel_rfl) (by kernel_rfl) (fun _ _ _ h => h) ?_ (by assumption) ?_
                          rotate_left
                          · (intro w hSw; (try dsimp only at hSw); go_simp; try with_reducible rfl)
                          try simp only [Act.put, List.setIfInBounds_toArray, List.set_cons_zero, List.set_cons_succ]
                          refine held_take 9 (oi := { dst := some 111, op := Op.load 3 (Operand.tmp 110), type := 3, pos := "law.go:174", after := #[{ on := 8, ground := Ground.data }, { on := 6, ground := Ground.guard }], guard := some (6, true) }) (v := ?_) (by kernel_rfl) rfl (by rfl) (by kernel_rfl) (by kernel_rfl) (fun _ _ _ h => h) ?_ (by assumption) ?_
                          rotate_left
                          · (intro w hSw; (try dsimp only at hSw); go_simp; try with_reducible rfl)
                          try simp only [Act.put, List.setIfInBounds_toArray, List.set_cons_zero, List.set_cons_succ]
                          refine held_take 10 (oi := { dst := some 112, op := Op.move (Operand.tmp 8), type := 55, pos := "law.go:174", after := #[{ on := 6, ground := Ground.guard }], guard := some (6, true) }) (v := ?_) (by kernel_rfl) rfl (by rfl) (by kernel_rfl) (by kernel_rfl) (fun _ _ _ h => h) ?_ (by assumption) ?_
                          rotate_left
                          · (intro w hSw; (try dsimp only at hSw); go_simp; try with_reducible rfl)
                          try simp only [Act.put, List.setIfInBounds_toArray, List.set_cons_zero, List.set_cons_succ]
                          refine held_take 11 (oi := { dst := some 113, op := Op.move (Operand.tmp 8), type := 55, pos := "law.go:174", after := #[{ on := 6, ground := Ground.guard }], guard := some (6, true) }) (v := ?_) (by kernel_rfl) rfl (by rfl) (by kernel_rfl) (by kernel_rfl) (fun _ _ _ h => h) ?_ (by assumption) ?_
                          rotate_left
                          · (intro w hSw; (try dsimp only at hSw); go_simp; try with_reducible rfl)
                          try simp only [Act.put, List.setIfInBounds_toArray, List.set_cons_zero, List.set_cons_succ]
                          refine held_take 12 (oi := { dst := some 114, op := Op.call { callee := Callee.builtin Builtin.len, args := #[Operand.tmp 113], argTypes := #[55] }, type := 3, pos := "law.go:174", after := #[{ on := 11, ground := Ground.data }, { on := 6, ground := Ground.guard }], guard := some (6, true) }) (v := ?_) (by kernel_rfl) rfl (by rfl) (by kernel_rfl) (by kernel_rfl) (fun _ _ _ h => h) ?_ (by assumption) ?_
                          rotate_left
                          · (intro w hSw; (try dsimp only at hSw); go_simp; try with_reducible rfl)
                          try simp only [Act.put, List.setIfInBounds_toArray, List.set_cons_zero, List.set_cons_succ]
                          refine held_take 13 (oi := { dst := some 115, op := Op.binOp BinOp.sub 3 (Operand.tmp 114) (Operand.const (Value.int IntKind.i64 1)) 3, type := 3, pos := "law.go:174", after := #[{ on := 12, ground := Ground.data }, { on := 6, ground := Ground.guard }], guard := some (6, true) }) (v := ?_) (by kernel_rfl) rfl (by rfl) (by kernel_rfl) (by kernel_rfl) (fun _ _ _ h => h) ?_ (by assumption) ?_
                          rotate_left
                          · (intro w hSw; (try dsimp only at hSw); go_simp; try with_reducible rfl)
                          try simp only [Act.put, List.setIfInBounds_toArray, List.set_cons_zero, List.set_cons_succ]
                          refine held_take 14 (oi := { dst := some 116, op := Op.indexAddr 55 (Operand.tmp 112) (Operand.tmp 115), type := 0, pos := "law.go:174", after := #[{ on := 10, ground := Ground.data }, { on := 13, ground := Ground.data }, { on := 6, ground := Ground.guard }], guard := some (6, true) }) (v := ?_) (by kernel_rfl) rfl (by rfl) (by kernel_rfl) (by kernel_rfl) (fun _ _ _ h => h) ?_ (by assumption) ?_
                          rotate_left
                          · (intro w hSw; (try dsimp only at hSw); go_simp; try with_reducible rfl)
                          try simp only [Act.put, List.setIfInBounds_toArray, List.set_cons_zero, List.set_cons_succ]
                          refine held_take 15 (oi := { dst := some 117, op := Op.fieldAddr 53 (Operand.tmp 116) 0, type := 0, pos := "law.go:174", after := #[{ on := 14, ground := Ground.data }, { on := 6, ground := Ground.guard }], guard := some (6, true) }) (v := ?_) (by kernel_rfl) rfl (by rfl) (by kernel_rfl) (by kernel_rfl) (fun _ _ _ h => h) ?_ (by assumption) ?_
                          rotate_left
                          · (intro w hSw; (try dsimp only at hSw); go_simp; try with_reducible rfl)
                          try simp only [Act.put, List.setIfInBounds_toArray, List.set_cons_zero, List.set_cons_succ]
                          refine held_take 16 (oi := { dst := some 118, op := Op.fieldAddr 31 (Operand.tmp 117) 0, type := 0, pos := "law.go:174", after := #[{ on := 15, ground := Ground.data }, { on := 6, ground := Ground.guard }], guard := some (6, true) }) (v := ?_) (by kernel_rfl) rfl (by rfl) (by kernel_rfl) (by kernel_rfl) (fun _ _ _ h => h) ?_ (by assumption) ?_
                          rotate_left
                          · (intro w hSw; (try dsimp only at hSw); go_simp; try with_reducible rfl)
                          try simp only [Act.put, List.setIfInBounds_toArray, List.set_cons_zero, List.set_cons_succ]
                          refine held_take 17 (oi := { dst := some 119, op := Op.load 3 (Operand.tmp 118), type := 3, pos := "law.go:174", after := #[{ on := 16, ground := Ground.data }, { on := 6, ground := Ground.guard }], guard := some (6, true) }) (v := ?_) (by kernel_rfl) rfl (by rfl) (by kernel_rfl) (by kernel_rfl) (fun _ _ _ h => h) ?_ (by assumption) ?_
                          rotate_left
                          · (intro w hSw; (try dsimp only at hSw); go_simp; try with_reducible rfl)
                          try simp only [Act.put, List.setIfInBounds_toArray, List.set_cons_zero, List.set_cons_succ]
                          refine held_take 18 (oi := { dst := some 120, op := Op.binOp BinOp.gtr 3 (Operand.tmp 111) (Operand.tmp 119) 3, type := 4, pos := "law.go:174", after := #[{ on := 9, ground := Ground.data }, { on := 17, ground := Ground.data }, { on := 6, ground := Ground.guard }], guard := some (6, true) }) (v := ?_) (by kernel_rfl) rfl (by rfl) (by kernel_rfl) (by kernel_rfl) (fun _ _ _ h => h) ?_ (by assumption) ?_
                          rotate_left
                          · (intro w hSw; (try dsimp only at hSw); go_simp; try with_reducible rfl)
                          try simp only [Act.put, List.setIfInBounds_toArray, List.set_cons_zero, List.set_cons_succ]
                          refine held_take 19 (oi := { dst := some 121, op := Op.pick (Operand.tmp 108) (Operand.tmp 120) (Operand.const (Value.bool false)), type := 4, pos := "law.go:174", after := #[{ on := 6, ground := Ground.data }, { on := 18, ground := Ground.data }], guard := none }) (v := ?_) (by kernel_rfl) rfl (by rfl) (by kernel_rfl) (by kernel_rfl) (fun _ _ _ h => h) ?_ (by assumption) ?_
                          rotate_left
                          · (intro w hSw; (try dsimp only at hSw); go_simp; try with_reducible rfl)
                          try simp only [Act.put, List.setIfInBounds_toArray, List.set_cons_zero, List.set_cons_succ]
                          refine held_take 20 (oi := { dst := some 11, op := Op.assign (Operand.tmp 121), type := 4, pos := "law.go:174", after := #[{ on := 19, ground := Ground.data }, { on := 6, ground := Ground.chain }, { on := 0, ground := Ground.phase }, { on := 1, ground := Ground.phase }, { on := 2, ground := Ground.phase }, { on := 3, ground := Ground.phase }, { on := 4, ground := Ground.phase }, { on := 5, ground := Ground.phase }, { on := 6, ground := Ground.phase }, { on := 7, ground := Ground.phase }, { on := 8, ground := Ground.phase }, { on := 9, ground := Ground.phase }, { on := 10, ground := Ground.phase }, { on := 11, ground := Ground.phase }, { on := 12, ground := Ground.phase }, { on := 13, ground := Ground.phase }, { on := 14, ground := Ground.phase }, { on := 15, ground := Ground.phase }, { on := 16, ground := Ground.phase }, { on := 17, ground := Ground.phase }, { on := 18, ground := Ground.phase }, { on := 19, ground := Ground.phase }], guard := none }) (v := ?_) (by kernel_rfl) rfl (by rfl) (by kernel_rfl) (by kernel_rfl) (fun _ _ _ h => h) ?_ (by assumption) ?_
                          rotate_left
                          · (intro w hSw; (try dsimp only at hSw); go_simp; try with_reducible rfl)
                          try simp only [Act.put, List.setIfInBounds_toArray, List.set_cons_zero, List.set_cons_succ]
                          refine wpAnyH_done (by kernel_rfl) ?_ _
                          try go_wp2_with fail
                          go_meet
                          case rel => exact ⟨true, c5, S, _, k, ms, rfl, rfl, HM, by omega, FF⟩
                        · rw [hw] at CC
                          have LBX := hide (show ∀ V, (∃ ep ec hs, WAt Av w.heap.size V L d M 20000 (N + 1) ss c n ep ec hs) → Asd Av w.heap.size V4.drew V → Lb w.heap.size w V L d M c S (some ⟨g, 0, none⟩) k false (2 + 700 * i + 602) from fun V hz ha => by
                            obtain ⟨_, _, _, z5⟩ := hz
                            exact ⟨_, _, _, _, _, _, _, _, _, _, z5, unhide LS6, (unhide OD).asd ha (unhide HF), unhide HF, (fun h => by cases h), fun _ => (unhide SE).more c, by omega, (unhide BD).trans ha.bel⟩)
                          have hr1 : ¬ (r : Int) = 0 := by omega
                          clear hw hr
                          have CC := hide (show Calls Tryz.prog 30 #[.pointer (some ⟨L, 0, none⟩), .int .i64 mi] V4.drew (fun e W => e = .returned (.int .i64 (r : Int)) ∧ (∃ ep ec hs, WAt Av w.heap.size W L d M 20000 (N + 1) ss c n ep ec hs) ∧ Asd Av w.heap.size V4.drew W) from unhide CC)
                          generalize (r : Int) = ri at *
                          have hr2 : (ri == 0) = false := by simp [hr1]
                          go_wp2_with fail
                          refine wp_region_held_drew (S := fun w' => w'.cell? ⟨DB, 4, none⟩ = some (.int .i64 mi) ∧ w'.cell? ⟨g, z * 5, none⟩ = some (.int .i64 (c.bi : Int))) (by kernel_rfl) ?_ (fun hHeld => ?_)
                          · try dsimp only
                            first | exact ⟨d0, d1⟩ | exact ⟨e0, e1⟩
                          refine held_take 0 (oi := { dst := some 102, op := Op.move (Operand.tmp 6), type := 39, pos := "law.go:174", after := #[], guard := none }) (v := ?_) (by kernel_rfl) rfl (by rfl) (by kernel_rfl) (by kernel_rfl) (fun _ _ _ h => h) ?_ (by assumption) ?_
                          rotate_left
                          · (intro w hSw; (try dsimp only at hSw); go_simp; try with_reducible rfl)
                          try simp only [Act.put, List.setIfInBounds_toArray, List.set_cons_zero, List.set_cons_succ]
                          refine held_take 1 (oi := { dst := some 103, op := Op.fieldAddr 34 (Operand.tmp 10) 3, type := 0, pos := "law.go:174", after := #[], guard := none }) (v := ?_) (by kernel_rfl) rfl (by rfl) (by kernel_rfl) (by kernel_rfl) (fun _ _ _ h => h) ?_ (by assumption) ?_
                          rotate_left
                          · (intro w hSw; (try dsimp only at hSw); go_simp; try with_reducible rfl)
                          try simp only [Act.put, List.setIfInBounds_toArray, List.set_cons_zero, List.set_cons_succ]
                          refine held_take 2 (oi := { dst := some 104, op := Op.fieldAddr 31 (Operand.tmp 103) 0, type := 0, pos := "law.go:174", after := #[{ on := 1, ground := Ground.data }], guard := none }) (v := ?_) (by kernel_rfl) rfl (by rfl) (by kernel_rfl) (by kernel_rfl) (fun _ _ _ h => h) ?_ (by assumption) ?_
                          rotate_left
                          · (intro w hSw; (try dsimp only at hSw); go_simp; try with_reducible rfl)
                          try simp only [Act.put, List.setIfInBounds_toArray, List.set_cons_zero, List.set_cons_succ]
                          refine held_take 3 (oi := { dst := some 105, op := Op.load 3 (Operand.tmp 104), type := 3, pos := "law.go:174", after := #[{ on := 2, ground := Ground.data }], guard := none }) (v := ?_) (by kernel_rfl) rfl (by rfl) (by kernel_rfl) (by kernel_rfl) (fun _ _ _ h => h) ?_ (by assumption) ?_
                          rotate_left
                          · (intro w hSw; (try dsimp only at hSw); go_simp; try with_reducible rfl)
                          try simp only [Act.put, List.setIfInBounds_toArray, List.set_cons_zero, List.set_cons_succ]
                          refine held_one 4 (oi := { dst := some 106, op := Op.call { callee := Callee.value (Operand.func 30), args := #[Operand.tmp 102, Operand.tmp 105], argTypes := #[39, 3] }, type := 49, pos := "law.go:174", after := #[{ on := 0, ground := Ground.data }, { on := 3, ground := Ground.data }], guard := none }) (by kernel_rfl) rfl (fun K hK => ?_)
                          go_simp
                          first
                              | (go_at_call 30
                                 refine (unhide CC).mono ?_
                                 rintro e V5 ⟨rfl, ⟨ep5, ec5, hs5, z5⟩, a5⟩
                                 have e0 := (World.cell?_of_block (a := ⟨DB, 4, none⟩) (a5.av DB (unhide HBX))).trans d0
                                 have e1 := (World.cell?_of_block (a := ⟨g, z * 5, none⟩) (a5.av g (unhide HF g (.inl rfl)))).trans d1
                                 have FF := hide (unhide LBX V5 ⟨ep5, ec5, hs5, z5⟩ a5)
                                 clear z5 a5)
                          go_wp2_with fail
                          refine hK.out _ _ ?_ (fun hHeld => ?_)
                          · try dsimp only
                            first | exact ⟨d0, d1⟩ | exact ⟨e0, e1⟩
                          clear hK K
                          try simp only [Act.put, List.setIfInBounds_toArray, List.set_cons_zero, List.set_cons_succ]
                          refine held_take 5 (oi := { dst := some 107, op := Op.binOp BinOp.eql 49 (Operand.tmp 106) (Operand.const (Value.int IntKind.i64 0)) 49, type := 4, pos := "law.go:174", after := #[{ on := 4, ground := Ground.data }], guard := none }) (v := ?_) (by kernel_rfl) rfl (by rfl) (by kernel_rfl) (by kernel_rfl) (fun _ _ _ h => h) ?_ (by assumption) ?_
                          rotate_left
                          · (intro w hSw; (try dsimp only at hSw); go_simp; try with_reducible rfl)
                          try simp only [Act.put, List.setIfInBounds_toArray, List.set_cons_zero, List.set_cons_succ]
                          refine held_take 6 (oi := { dst := some 108, op := Op.move (Operand.tmp 107), type := 4, pos := "law.go:174", after := #[{ on := 5, ground := Ground.data }, { on := 4, ground := Ground.chain }], guard := none }) (v := ?_) (by kernel_rfl) rfl (by rfl) (by kernel_rfl) (by kernel_rfl) (fun _ _ _ h => h) ?_ (by assumption) ?_
                          rotate_left
                          · (intro w hSw; (try dsimp only at hSw); go_simp; try with_reducible rfl)
                          try simp only [Act.put, List.setIfInBounds_toArray, List.set_cons_zero, List.set_cons_succ]
                          refine held_skip 7 (oi := { dst := some 109, op := Op.fieldAddr 34 (Operand.tmp 10) 3, type := 0, pos := "law.go:174", after := #[{ on := 6, ground := Ground.guard }], guard := some (6, true) }) (by kernel_rfl) rfl (by rfl) (by kernel_rfl) (by kernel_rfl) (fun _ _ _ h => h) (by assumption) ?_
                          try simp only [Act.put, List.setIfInBounds_toArray, List.set_cons_zero, List.set_cons_succ]
                          refine held_skip 8 (oi := { dst := some 110, op := Op.fieldAddr 31 (Operand.tmp 109) 0, type := 0, pos := "law.go:174", after := #[{ on := 7, ground := Ground.data }, { on := 6, ground := Ground.guard }], guard := some (6, true) }) (by kernel_rfl) rfl (by rfl) (by kernel_rfl) (by kernel_rfl) (fun _ _ _ h => h) (by assumption) ?_
                          try simp only [Act.put, List.setIfInBounds_toArray, List.set_cons_zero, List.set_cons_succ]
                          refine held_skip 9 (oi := { dst := some 111, op := Op.load 3 (Operand.tmp 110), type := 3, pos := "law.go:174", after := #[{ on := 8, ground := Ground.data }, { on := 6, ground := Ground.guard }], guard := some (6, true) }) (by kernel_rfl) rfl (by rfl) (by kernel_rfl) (by kernel_rfl) (fun _ _ _ h => h) (by assumption) ?_
                          try simp only [Act.put, List.setIfInBounds_toArray, List.set_cons_zero, List.set_cons_succ]
                          refine held_skip 10 (oi := { dst := some 112, op := Op.move (Operand.tmp 8), type := 55, pos := "law.go:174", after := #[{ on := 6, ground := Ground.guard }], guard := some (6, true) }) (by kernel_rfl) rfl (by rfl) (by kernel_rfl) (by kernel_rfl) (fun _ _ _ h => h) (by assumption) ?_
                          try simp only [Act.put, List.setIfInBounds_toArray, List.set_cons_zero, List.set_cons_succ]
                          refine held_skip 11 (oi := { dst := some 113, op := Op.move (Operand.tmp 8), type := 55, pos := "law.go:174", after := #[{ on := 6, ground := Ground.guard }], guard := some (6, true) }) (by kernel_rfl) rfl (by rfl) (by kernel_rfl) (by kernel_rfl) (fun _ _ _ h => h) (by assumption) ?_
                          try simp only [Act.put, List.setIfInBounds_toArray, List.set_cons_zero, List.set_cons_succ]
                          refine held_skip 12 (oi := { dst := some 114, op := Op.call { callee := Callee.builtin Builtin.len, args := #[Operand.tmp 113], argTypes := #[55] }, type := 3, pos := "law.go:174", after := #[{ on := 11, ground := Ground.data }, { on := 6, ground := Ground.guard }], guard := some (6, true) }) (by kernel_rfl) rfl (by rfl) (by kernel_rfl) (by kernel_rfl) (fun _ _ _ h => h) (by assumption) ?_
                          try simp only [Act.put, List.setIfInBounds_toArray, List.set_cons_zero, List.set_cons_succ]
                          refine held_skip 13 (oi := { dst := some 115, op := Op.binOp BinOp.sub 3 (Operand.tmp 114) (Operand.const (Value.int IntKind.i64 1)) 3, type := 3, pos := "law.go:174", after := #[{ on := 12, ground := Ground.data }, { on := 6, ground := Ground.guard }], guard := some (6, true) }) (by kernel_rfl) rfl (by rfl) (by kernel_rfl) (by kernel_rfl) (fun _ _ _ h => h) (by assumption) ?_
                          try simp only [Act.put, List.setIfInBounds_toArray, List.set_cons_zero, List.set_cons_succ]
                          refine held_skip 14 (oi := { dst := some 116, op := Op.indexAddr 55 (Operand.tmp 112) (Operand.tmp 115), type := 0, pos := "law.go:174", after := #[{ on := 10, ground := Ground.data }, { on := 13, ground := Ground.data }, { on := 6, ground := Ground.guard }], guard := some (6, true) }) (by kernel_rfl) rfl (by rfl) (by kernel_rfl) (by kernel_rfl) (fun _ _ _ h => h) (by assumption) ?_
                          try simp only [Act.put, List.setIfInBounds_toArray, List.set_cons_zero, List.set_cons_succ]
                          refine held_skip 15 (oi := { dst := some 117, op := Op.fieldAddr 53 (Operand.tmp 116) 0, type := 0, pos := "law.go:174", after := #[{ on := 14, ground := Ground.data }, { on := 6, ground := Ground.guard }], guard := some (6, true) }) (by kernel_rfl) rfl (by rfl) (by kernel_rfl) (by kernel_rfl) (fun _ _ _ h => h) (by assumption) ?_
                          try simp only [Act.put, List.setIfInBounds_toArray, List.set_cons_zero, List.set_cons_succ]
                          refine held_skip 16 (oi := { dst := some 118, op := Op.fieldAddr 31 (Operand.tmp 117) 0, type := 0, pos := "law.go:174", after := #[{ on := 15, ground := Ground.data }, { on := 6, ground := Ground.guard }], guard := some (6, true) }) (by kernel_rfl) rfl (by rfl) (by kernel_rfl) (by kernel_rfl) (fun _ _ _ h => h) (by assumption) ?_
                          try simp only [Act.put, List.setIfInBounds_toArray, List.set_cons_zero, List.set_cons_succ]
                          refine held_skip 17 (oi := { dst := some 119, op := Op.load 3 (Operand.tmp 118), type := 3, pos := "law.go:174", after := #[{ on := 16, ground := Ground.data }, { on := 6, ground := Ground.guard }], guard := some (6, true) }) (by kernel_rfl) rfl (by rfl) (by kernel_rfl) (by kernel_rfl) (fun _ _ _ h => h) (by assumption) ?_
                          try simp only [Act.put, List.setIfInBounds_toArray, List.set_cons_zero, List.set_cons_succ]
                          refine held_skip 18 (oi := { dst := some 120, op := Op.binOp BinOp.gtr 3 (Operand.tmp 111) (Operand.tmp 119) 3, type := 4, pos := "law.go:174", after := #[{ on := 9, ground := Ground.data }, { on := 17, ground := Ground.data }, { on := 6, ground := Ground.guard }], guard := some (6, true) }) (by kernel_rfl) rfl (by rfl) (by kernel_rfl) (by kernel_rfl) (fun _ _ _ h => h) (by assumption) ?_
                          try simp only [Act.put, List.setIfInBounds_toArray, List.set_cons_zero, List.set_cons_succ]
                          refine held_take 19 (oi := { dst := some 121, op := Op.pick (Operand.tmp 108) (Operand.tmp 120) (Operand.const (Value.bool false)), type := 4, pos := "law.go:174", after := #[{ on := 6, ground := Ground.data }, { on := 18, ground := Ground.data }], guard := none }) (v := ?_) (by kernel_rfl) rfl (by rfl) (by kernel_rfl) (by kernel_rfl) (fun _ _ _ h => h) ?_ (by assumption) ?_
                          rotate_left
                          · (intro w hSw; (try dsimp only at hSw); go_simp; try with_reducible rfl)
                          try simp only [Act.put, List.setIfInBounds_toArray, List.set_cons_zero, List.set_cons_succ]
                          refine held_take 20 (oi := { dst := some 11, op := Op.assign (Operand.tmp 121), type := 4, pos := "law.go:174", after := #[{ on := 19, ground := Ground.data }, { on := 6, ground := Ground.chain }, { on := 0, ground := Ground.phase }, { on := 1, ground := Ground.phase }, { on := 2, ground := Ground.phase }, { on := 3, ground := Ground.phase }, { on := 4, ground := Ground.phase }, { on := 5, ground := Ground.phase }, { on := 6, ground := Ground.phase }, { on := 7, ground := Ground.phase }, { on := 8, ground := Ground.phase }, { on := 9, ground := Ground.phase }, { on := 10, ground := Ground.phase }, { on := 11, ground := Ground.phase }, { on := 12, ground := Ground.phase }, { on := 13, ground := Ground.phase }, { on := 14, ground := Ground.phase }, { on := 15, ground := Ground.phase }, { on := 16, ground := Ground.phase }, { on := 17, ground := Ground.phase }, { on := 18, ground := Ground.phase }, { on := 19, ground := Ground.phase }], guard := none }) (v := ?_) (by kernel_rfl) rfl (by rfl) (by kernel_rfl) (by kernel_rfl) (fun _ _ _ h => h) ?_ (by assumption) ?_
                          rotate_left
                          · (intro w hSw; (try dsimp only at hSw); go_simp; try with_reducible rfl)
                          try simp only [Act.put, List.setIfInBounds_toArray, List.set_cons_zero, List.set_cons_succ]
                          refine wpAnyH_done (by kernel_rfl) ?_ _
                          try go_wp2_with fail
                          go_meet
                          case rel => exact ⟨false, c, S, _, k, ms, rfl, rfl, HM, by omega, FF⟩
                        · rw [hw] at CC
                          have LBX := hide (show ∀ V, (∃ ep ec hs, WAt Av w.heap.size V L d M 20000 (N + 1) ss c n ep ec hs) → Asd Av w.heap.size V4.drew V → Lb w.heap.size w V L d M c S (some ⟨g, 0, none⟩) k false (2 + 700 * i + 602) from fun V hz ha => by
                            obtain ⟨_, _, _, z5⟩ := hz
                            exact ⟨_, _, _, _, _, _, _, _, _, _, z5, unhide LS6, (unhide OD).asd ha (unhide HF), unhide HF, (fun h => by cases h), fun _ => (unhide SE).more c, by omega, (unhide BD).trans ha.bel⟩)
                          have hgt : decide ((c.bi : Int) < mi) = false := by simp [hlt]
                          clear hw
                          go_wp2_with fail
                          refine wp_region_held_drew (S := fun w' => w'.cell? ⟨DB, 4, none⟩ = some (.int .i64 mi) ∧ w'.cell? ⟨g, z * 5, none⟩ = some (.int .i64 (c.bi : Int))) (by kernel_rfl) ?_ (fun hHeld => ?_)
                          · try dsimp only
                            first | exact ⟨d0, d1⟩ | exact ⟨e0, e1⟩
                          refine held_take 0 (oi := { dst := some 102, op := Op.move (Operand.tmp 6), type := 39, pos := "law.go:174", after := #[], guard := none }) (v := ?_) (by kernel_rfl) rfl (by rfl) (by kernel_rfl) (by kernel_rfl) (fun _ _ _ h => h) ?_ (by assumption) ?_
                          rotate_left
                          · (intro w hSw; (try dsimp only at hSw); go_simp; try with_reducible rfl)
                          try simp only [Act.put, List.setIfInBounds_toArray, List.set_cons_zero, List.set_cons_succ]
                          refine held_take 1 (oi := { dst := some 103, op := Op.fieldAddr 34 (Operand.tmp 10) 3, type := 0, pos := "law.go:174", after := #[], guard := none }) (v := ?_) (by kernel_rfl) rfl (by rfl) (by kernel_rfl) (by kernel_rfl) (fun _ _ _ h => h) ?_ (by assumption) ?_
                          rotate_left
                          · (intro w hSw; (try dsimp only at hSw); go_simp; try with_reducible rfl)
                          try simp only [Act.put, List.setIfInBounds_toArray, List.set_cons_zero, List.set_cons_succ]
                          refine held_take 2 (oi := { dst := some 104, op := Op.fieldAddr 31 (Operand.tmp 103) 0, type := 0, pos := "law.go:174", after := #[{ on := 1, ground := Ground.data }], guard := none }) (v := ?_) (by kernel_rfl) rfl (by rfl) (by kernel_rfl) (by kernel_rfl) (fun _ _ _ h => h) ?_ (by assumption) ?_
                          rotate_left
                          · (intro w hSw; (try dsimp only at hSw); go_simp; try with_reducible rfl)
                          try simp only [Act.put, List.setIfInBounds_toArray, List.set_cons_zero, List.set_cons_succ]
                          refine held_take 3 (oi := { dst := some 105, op := Op.load 3 (Operand.tmp 104), type := 3, pos := "law.go:174", after := #[{ on := 2, ground := Ground.data }], guard := none }) (v := ?_) (by kernel_rfl) rfl (by rfl) (by kernel_rfl) (by kernel_rfl) (fun _ _ _ h => h) ?_ (by assumption) ?_
                          rotate_left
                          · (intro w hSw; (try dsimp only at hSw); go_simp; try with_reducible rfl)
                          try simp only [Act.put, List.setIfInBounds_toArray, List.set_cons_zero, List.set_cons_succ]
                          refine held_one 4 (oi := { dst := some 106, op := Op.call { callee := Callee.value (Operand.func 30), args := #[Operand.tmp 102, Operand.tmp 105], argTypes := #[39, 3] }, type := 49, pos := "law.go:174", after := #[{ on := 0, ground := Ground.data }, { on := 3, ground := Ground.data }], guard := none }) (by kernel_rfl) rfl (fun K hK => ?_)
                          go_simp
                          first
                              | (go_at_call 30
                                 refine (unhide CC).mono ?_
                                 rintro e V5 ⟨rfl, ⟨ep5, ec5, hs5, z5⟩, a5⟩
                                 have e0 := (World.cell?_of_block (a := ⟨DB, 4, none⟩) (a5.av DB (unhide HBX))).trans d0
                                 have e1 := (World.cell?_of_block (a := ⟨g, z * 5, none⟩) (a5.av g (unhide HF g (.inl rfl)))).trans d1
                                 have FF := hide (unhide LBX V5 ⟨ep5, ec5, hs5, z5⟩ a5)
                                 clear z5 a5)
                          go_wp2_with fail
                          refine hK.out _ _ ?_ (fun hHeld => ?_)
                          · try dsimp only
                            first | exact ⟨d0, d1⟩ | exact ⟨e0, e1⟩
                          clear hK K
                          try simp only [Act.put, List.setIfInBounds_toArray, List.set_cons_zero, List.set_cons_succ]
                          refine held_take 5 (oi := { dst := some 107, op := Op.binOp BinOp.eql 49 (Operand.tmp 106) (Operand.const (Value.int IntKind.i64 0)) 49, type := 4, pos := "law.go:174", after := #[{ on := 4, ground := Ground.data }], guard := none }) (v := ?_) (by kernel_rfl) rfl (by rfl) (by kernel_rfl) (by kernel_rfl) (fun _ _ _ h => h) ?_ (by assumption) ?_
                          rotate_left
                          · (intro w hSw; (try dsimp only at hSw); go_simp; try with_reducible rfl)
                          try simp only [Act.put, List.setIfInBounds_toArray, List.set_cons_zero, List.set_cons_succ]
                          refine held_take 6 (oi := { dst := some 108, op := Op.move (Operand.tmp 107), type := 4, pos := "law.go:174", after := #[{ on := 5, ground := Ground.data }, { on := 4, ground := Ground.chain }], guard := none }) (v := ?_) (by kernel_rfl) rfl (by rfl) (by kernel_rfl) (by kernel_rfl) (fun _ _ _ h => h) ?_ (by assumption) ?_
                          rotate_left
                          · (intro w hSw; (try dsimp only at hSw); go_simp; try with_reducible rfl)
                          try simp only [Act.put, List.setIfInBounds_toArray, List.set_cons_zero, List.set_cons_succ]
                          refine held_take 7 (oi := { dst := some 109, op := Op.fieldAddr 34 (Operand.tmp 10) 3, type := 0, pos := "law.go:174", after := #[{ on := 6, ground := Ground.guard }], guard := some (6, true) }) (v := ?_) (by kernel_rfl) rfl (by rfl) (by kernel_rfl) (by kernel_rfl) (fun _ _ _ h => h) ?_ (by assumption) ?_
                          rotate_left
                          · (intro w hSw; (try dsimp only at hSw); go_simp; try with_reducible rfl)
                          try simp only [Act.put, List.setIfInBounds_toArray, List.set_cons_zero, List.set_cons_succ]
                          refine held_take 8 (oi := { dst := some 110, op := Op.fieldAddr 31 (Operand.tmp 109) 0, type := 0, pos := "law.go:174", after := #[{ on := 7, ground := Ground.data }, { on := 6, ground := Ground.guard }], guard := some (6, true) }) (v := ?_) (by kernel_rfl) rfl (by rfl) (by kernel_rfl) (by kernel_rfl) (fun _ _ _ h => h) ?_ (by assumption) ?_
                          rotate_left
                          · (intro w hSw; (try dsimp only at hSw); go_simp; try with_reducible rfl)
                          try simp only [Act.put, List.setIfInBounds_toArray, List.set_cons_zero, List.set_cons_succ]
                          refine held_take 9 (oi := { dst := some 111, op := Op.load 3 (Operand.tmp 110), type := 3, pos := "law.go:174", after := #[{ on := 8, ground := Ground.data }, { on := 6, ground := Ground.guard }], guard := some (6, true) }) (v := ?_) (by kernel_rfl) rfl (by rfl) (by kernel_rfl) (by kernel_rfl) (fun _ _ _ h => h) ?_ (by assumption) ?_
                          rotate_left
                          · (intro w hSw; (try dsimp only at hSw); go_simp; try with_reducible rfl)
                          try simp only [Act.put, List.setIfInBounds_toArray, List.set_cons_zero, List.set_cons_succ]
                          refine held_take 10 (oi := { dst := some 112, op := Op.move (Operand.tmp 8), type := 55, pos := "law.go:174", after := #[{ on := 6, ground := Ground.guard }], guard := some (6, true) }) (v := ?_) (by kernel_rfl) rfl (by rfl) (by kernel_rfl) (by kernel_rfl) (fun _ _ _ h => h) ?_ (by assumption) ?_
                          rotate_left
                          · (intro w hSw; (try dsimp only at hSw); go_simp; try with_reducible rfl)
                          try simp only [Act.put, List.setIfInBounds_toArray, List.set_cons_zero, List.set_cons_succ]
                          refine held_take 11 (oi := { dst := some 113, op := Op.move (Operand.tmp 8), type := 55, pos := "law.go:174", after := #[{ on := 6, ground := Ground.guard }], guard := some (6, true) }) (v := ?_) (by kernel_rfl) rfl (by rfl) (by kernel_rfl) (by kernel_rfl) (fun _ _ _ h => h) ?_ (by assumption) ?_
                          rotate_left
                          · (intro w hSw; (try dsimp only at hSw); go_simp; try with_reducible rfl)
                          try simp only [Act.put, List.setIfInBounds_toArray, List.set_cons_zero, List.set_cons_succ]
                          refine held_take 12 (oi := { dst := some 114, op := Op.call { callee := Callee.builtin Builtin.len, args := #[Operand.tmp 113], argTypes := #[55] }, type := 3, pos := "law.go:174", after := #[{ on := 11, ground := Ground.data }, { on := 6, ground := Ground.guard }], guard := some (6, true) }) (v := ?_) (by kernel_rfl) rfl (by rfl) (by kernel_rfl) (by kernel_rfl) (fun _ _ _ h => h) ?_ (by assumption) ?_
                          rotate_left
                          · (intro w hSw; (try dsimp only at hSw); go_simp; try with_reducible rfl)
                          try simp only [Act.put, List.setIfInBounds_toArray, List.set_cons_zero, List.set_cons_succ]
                          refine held_take 13 (oi := { dst := some 115, op := Op.binOp BinOp.sub 3 (Operand.tmp 114) (Operand.const (Value.int IntKind.i64 1)) 3, type := 3, pos := "law.go:174", after := #[{ on := 12, ground := Ground.data }, { on := 6, ground := Ground.guard }], guard := some (6, true) }) (v := ?_) (by kernel_rfl) rfl (by rfl) (by kernel_rfl) (by kernel_rfl) (fun _ _ _ h => h) ?_ (by assumption) ?_
                          rotate_left
                          · (intro w hSw; (try dsimp only at hSw); go_simp; try with_reducible rfl)
                          try simp only [Act.put, List.setIfInBounds_toArray, List.set_cons_zero, List.set_cons_succ]
                          refine held_take 14 (oi := { dst := some 116, op := Op.indexAddr 55 (Operand.tmp 112) (Operand.tmp 115), type := 0, pos := "law.go:174", after := #[{ on := 10, ground := Ground.data }, { on := 13, ground := Ground.data }, { on := 6, ground := Ground.guard }], guard := some (6, true) }) (v := ?_) (by kernel_rfl) rfl (by rfl) (by kernel_rfl) (by kernel_rfl) (fun _ _ _ h => h) ?_ (by assumption) ?_
                          rotate_left
                          · (intro w hSw; (try dsimp only at hSw); go_simp; try with_reducible rfl)
                          try simp only [Act.put, List.setIfInBounds_toArray, List.set_cons_zero, List.set_cons_succ]
                          refine held_take 15 (oi := { dst := some 117, op := Op.fieldAddr 53 (Operand.tmp 116) 0, type := 0, pos := "law.go:174", after := #[{ on := 14, ground := Ground.data }, { on := 6, ground := Ground.guard }], guard := some (6, true) }) (v := ?_) (by kernel_rfl) rfl (by rfl) (by kernel_rfl) (by kernel_rfl) (fun _ _ _ h => h) ?_ (by assumption) ?_
                          rotate_left
                          · (intro w hSw; (try dsimp only at hSw); go_simp; try with_reducible rfl)
                          try simp only [Act.put, List.setIfInBounds_toArray, List.set_cons_zero, List.set_cons_succ]
                          refine held_take 16 (oi := { dst := some 118, op := Op.fieldAddr 31 (Operand.tmp 117) 0, type := 0, pos := "law.go:174", after := #[{ on := 15, ground := Ground.data }, { on := 6, ground := Ground.guard }], guard := some (6, true) }) (v := ?_) (by kernel_rfl) rfl (by rfl) (by kernel_rfl) (by kernel_rfl) (fun _ _ _ h => h) ?_ (by assumption) ?_
                          rotate_left
                          · (intro w hSw; (try dsimp only at hSw); go_simp; try with_reducible rfl)
                          try simp only [Act.put, List.setIfInBounds_toArray, List.set_cons_zero, List.set_cons_succ]
                          refine held_take 17 (oi := { dst := some 119, op := Op.load 3 (Operand.tmp 118), type := 3, pos := "law.go:174", after := #[{ on := 16, ground := Ground.data }, { on := 6, ground := Ground.guard }], guard := some (6, true) }) (v := ?_) (by kernel_rfl) rfl (by rfl) (by kernel_rfl) (by kernel_rfl) (fun _ _ _ h => h) ?_ (by assumption) ?_
                          rotate_left
                          · (intro w hSw; (try dsimp only at hSw); go_simp; try with_reducible rfl)
                          try simp only [Act.put, List.setIfInBounds_toArray, List.set_cons_zero, List.set_cons_succ]
                          refine held_take 18 (oi := { dst := some 120, op := Op.binOp BinOp.gtr 3 (Operand.tmp 111) (Operand.tmp 119) 3, type := 4, pos := "law.go:174", after := #[{ on := 9, ground := Ground.data }, { on := 17, ground := Ground.data }, { on := 6, ground := Ground.guard }], guard := some (6, true) }) (v := ?_) (by kernel_rfl) rfl (by rfl) (by kernel_rfl) (by kernel_rfl) (fun _ _ _ h => h) ?_ (by assumption) ?_
                          rotate_left
                          · (intro w hSw; (try dsimp only at hSw); go_simp; try with_reducible rfl)
                          try simp only [Act.put, List.setIfInBounds_toArray, List.set_cons_zero, List.set_cons_succ]
                          refine held_take 19 (oi := { dst := some 121, op := Op.pick (Operand.tmp 108) (Operand.tmp 120) (Operand.const (Value.bool false)), type := 4, pos := "law.go:174", after := #[{ on := 6, ground := Ground.data }, { on := 18, ground := Ground.data }], guard := none }) (v := ?_) (by kernel_rfl) rfl (by rfl) (by kernel_rfl) (by kernel_rfl) (fun _ _ _ h => h) ?_ (by assumption) ?_
                          rotate_left
                          · (intro w hSw; (try dsimp only at hSw); go_simp; try with_reducible rfl)
                          try simp only [Act.put, List.setIfInBounds_toArray, List.set_cons_zero, List.set_cons_succ]
                          refine held_take 20 (oi := { dst := some 11, op := Op.assign (Operand.tmp 121), type := 4, pos := "law.go:174", after := #[{ on := 19, ground := Ground.data }, { on := 6, ground := Ground.chain }, { on := 0, ground := Ground.phase }, { on := 1, ground := Ground.phase }, { on := 2, ground := Ground.phase }, { on := 3, ground := Ground.phase }, { on := 4, ground := Ground.phase }, { on := 5, ground := Ground.phase }, { on := 6, ground := Ground.phase }, { on := 7, ground := Ground.phase }, { on := 8, ground := Ground.phase }, { on := 9, ground := Ground.phase }, { on := 10, ground := Ground.phase }, { on := 11, ground := Ground.phase }, { on := 12, ground := Ground.phase }, { on := 13, ground := Ground.phase }, { on := 14, ground := Ground.phase }, { on := 15, ground := Ground.phase }, { on := 16, ground := Ground.phase }, { on := 17, ground := Ground.phase }, { on := 18, ground := Ground.phase }, { on := 19, ground := Ground.phase }], guard := none }) (v := ?_) (by kernel_rfl) rfl (by rfl) (by kernel_rfl) (by kernel_rfl) (fun _ _ _ h => h) ?_ (by assumption) ?_
                          rotate_left
                          · (intro w hSw; (try dsimp only at hSw); go_simp; try with_reducible rfl)
                          try simp only [Act.put, List.setIfInBounds_toArray, List.set_cons_zero, List.set_cons_succ]
                          refine wpAnyH_done (by kernel_rfl) ?_ _
                          try go_wp2_with fail
                          go_meet
                          case rel => exact ⟨false, c, S, _, k, ms, rfl, rfl, HM, by omega, FF⟩
                      · have k3' : (kd == 3) = false := by simp [k3]
                        by_cases k4 : kd = 4
                        · subst k4
                          have AC := hide (reset_do (unhide Z7) (unhide LS6) (by omega) mi mt)
                          go_wp2_with fail
                          go_at_call 31
                          refine (unhide AC).mono ?_
                          rintro e V5 ⟨r, ss5, c5, n5, ep5, ec5, hs5, rfl, z5, a5, _, hr5⟩
                          rcases hr5 with ⟨rfl, _, r1', ls5⟩ | ⟨rfl, rfl, rfl, hr0⟩
                          · have FF := hide (show Lb w.heap.size w V5 L d M c5 S sp k true (2 + 700 * i + 602) from ⟨_, _, _, _, _, _, _, _, _, _, z5, ls5, (unhide O7).asd a5 (unhide HF), unhide HF, fun _ => rfl, fun h => (by cases h), by omega, (unhide B7).trans a5.bel⟩)
                            clear z5 ls5 a5
                            rw [show ((0 : Nat) : Int) = 0 from rfl]
                            go_wp2_with fail
                            go_meet
                            case rel => exact ⟨true, c5, S, sp, k, ms, rfl, rfl, HM, by omega, FF⟩
                          · have FF := hide (show Lb w.heap.size w V5 L d M c5 S sp k false (2 + 700 * i + 602) from ⟨_, _, _, _, _, _, _, _, _, _, z5, unhide LS6, (unhide O7).asd a5 (unhide HF), unhide HF, fun h => (by cases h), fun _ => (unhide SE).more _, by omega, (unhide B7).trans a5.bel⟩)
                            have hr1 : ¬ (r : Int) = 0 := fun h => hr0 (by omega) trivial
                            clear z5 a5 hr0
                            generalize (r : Int) = ri at *
                            have hr2 : (ri == 0) = false := by simp [hr1]
                            go_wp2_with fail
                            go_meet
                            case rel => exact ⟨false, c5, S, sp, k, ms, rfl, rfl, HM, by omega, FF⟩
                        · have k4' : (kd == 4) = false := by simp [k4]
                          have FF := hide (show Lb w.heap.size w V4 L d M c S sp k false (2 + 700 * i + 602) from ⟨_, _, _, _, _, _, _, _, _, _, unhide Z7, unhide LS6, unhide O7, unhide HF, (fun h => by cases h), fun _ => (unhide SE).more c, by omega, unhide B7⟩)
                          go_wp2_with fail
                          go_meet
                          case rel => exact ⟨false, c, S, sp, k, ms, rfl, rfl, HM, by omega, FF⟩
            case rest =>
              obtain ⟨sure, c2, S2, sp2, k2, ms2, rfl, rfl, HM2, hms2, I6⟩ := hcut
              obtain ⟨Av, N, ss, n, r1, r2, ep5, ec5, hs5, hS, z5, ls5, os5, hf5, sy5, sn5, N5, bb5⟩ := unhide I6
              have SC := hide (state_calls z5 ls5.ix)
              have BS := hide z5.dk.le
              clear I5 I6 SH X1 LX U1
              cases sure with
              | true =>
                obtain rfl := sy5 rfl
                have PU := hide (fun (W3 w' : World) (p : Option Addr) (q : Nat) (hx : List (Option Addr × Nat)) (sp' : Option Addr) (k' : Nat) (u : Below wc.heap.size wc W3) (hx1 : ∀ g, LFoot p hx g → wc.heap.size ≤ g) (ho : OwnSt w.heap.size w' sp' k' ([] ++ [c2]) ([] ++ [(p, q, hx)])) (hg : W3.grownBy w' (blk none)) (hl : ∀ g, blk sp' = some g → blk none = some g ∨ W3.heap.size ≤ g) => La.push (w0 := w) (xN := 2 + 700 * (i + 1)) z5 ls5 (OwnSt.ofNil _ _) (fun g hg => by
                  rcases hg with hg | ⟨_, hx, _⟩
                  · cases hg
                  · simp at hx) (Seen.fresh ls5.cont) bb5 u hx1 ho hg hl (by omega))
                clear z5 ls5 os5 hf5 sy5 sn5
                go_wp2_with fail
                go_at_call 26
                refine (unhide SC).mono ?_
                rintro e V5 ⟨p5, q5, h5, rfl, o5, v5⟩
                unfold stRow
                have U5 := hide ((Below.refl V5.heap.size V5).alloc (Nat.le_refl _) (.cells #[.int .i64 (c2.bi : Int), .int .i64 (c2.bt : Int), .int .i64 (c2.ht : Int), .int .i64 (c2.hv : Int), .slice p5 c2.es.length q5] 53))
                have X5 := hide (heap_new V5 (.cells #[.int .i64 (c2.bi : Int), .int .i64 (c2.bt : Int), .int .i64 (c2.ht : Int), .int .i64 (c2.hv : Int), .slice p5 c2.es.length q5] 53))
                have V5B := hide v5
                have O5 := hide ((o5.later (unhide U5)).mono (unhide BS))
                have F5 := hide (show ∀ g, LFoot p5 h5 g → wc.heap.size ≤ g from fun g hg => (o5.foot g hg).1)
                clear o5 v5 SC
                go_wp2_with (at_builtin; refine unhide ?_)
                generalize V5.alloc _ = W5 at *
                refine hide ?_
                refine wpList_appendSt rfl (.tmp 132) (.tmp 135) rfl w.heap.size none 0 0 [] [] rfl rfl (OwnSt.ofNil _ _) V5.heap.size c2 (p5, q5, h5) rfl (by exact unhide X5) (unhide O5) (by simp) (Nat.le_trans (unhide BS) (Nat.le_trans (unhide V5B).size (unhide U5).size)) ?_
                intro sp9 k9 w9 ho9 hg9 hl9
                have I9 := hide (unhide PU W5 w9 p5 q5 h5 sp9 k9 ((unhide V5B).trans ((unhide U5).mono (unhide V5B).size)) (unhide F5) ho9 hg9 hl9)
                clear ho9 hg9 hl9 PU
                go_wp2
                exact ⟨⟨i + 1, c2, _, sp9, k9, 0 + 1, by omega, by omega, by go_num, rfl, hide rfl, by omega, I9⟩, by simp [intOf]; omega⟩
              | false =>
                have se5 := sn5 rfl
                have OS := hide os5
                have PU := hide (fun (W3 w' : World) (p : Option Addr) (q : Nat) (hx : List (Option Addr × Nat)) (sp' : Option Addr) (k' : Nat) (u : Below wc.heap.size wc W3) (hx1 : ∀ g, LFoot p hx g → wc.heap.size ≤ g) (ho : OwnSt w.heap.size w' sp' k' (S2 ++ [c2]) (hS ++ [(p, q, hx)])) (hg : W3.grownBy w' (blk sp2)) (hl : ∀ g, blk sp' = some g → blk sp2 = some g ∨ W3.heap.size ≤ g) => La.push (w0 := w) (xN := 2 + 700 * (i + 1)) z5 ls5 os5 hf5 se5 bb5 u hx1 ho hg hl (by omega))
                clear z5 ls5 os5 hf5 sy5 sn5 se5
                go_wp2_with fail
                go_at_call 26
                refine (unhide SC).mono ?_
                rintro e V5 ⟨p5, q5, h5, rfl, o5, v5⟩
                unfold stRow
                have U5 := hide ((Below.refl V5.heap.size V5).alloc (Nat.le_refl _) (.cells #[.int .i64 (c2.bi : Int), .int .i64 (c2.bt : Int), .int .i64 (c2.ht : Int), .int .i64 (c2.hv : Int), .slice p5 c2.es.length q5] 53))
                have X5 := hide (heap_new V5 (.cells #[.int .i64 (c2.bi : Int), .int .i64 (c2.bt : Int), .int .i64 (c2.ht : Int), .int .i64 (c2.hv : Int), .slice p5 c2.es.length q5] 53))
                have V5B := hide v5
                have O5 := hide ((o5.later (unhide U5)).mono (unhide BS))
                have F5 := hide (show ∀ g, LFoot p5 h5 g → wc.heap.size ≤ g from fun g hg => (o5.foot g hg).1)
                clear o5 v5 SC
                go_wp2_with (at_builtin; refine unhide ?_)
                generalize V5.alloc _ = W5 at *
                refine hide ?_
                refine wpList_appendSt rfl (.tmp 132) (.tmp 135) rfl w.heap.size sp2 ms2 k2 S2 hS rfl (unhide HM2) ((unhide OS).later ((unhide V5B).trans ((unhide U5).mono (unhide V5B).size))) V5.heap.size c2 (p5, q5, h5) rfl (by exact unhide X5) (unhide O5) (by rw [unhide HM2]; omega) (Nat.le_trans (unhide BS) (Nat.le_trans (unhide V5B).size (unhide U5).size)) ?_
                intro sp9 k9 w9 ho9 hg9 hl9
                have I9 := hide (unhide PU W5 w9 p5 q5 h5 sp9 k9 ((unhide V5B).trans ((unhide U5).mono (unhide V5B).size)) (unhide F5) ho9 hg9 hl9)
                have HM9 := hide (show (S2 ++ [c2]).length = ms2 + 1 by rw [List.length_append, unhide HM2]; rfl)
                clear ho9 hg9 hl9 PU
                go_wp2
                exact ⟨⟨i + 1, c2, _, sp9, k9, ms2 + 1, by omega, by omega, by go_num, rfl, HM9, by omega, I9⟩, by simp [intOf]; omega⟩
          · have y2 : ¬ (i : Int) < 60 := by omega
            go_wp2_with fail
            go_meet
            case rel => exact ⟨i, c, S, sp, k, ms, hi, hi6, rfl, rfl, HM, hms, I5⟩
        · have y1 : ¬ (i : Int) < (m0 : Int) := by omega
          go_wp2_with fail
          go_meet
          case rel => exact ⟨i, c, S, sp, k, ms, hi, hi6, rfl, rfl, HM, hms, I5⟩
    case rest =>
      obtain ⟨i, c, S, sp, k, ms, hi, hi6, rfl, rfl, HM, hms, I5⟩ := hcut
      obtain ⟨Av, N, ss, n, r1, r2, ep5, ec5, hs5, hS, z5, ls5, os5, hf5, se5, _, N5, bb5⟩ := unhide I5
      obtain ⟨mc, c8, hmc, hc8, e8, ls8⟩ := ls5.crash l1
      obtain ⟨c9, hc9, hc10⟩ := se5 mc hmc
      rw [hc8] at hc10
      obtain rfl : c8 = c9 := Option.some.inj hc10
      have MEM := hide hc9
      have CC := hide (acrash_calls (z5.dk.av (Bv := Av) (fun g hg => .inl hg)) a1 m1 c1 l1 (unhide Q1) ((unhide HB1).later bb5) (fun b off e h0 => .inl (ints_lt (unhide HB1) b off e h0)))
      have E8 := hide e8
      have LS8 := hide ls8
      have OS := hide os5
      have HF := hide hf5
      have B5 := hide bb5
      clear z5 ls5 os5 hf5 se5 bb5 hmc hc8 hc9 hc10 e8 ls8 I5 I4
      go_wp2_with fail
      go_at_call 32
      refine (unhide CC).mono ?_
      rintro e V7 ⟨rfl, d7, a7⟩
      have B7 := hide ((unhide B5).trans a7.bel)
      have O7 := hide ((unhide OS).asd a7 (unhide HF))
      have OC := hide (open_calls d7 (show ∃ w0 : World, w0.heap.size = w.heap.size ∧ Tz w0 ∧ Below w.heap.size w0 V7 from ⟨w, rfl, unhide TZ, unhide B7⟩) (by omega))
      rw [unhide E8] at OC
      clear d7 a7 CC
      go_wp2_with fail
      go_at_call 25
      refine (unhide OC).mono ?_
      rintro e V8 ⟨a8, L8, ep8, ec8, hs8, rfl, z8, _⟩
      have B8 := hide ((unhide B7).trans a8.bel)
      have O8 := hide ((unhide O7).asd a8 (unhide HF))
      have SC := hide (state_calls z8 (unhide LS8).ix)
      have hfew := (unhide LS8).few
      clear a8 z8 OC
      go_wp2_with fail
      go_at_call 26
      refine (unhide SC).mono ?_
      rintro e V9 ⟨p5, q5, h5, rfl, o5, v5⟩
      unfold stRow
      have U5 := hide ((Below.refl V9.heap.size V9).alloc (Nat.le_refl _) (.cells #[.int .i64 (c8.bi : Int), .int .i64 (c8.bt : Int), .int .i64 (c8.ht : Int), .int .i64 (c8.hv : Int), .slice p5 c8.es.length q5] 53))
      have X5 := hide (heap_new V9 (.cells #[.int .i64 (c8.bi : Int), .int .i64 (c8.bt : Int), .int .i64 (c8.ht : Int), .int .i64 (c8.hv : Int), .slice p5 c8.es.length q5] 53))
      have O5 := hide (o5.later (unhide U5))
      have U6 := hide (v5.trans ((unhide U5).mono v5.size))
      clear o5 v5 SC
      go_wp2_with fail
      generalize V9.alloc _ = W5 at *
      have O9 := hide ((unhide O8).later (unhide U6))
      have B9 := hide ((unhide B8).trans ((unhide U6).mono (unhide B8).size))
      clear U5 U6 O8
      go_loopw [15] (fun q wr => ∃ y : Nat, y ≤ ms ∧ q = .int .i64 (y : Int) ∧ Hid (∀ j (hj : j < S.length), j < y → S[j] ≠ c8) ∧ Hid (Below W5.heap.size W5 wr)) (fun q _ => ms - (intOf q).toNat)
      case atStart => exact ⟨0, by omega, rfl, hide (fun j hj h => by omega), hide (Below.refl _ _)⟩
      case round =>
        obtain ⟨y, hy, rfl, NE, F⟩ := hrel
        by_cases hym : y < ms
        · have z0 : (0 : Int) ≤ (y : Int) := by omega
          have z1 : (y : Int) < (ms : Int) := by omega
          have hyl : y < S.length := by rw [unhide HM]; exact hym
          obtain ⟨g, pz, qz, hxz, rfl, s0, s1, s2, s3, s4, oz⟩ := ((unhide O9).later (unhide F)).at_ y hyl
          have X6 := hide (later_block (unhide F) (unhide X5))
          have lz := ownL_le oz
          have SA := hide (sameState_any (a := S[y]) (b := c8) (sp := pz) (sp' := p5) (k := qz) (k' := q5) wr.drew (oz.later ((Below.refl _ _).drew)).ents (((unhide O5).later (unhide F)).later ((Below.refl _ _).drew)).ents lz (by omega))
          unfold stRow at SA
          have NX := hide (show S[y] ≠ c8 → ∀ j (hj : j < S.length), j < y + 1 → S[j] ≠ c8 from fun hne j hj h => by
            by_cases h1 : j < y
            · exact unhide NE j hj h1
            · obtain rfl : j = y := by omega
              exact hne)
          have d0 : wr.drew.cell? ⟨g, y * 5, none⟩ = some (.int .i64 (S[y].bi : Int)) := s0
          have d1 : wr.drew.cell? ⟨g, y * 5 + 1, none⟩ = some (.int .i64 (S[y].bt : Int)) := s1
          have d2 : wr.drew.cell? ⟨g, y * 5 + 2, none⟩ = some (.int .i64 (S[y].ht : Int)) := s2
          have d3 : wr.drew.cell? ⟨g, y * 5 + 3, none⟩ = some (.int .i64 (S[y].hv : Int)) := s3
          have d4 : wr.drew.cell? ⟨g, y * 5 + 4, none⟩ = some (.slice pz S[y].es.length qz) := s4
          have e0 : wr.drew.cell? ⟨V9.heap.size, 0, none⟩ = some (.int .i64 (c8.bi : Int)) := box_cell (unhide X6) 0 _ rfl
          have e1 : wr.drew.cell? ⟨V9.heap.size, 1, none⟩ = some (.int .i64 (c8.bt : Int)) := box_cell (unhide X6) 1 _ rfl
          have e2 : wr.drew.cell? ⟨V9.heap.size, 2, none⟩ = some (.int .i64 (c8.ht : Int)) := box_cell (unhide X6) 2 _ rfl
          have e3 : wr.drew.cell? ⟨V9.heap.size, 3, none⟩ = some (.int .i64 (c8.hv : Int)) := box_cell (unhide X6) 3 _ rfl
          have e4 : wr.drew.cell? ⟨V9.heap.size, 4, none⟩ = some (.slice p5 c8.es.length q5) := box_cell (unhide X6) 4 _ rfl
          clear s0 s1 s2 s3 s4 oz lz
          generalize S[y] = sy at *
          have EQ := hide (show ∀ x : Bool, (sy = c8 → x = true) → x = false → sy ≠ c8 from fun x h1 h2 h3 => by rw [h1 h3] at h2; cases h2)
          go_wp2_with fail
          refine wp_region_held_drew (S := fun w' => w'.cell? ⟨g, y * 5, none⟩ = some (.int .i64 (sy.bi : Int)) ∧ w'.cell? ⟨g, y * 5 + 1, none⟩ = some (.int .i64 (sy.bt : Int)) ∧ w'.cell? ⟨g, y * 5 + 2, none⟩ = some (.int .i64 (sy.ht : Int)) ∧ w'.cell? ⟨g, y * 5 + 3, none⟩ = some (.int .i64 (sy.hv : Int)) ∧ w'.cell? ⟨g, y * 5 + 4, none⟩ = some (.slice pz sy.es.length qz) ∧ w'.cell? ⟨V9.heap.size, 0, none⟩ = some (.int .i64 (c8.bi : Int)) ∧ w'.cell? ⟨V9.heap.size, 1, none⟩ = some (.int .i64 (c8.bt : Int)) ∧ w'.cell? ⟨V9.heap.size, 2, none⟩ = some (.int .i64 (c8.ht : Int)) ∧ w'.cell? ⟨V9.heap.size, 3, none⟩ = some (.int .i64 (c8.hv : Int)) ∧ w'.cell? ⟨V9.heap.size, 4, none⟩ = some (.slice p5 c8.es.length q5)) (by kernel_rfl) ?_ (fun hHeld => ?_)
          · try dsimp only
            first | exact ⟨d0, d1, d2, d3, d4, e0, e1, e2, e3, e4⟩ | exact ⟨f0, f1, f2, f3, f4, g0, g1, g2, g3, g4⟩
          refine held_take 0 (oi := { dst := some 159, op := Op.move (Operand.tmp 8), type := 55, pos := "law.go:190", after := #[], guard := none }) (v := ?_) (by kernel_rfl) rfl (by rfl) (by kernel_rfl) (by kernel_rfl) (fun _ _ _ h => h) ?_ (by assumption) ?_
          rotate_left
          · (intro w hSw; (try dsimp only at hSw); go_simp; try with_reducible rfl)
          try simp only [Act.put, List.setIfInBounds_toArray, List.set_cons_zero, List.set_cons_succ]
          refine held_take 1 (oi := { dst := some 160, op := Op.move (Operand.tmp 15), type := 3, pos := "law.go:190", after := #[], guard := none }) (v := ?_) (by kernel_rfl) rfl (by rfl) (by kernel_rfl) (by kernel_rfl) (fun _ _ _ h => h) ?_ (by assumption) ?_
          rotate_left
          · (intro w hSw; (try dsimp only at hSw); go_simp; try with_reducible rfl)
          try simp only [Act.put, List.setIfInBounds_toArray, List.set_cons_zero, List.set_cons_succ]
          refine held_take 2 (oi := { dst := some 161, op := Op.indexAddr 55 (Operand.tmp 159) (Operand.tmp 160), type := 0, pos := "law.go:190", after := #[{ on := 0, ground := Ground.data }, { on := 1, ground := Ground.data }], guard := none }) (v := ?_) (by kernel_rfl) rfl (by rfl) (by kernel_rfl) (by kernel_rfl) (fun _ _ _ h => h) ?_ (by assumption) ?_
          rotate_left
          · (intro w hSw; (try dsimp only at hSw); go_simp; try with_reducible rfl)
          try simp only [Act.put, List.setIfInBounds_toArray, List.set_cons_zero, List.set_cons_succ]
          refine held_take 3 (oi := { dst := some 162, op := Op.load 53 (Operand.tmp 161), type := 53, pos := "law.go:190", after := #[{ on := 2, ground := Ground.data }], guard := none }) (v := ?_) (by kernel_rfl) rfl (by rfl) (by kernel_rfl) (by kernel_rfl) (fun _ _ _ h => h) ?_ (by assumption) ?_
          rotate_left
          · (intro w hSw; (try dsimp only at hSw); go_simp; try with_reducible rfl)
          try simp only [Act.put, List.setIfInBounds_toArray, List.set_cons_zero, List.set_cons_succ]
          refine held_take 4 (oi := { dst := some 163, op := Op.load 53 (Operand.tmp 14), type := 53, pos := "law.go:190", after := #[], guard := none }) (v := ?_) (by kernel_rfl) rfl (by rfl) (by kernel_rfl) (by kernel_rfl) (fun _ _ _ h => h) ?_ (by assumption) ?_
          rotate_left
          · (intro w hSw; (try dsimp only at hSw); go_simp; try with_reducible rfl)
          try simp only [Act.put, List.setIfInBounds_toArray, List.set_cons_zero, List.set_cons_succ]
          refine held_one 5 (oi := { dst := some 164, op := Op.call { callee := Callee.value (Operand.func 33), args := #[Operand.tmp 162, Operand.tmp 163], argTypes := #[53, 53] }, type := 4, pos := "law.go:190", after := #[{ on := 3, ground := Ground.data }, { on := 4, ground := Ground.data }], guard := none }) (by kernel_rfl) rfl (fun K hK => ?_)
          go_simp
          first
            | (go_at_call 33
               refine (unhide SA).mono ?_
               rintro e V6 ⟨x6, rfl, hx6, v6⟩
               have f0 := cell_later v6 d0
               have f1 := cell_later v6 d1
               have f2 := cell_later v6 d2
               have f3 := cell_later v6 d3
               have f4 := cell_later v6 d4
               have g0 := cell_later v6 e0
               have g1 := cell_later v6 e1
               have g2 := cell_later v6 e2
               have g3 := cell_later v6 e3
               have g4 := cell_later v6 e4
               have F6 := hide ((unhide F).trans ((show Below wr.heap.size wr V6 from ⟨v6.os, v6.tape, v6.output, v6.size, v6.block⟩).mono (unhide F).size))
               have HX6 := hide hx6
               clear v6 hx6)
          go_wp2_with fail
          refine hK.out _ _ ?_ (fun hHeld => ?_)
          · try dsimp only
            first | exact ⟨d0, d1, d2, d3, d4, e0, e1, e2, e3, e4⟩ | exact ⟨f0, f1, f2, f3, f4, g0, g1, g2, g3, g4⟩
          clear hK K
          try simp only [Act.put, List.setIfInBounds_toArray, List.set_cons_zero, List.set_cons_succ]
          refine wpAnyH_done (by kernel_rfl) ?_ _
          clear d0 d1 d2 d3 d4 e0 e1 e2 e3 e4 f0 f1 f2 f3 f4 g0 g1 g2 g3 g4
          have B10 := hide ((unhide B9).trans ((unhide F6).mono (unhide B9).size))
          cases x6 with
          | true =>
            go_wp2_with fail
            go_at_call 18
            refine (live6_calls _ ((unhide TZ).later (unhide B10))).mono ?_
            rintro e Va ⟨rfl, va⟩
            have Ba := hide ((unhide B10).trans (va.mono (unhide B10).size))
            clear va
            go_wp2
            go_ret
            exact ⟨rfl, unhide Ba⟩
          | false =>
            have NE2 := hide (unhide NX (unhide EQ false (unhide HX6) rfl))
            go_wp2
            exact ⟨⟨y + 1, by omega, by go_num, NE2, F6⟩, by simp [intOf]; omega⟩
        · exfalso
          obtain ⟨j, hj, he⟩ := List.getElem_of_mem (unhide MEM)
          exact unhide NE j hj (by have := unhide HM; omega) he
end Go.Proofs.YtijcpmbfhfppmaaGreatDoor.walLasts
