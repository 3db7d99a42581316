/- Proved: on a full disk nothing is kept that was refused, and nothing that was there is lost, for every room and deeds; no condition beyond the tables that the row lists (tz_of). -/
import Derived.Test.YtijcpmbfhfppmaaGreatDoorB26
import Derived.Test.YtijcpmbfhfppmaaGreatDoorB30
import Derived.Test.YtijcpmbfhfppmaaGreatDoorB31
import Derived.Test.YtijcpmbfhfppmaaGreatDoorB27
import Derived.Deep.CutBlock
import Derived.Deep.CutRange
import Derived.Deep.DeepCutAuto
import Derived.Test.YtijcpmbfhfppmaaGreatDoorTie
import Derived.Test.YtijcpmbfhfppmaaGreatDoorCards
import Derived.Lay
import Derived.MakeChecks
import Derived.SevenTiedAt
import Derived.Stop.Joined
namespace Go.Proofs.YtijcpmbfhfppmaaGreatDoor.walFull
open Go.ChangeShapes Go.WideShapes Go.ChangeAt Go.RowKit
set_option linter.unusedVariables false

theorem own : ownKnob Tryz.prog.godebug = none := by kernel_rfl
theorem laidOut : laidOutB Tryz.prog = true := by kernel_rfl

def Fu (base : Nat) (w0 wr : World) (L d M R : Nat) (c : Wc) (i : Nat) : Prop := ∃ N ss n r1 r2 ep ec hs, WAt (fun _ => False) base wr L d M R N ss c n ep ec hs ∧ LS R ss c n r1 r2 ∧ N ≤ 2 + 2 * i ∧ c.es.length ≤ 300 * i ∧ Below base w0 wr
def Fx (Av : Nat → Prop) (base : Nat) (W1 wr : World) (L d M R : Nat) (c : Wc) (e i : Nat) : Prop := ∃ N ss c' n r1 r2 ep ec hs, WAt Av base wr L d M R N ss c' n ep ec hs ∧ LS R ss c' n r1 r2 ∧ N ≤ 2 + 2 * (i + 1) ∧ c'.es.length ≤ 300 * (i + 1) ∧ (e ≠ 0 → c' = c) ∧ Asd Av base W1 wr
section
variable {Av : Nat → Prop} {base : Nat} {W1 W V : World} {L d M R N i k : Nat} {ss : Ds} {c : Wc} {n : Nat} {ep : Option Addr} {ec : Nat} {hs : List (Option Addr × Nat)} {r1 r2 : List (List Nat)} {e : Ending} {P : Prop}
theorem Fx.put (h : PutEnd Av base L d M R (N + 2) W c n r1 r2 k e V) (ha : Asd Av base W1 W) (hN : N ≤ 2 + 2 * i) (hl : c.es.length ≤ 300 * i) : ∃ r : Nat, e = .returned (.int .i64 (r : Int)) ∧ Fx Av base W1 V L d M R c r i := by
  obtain ⟨r, ss', c', ep', ec', hs', rs, rfl, z', ls', ne, _, le, a'⟩ := h
  exact ⟨r, rfl, _, _, _, _, _, _, _, _, _, z', ls', by omega, by omega, ne, ha.trans a'⟩
theorem Fx.syn (h : SynEnd Av base L d M R N W c n r1 r2 e V) (ha : Asd Av base W1 W) (hN : N ≤ 2 + 2 * i) (hl : c.es.length ≤ 300 * i) : ∃ r : Nat, e = .returned (.int .i64 (r : Int)) ∧ Fx Av base W1 V L d M R c r i := by
  obtain ⟨ss', ep', ec', hs', rfl, z', ls', a'⟩ := h
  exact ⟨0, rfl, _, _, _, _, _, _, _, _, _, z', ls', by omega, by omega, fun _ => rfl, ha.trans a'⟩
theorem Fx.new (h : NewEnd P Av base L d M R (N + 1) W ss c n e V) (ls : LS R ss c n r1 r2) (ha : Asd Av base W1 W) (hN : N ≤ 2 + 2 * i) (hl : c.es.length ≤ 300 * i) : ∃ r : Nat, e = .returned (.int .i64 (r : Int)) ∧ Fx Av base W1 V L d M R c r i := by
  obtain ⟨r, ss', c', n', ep', ec', hs', rfl, z', a', le, h | h⟩ := h
  · obtain ⟨rfl, _, r1', ls'⟩ := h
    exact ⟨0, rfl, _, _, _, _, _, _, _, _, _, z', ls', by omega, by omega, fun h => absurd rfl h, ha.trans a'⟩
  · obtain ⟨rfl, rfl, rfl, _⟩ := h
    exact ⟨r, rfl, _, _, _, _, _, _, _, _, _, z', ls, by omega, by omega, fun _ => rfl, ha.trans a'⟩
theorem Fx.same (z : WAt Av base V L d M R N ss c n ep ec hs) (ls : LS R ss c n r1 r2) (ha : Asd Av base W1 V) (hN : N ≤ 2 + 2 * i) (hl : c.es.length ≤ 300 * i) : Fx Av base W1 V L d M R c 0 i :=
  ⟨_, _, _, _, _, _, _, _, _, z, ls, by omega, by omega, fun _ => rfl, ha⟩
end
set_option maxRecDepth 20000 in
set_option maxHeartbeats 16000000 in
theorem walk (n0 : Nat) (a1 : Option Addr) (c1 : Nat) (l1 : List Wd) (w : World) (hn0 : n0 < 65536) (hx1 : l1.length ≤ maxLen) (hb1 : WdsAt w a1 l1) (hTz : Tz w) :
    Calls Tryz.prog 10 #[.int .u16 (n0 : Int), .slice a1 l1.length c1] w fun e w' => e = .returned (.bool true) ∧ Below w.heap.size w w' := by
  have TZ := hide hTz
  have HB1 := hide hb1
  simp only [maxLen] at hx1
  have hrem : (n0 : Int).tmod 600 = ((n0 % 600 : Nat) : Int) := by
    rw [Int.tmod_eq_emod_of_nonneg (by omega)]
    omega
  have hR : n0 % 600 < 600 := by omega
  generalize n0 % 600 = R at *
  have NC := hide (anew_calls w (R : Int))
  rw [Int.toNat_natCast] at NC
  generalize hq1 : l1.length = m1 at *
  have Q1 := hide hq1
  clear hTz hb1 hq1
  go_enter Tryz.func10, Tryz.ntmps10
  go_wp2_with fail
  go_at_call 24
  refine (unhide NC).mono ?_
  rintro e V1 ⟨d, M, rfl, h1, v1⟩
  have TT := hide (show ∃ w0 : World, w0.heap.size = w.heap.size ∧ Tz w0 ∧ Below w.heap.size w0 V1 from ⟨w, rfl, unhide TZ, v1⟩)
  have OC := hide (open_calls h1 (unhide TT) (by omega))
  have A1 := hide v1
  clear h1 v1 NC
  by_cases h22 : R < 22
  · have y22 : (R : Int) < 22 := by omega
    rw [wOpen_none, if_pos h22] at OC
    go_wp2_with fail
    go_at_call 25
    refine (unhide OC).mono ?_
    rintro e V2 ⟨a2, rfl, d2⟩
    have B2 := hide ((unhide A1).trans a2.bel)
    clear a2 d2 OC TT
    rw [show ((9 : Nat) : Int) = 9 from rfl]
    go_wp2_with fail
    go_at_call 18
    refine (live6_calls _ ((unhide TZ).later (unhide B2))).mono ?_
    rintro e V3 ⟨rfl, v3⟩
    have B3 := hide ((unhide B2).trans (v3.mono (unhide B2).size))
    clear v3
    go_wp2
    go_ret
    exact ⟨rfl, unhide B3⟩
  · rw [(LS.begin (show 22 ≤ R by omega)).1] at OC
    go_wp2_with fail
    go_at_call 25
    refine (unhide OC).mono ?_
    rintro e V2 ⟨a2, L, ep, ec, hs, rfl, z2, _⟩
    have I2 := hide (show Fu w.heap.size w V2 L d M R wc0 0 from ⟨_, _, _, _, _, _, _, _, z2, (LS.begin (by omega)).2, by omega, by simp [wc0], (unhide A1).trans a2.bel⟩)
    clear a2 z2 OC TT A1
    go_upto_block 0 with fail
    go_cut [8, 9, 10, 11] (fun q _ _ _ wc => ∃ (j : Nat) (c : Wc), j ≤ m1 ∧ j ≤ 60 ∧ q = .int .i64 (j : Int) ∧ Hid (Fu w.heap.size w wc L d M R c j))
    case first =>
      go_wp2_with fail
      go_loopw [8, 9, 10, 11] (fun q _ _ _ wr => ∃ (j : Nat) (c : Wc), j ≤ m1 ∧ j ≤ 60 ∧ q = .int .i64 (j : Int) ∧ Hid (Fu w.heap.size w wr L d M R c j)) (fun q _ _ _ _ => 60 - (intOf q).toNat)
      case atStart => exact ⟨0, wc0, by omega, by omega, rfl, I2⟩
      case round =>
        obtain ⟨j, c, hj, hj6, rfl, I3⟩ := hrel
        by_cases hj1 : j < m1
        · have y1 : (j : Int) < (m1 : Int) := by omega
          by_cases hj2 : j < 60
          · have y0 : (0 : Int) ≤ (j : Int) := by omega
            have y2 : (j : Int) < 60 := by omega
            have hjl : j < l1.length := by rw [unhide Q1]; exact hj1
            obtain ⟨N, ss, n, r1, r2, ep3, ec3, hs3, z3, ls3, N3, le3, bb3⟩ := unhide I3
            obtain ⟨b, off, h, rfl, ⟨q0, q1, q2, q3, q4, q5, q6⟩, hA⟩ := (unhide HB1).cell j hjl
            have p0 := cell_later bb3 q0
            have p1 := cell_later bb3 q1
            have p2 := cell_later bb3 q2
            have p3 := cell_later bb3 q3
            have p4 := cell_later bb3 q4
            have p5 := cell_later bb3 q5
            have p6 := cell_later bb3 q6
            clear q0 q1 q2 q3 q4 q5 q6
            generalize l1[j] = x at *
            obtain ⟨kd, es, ht, hv, mi, mt, kp⟩ := x
            dsimp only at p0 p1 p2 p3 p4 p5 p6
            have HA := hide hA
            have EI := hide (show EntsIn (fun g => g < w.heap.size) w h.ep es from EntsIn.ofLt hA.en)
            have WI := hide hA.wi
            have U1 := hide ((Below.refl wr.heap.size wr).alloc (Nat.le_refl _) (.cells #[.int .i64 kd, .slice h.ep es.length h.ec, .int .i64 ht, .int .i64 hv, .int .i64 mi, .int .i64 mt, .slice h.kp kp.length h.kc] 34))
            have X1 := hide (heap_new wr (.cells #[.int .i64 kd, .slice h.ep es.length h.ec, .int .i64 ht, .int .i64 hv, .int .i64 mi, .int .i64 mt, .slice h.kp kp.length h.kc] 34))
            have SC := hide (state_calls (z3.more (unhide U1)) ls3.ix)
            have Z3 := hide z3
            have LS3 := hide ls3
            have B3 := hide bb3
            clear z3 ls3 hA bb3
            go_wp2_with fail
            clear p0 p1 p2 p3 p4 p5 p6
            generalize wr.alloc _ = W1 at *
            go_at_call 26
            refine (unhide SC).mono ?_
            rintro e V2 ⟨sp2, k2, hs2, rfl, o2, v2⟩
            unfold stRow
            have X2 := hide (later_block v2 (unhide X1))
            have U2 := hide ((unhide U1).trans (v2.mono (unhide U1).size))
            have S2 := hide (show W1.heap.size ≤ V2.heap.size from v2.size)
            have U3 := hide ((Below.refl V2.heap.size V2).alloc (Nat.le_refl _) (.cells #[.int .i64 (c.bi : Int), .int .i64 (c.bt : Int), .int .i64 (c.ht : Int), .int .i64 (c.hv : Int), .slice sp2 c.es.length k2] 53))
            have X3 := hide (heap_new V2 (.cells #[.int .i64 (c.bi : Int), .int .i64 (c.bt : Int), .int .i64 (c.ht : Int), .int .i64 (c.hv : Int), .slice sp2 c.es.length k2] 53))
            have O3 := hide ((o2.later (unhide U3)))
            clear o2 v2 SC
            go_upto_block 2 with fail
            generalize V2.alloc _ = W3 at *
            have U4 := hide ((unhide U2).trans ((unhide U3).mono (unhide U2).size))
            have Z4 := hide ((unhide Z3).more (unhide U4))
            have X4 := hide (later_block (unhide U3) (unhide X2))
            obtain ⟨Av, hAv⟩ : ∃ P : Nat → Prop, P = (fun g => False ∨ (wr.heap.size ≤ g ∧ g < W3.heap.size)) := ⟨_, rfl⟩
            rw [← hAv] at Z4
            have HV := hide (show ∀ g, wr.heap.size ≤ g → g < W3.heap.size → Av g from fun g h1 h2 => by rw [hAv]; exact .inr ⟨h1, h2⟩)
            clear hAv
            have B4 := hide ((unhide B3).trans ((unhide U4).mono (unhide B3).size))
            have E4 := hide (show EntsIn (fun g => g < w.heap.size ∨ False) W3 h.ep es from ((unhide EI).sub (fun g hg => .inl hg)).asd ⟨fun g hg => hg.elim, unhide B4⟩)
            have SH := hide (short6_calls ⟨kd, es, ht, hv, mi, mt, kp⟩ h W3 ((unhide HA).later (unhide B4)))
            unfold wdRow at SH
            dsimp only at SH
            have LX := hide (show V2.heap.size < W3.heap.size from (Array.getElem?_eq_some_iff.1 (unhide X3)).1)
            have S0 := hide (show wr.heap.size < W1.heap.size from (Array.getElem?_eq_some_iff.1 (unhide X1)).1)
            clear X1 X2 U1 U2 I3 EI HA
            go_cut [11] from 40 to 107 (fun v wc => ∃ e : Nat, v = .int .i64 (e : Int) ∧ Hid (Fx Av w.heap.size W3 wc L d M R c e j))
            case first =>
              have x0 : W3.cell? ⟨wr.heap.size, 0, none⟩ = some (.int .i64 kd) := box_cell (unhide X4) 0 _ rfl
              have x1 : W3.cell? ⟨wr.heap.size, 1, none⟩ = some (.slice h.ep es.length h.ec) := box_cell (unhide X4) 1 _ rfl
              have x2 : W3.cell? ⟨wr.heap.size, 2, none⟩ = some (.int .i64 ht) := box_cell (unhide X4) 2 _ rfl
              have x3 : W3.cell? ⟨wr.heap.size, 3, none⟩ = some (.int .i64 hv) := box_cell (unhide X4) 3 _ rfl
              have x4 : W3.cell? ⟨wr.heap.size, 4, none⟩ = some (.int .i64 mi) := box_cell (unhide X4) 4 _ rfl
              have x5 : W3.cell? ⟨wr.heap.size, 5, none⟩ = some (.int .i64 mt) := box_cell (unhide X4) 5 _ rfl
              have x6 : W3.cell? ⟨wr.heap.size, 6, none⟩ = some (.slice h.kp kp.length h.kc) := box_cell (unhide X4) 6 _ rfl
              go_wp2_with fail
              clear x0 x1 x2 x3 x4 x5 x6
              go_at_call 15
              refine (unhide SH).mono ?_
              rintro e V4 ⟨b4, rfl, hb4, v4⟩
              have Z5 := hide ((unhide Z4).later v4)
              have A5 := hide (((unhide Z4).asdB v4).sub (Bv := Av) (fun g hg => .inl hg))
              have X5 := hide (later_block v4 (unhide X4))
              have E5 := hide (((unhide E4).asd (Av := fun _ => False) (base := w.heap.size) (w' := V4) ⟨fun g hg => hg.elim, v4.mono (unhide Z4).dk.le⟩).sub (Q := fun g => g < w.heap.size ∨ Av g) (fun g hg => hg.imp id (fun h => h.elim)))
              have H4 := hide hb4
              clear hb4 v4 SH
              cases b4 with
              | false =>
                have FF := hide (Fx.same (unhide Z5) (unhide LS3) (unhide A5) N3 le3)
                go_wp2_with fail
                go_meet
                case rel => exact ⟨0, rfl, FF⟩
              | true =>
                have h6 := (unhide H4 rfl).1
                dsimp only at h6
                have x0 : V4.cell? ⟨wr.heap.size, 0, none⟩ = some (.int .i64 kd) := box_cell (unhide X5) 0 _ rfl
                have x1 : V4.cell? ⟨wr.heap.size, 1, none⟩ = some (.slice h.ep es.length h.ec) := box_cell (unhide X5) 1 _ rfl
                have x2 : V4.cell? ⟨wr.heap.size, 2, none⟩ = some (.int .i64 ht) := box_cell (unhide X5) 2 _ rfl
                have x3 : V4.cell? ⟨wr.heap.size, 3, none⟩ = some (.int .i64 hv) := box_cell (unhide X5) 3 _ rfl
                have x4 : V4.cell? ⟨wr.heap.size, 4, none⟩ = some (.int .i64 mi) := box_cell (unhide X5) 4 _ rfl
                have x5 : V4.cell? ⟨wr.heap.size, 5, none⟩ = some (.int .i64 mt) := box_cell (unhide X5) 5 _ rfl
                by_cases k0 : kd = 0
                · subst k0
                  have AC := hide (append_do (unhide Z5) (unhide LS3) (by omega) (by omega) h.ep es.length h.ec es rfl (unhide E5) h6 (by omega))
                  go_wp2_with fail
                  go_at_call 27
                  refine (unhide AC).mono ?_
                  rintro e V5 hE
                  obtain ⟨r, rfl, fx⟩ := Fx.put hE (unhide A5) N3 le3
                  have FF := hide fx
                  clear hE fx
                  go_wp2_with fail
                  go_meet
                  case rel => exact ⟨r, rfl, FF⟩
                · have k0' : (kd == 0) = false := by simp [k0]
                  by_cases k1 : kd = 1
                  · subst k1
                    have AC := hide (hard_do (unhide Z5) (unhide LS3) (by omega) (by omega) ht hv)
                    go_wp2_with fail
                    go_at_call 28
                    refine (unhide AC).mono ?_
                    rintro e V5 hE
                    obtain ⟨r, rfl, fx⟩ := Fx.put hE (unhide A5) N3 le3
                    have FF := hide fx
                    clear hE fx
                    go_wp2_with fail
                    go_meet
                    case rel => exact ⟨r, rfl, FF⟩
                  · have k1' : (kd == 1) = false := by simp [k1]
                    by_cases k2 : kd = 2
                    · subst k2
                      have AC := hide (sync_do (unhide Z5) (unhide LS3))
                      go_wp2_with fail
                      go_at_call 29
                      refine (unhide AC).mono ?_
                      rintro e V5 hE
                      obtain ⟨r, rfl, fx⟩ := Fx.syn hE (unhide A5) N3 le3
                      have FF := hide fx
                      clear hE fx
                      go_wp2_with fail
                      go_meet
                      case rel => exact ⟨r, rfl, FF⟩
                    · have k2' : (kd == 2) = false := by simp [k2]
                      by_cases k3 : kd = 3
                      · subst k3
                        have AC := hide (compact_do (unhide Z5) (unhide LS3) (by omega) mi (unhide WI))
                        go_wp2_with fail
                        go_at_call 30
                        refine (unhide AC).mono ?_
                        rintro e V5 hE
                        obtain ⟨r, rfl, fx⟩ := Fx.new hE (unhide LS3) (unhide A5) N3 le3
                        have FF := hide fx
                        clear hE fx
                        go_wp2_with fail
                        go_meet
                        case rel => exact ⟨r, rfl, FF⟩
                      · have k3' : (kd == 3) = false := by simp [k3]
                        by_cases k4 : kd = 4
                        · subst k4
                          have AC := hide (reset_do (unhide Z5) (unhide LS3) (by omega) mi mt)
                          go_wp2_with fail
                          go_at_call 31
                          refine (unhide AC).mono ?_
                          rintro e V5 hE
                          obtain ⟨r, rfl, fx⟩ := Fx.new hE (unhide LS3) (unhide A5) N3 le3
                          have FF := hide fx
                          clear hE fx
                          go_wp2_with fail
                          go_meet
                          case rel => exact ⟨r, rfl, FF⟩
                        · have k4' : (kd == 4) = false := by simp [k4]
                          have FF := hide (Fx.same (unhide Z5) (unhide LS3) (unhide A5) N3 le3)
                          go_wp2_with fail
                          go_meet
                          case rel => exact ⟨0, rfl, FF⟩
            case rest =>
              obtain ⟨e, rfl, X9⟩ := hcut
              obtain ⟨N9, ss9, c9, n9, s1, s2, ep9, ec9, hs9, z9, ls9, n9', le9, ne9, a9⟩ := unhide X9
              have Z9 := hide z9
              have L9 := hide ls9
              have B9 := hide ((unhide B4).trans a9.bel)
              have XB := hide ((a9.av V2.heap.size (unhide HV _ (by have := unhide S2; have := unhide S0; omega) (unhide LX))).trans (unhide X3))
              have OB := hide ((unhide O3).same (w' := wc) (fun g hg => a9.av g (unhide HV g (by have := ((unhide O3).foot g hg).1; have := unhide S0; omega) ((unhide O3).foot g hg).2.1)))
              clear z9 ls9 a9 X9 X3 X4 O3
              by_cases he : e = 0
              · subst he
                rw [show ((0 : Nat) : Int) = 0 from rfl]
                have FF := hide (show ∀ k, Fu w.heap.size w (wc.drewN k) L d M R c9 (j + 1) from fun k => by
                  have u : Below wc.heap.size wc (wc.drewN k) := ⟨rfl, rfl, rfl, Nat.le_refl _, fun _ _ => rfl⟩
                  exact ⟨_, _, _, _, _, _, _, _, ((unhide Z9).later u).sub (fun g hg => hg.elim), unhide L9, n9', le9, (unhide B9).trans (u.mono (unhide B9).size)⟩)
                go_wp2_with fail
                go_quiet (fail)
                go_wp2
                exact ⟨⟨j + 1, c9, by omega, by omega, by go_num, unhide FF _⟩, by simp [intOf]; omega⟩
              · obtain rfl := ne9 he
                have he0 : ¬ (e : Int) = 0 := by omega
                generalize (e : Int) = ei at *
                have he1 : (ei == 0) = false := by simp [he0]
                have he2 : decide (ei = 0) = false := by simp [he0]
                have he3 : (ei != 0) = true := by simp [he0]
                clear he ne9
                have SC := hide (state_calls ((unhide Z9).later ((Below.refl _ _).drew)) (unhide L9).ix)
                have d0 : wc.drew.cell? ⟨V2.heap.size, 0, none⟩ = some (.int .i64 (c9.bi : Int)) := box_cell (unhide XB) 0 _ rfl
                have d1 : wc.drew.cell? ⟨V2.heap.size, 1, none⟩ = some (.int .i64 (c9.bt : Int)) := box_cell (unhide XB) 1 _ rfl
                have d2 : wc.drew.cell? ⟨V2.heap.size, 2, none⟩ = some (.int .i64 (c9.ht : Int)) := box_cell (unhide XB) 2 _ rfl
                have d3 : wc.drew.cell? ⟨V2.heap.size, 3, none⟩ = some (.int .i64 (c9.hv : Int)) := box_cell (unhide XB) 3 _ rfl
                have d4 : wc.drew.cell? ⟨V2.heap.size, 4, none⟩ = some (.slice sp2 c9.es.length k2) := box_cell (unhide XB) 4 _ rfl
                have EB := hide (show EntsAt wc.drew sp2 (c9.es.map toI) from ((unhide OB).later ((Below.refl _ _).drew)).ents)
                have FF := hide (show ∀ V, Below wc.heap.size wc V → Fu w.heap.size w V L d M R c9 (j + 1) from fun V u => ⟨_, _, _, _, _, _, _, _, ((unhide Z9).later u).sub (fun g hg => hg.elim), unhide L9, n9', le9, (unhide B9).trans (u.mono (unhide B9).size)⟩)
                have LE := hide (show c9.es.length ≤ 9223372036854775807 by omega)
                have SRD := hide (show ∀ sp k, (stRow c9 sp k) = #[.int .i64 (c9.bi : Int), .int .i64 (c9.bt : Int), .int .i64 (c9.ht : Int), .int .i64 (c9.hv : Int), .slice sp c9.es.length k] from fun _ _ => rfl)
                go_wp2_with fail
                refine wp_region_held_drew (S := fun w' => w'.cell? ⟨V2.heap.size, 0, none⟩ = some (.int .i64 (c9.bi : Int)) ∧ w'.cell? ⟨V2.heap.size, 1, none⟩ = some (.int .i64 (c9.bt : Int)) ∧ w'.cell? ⟨V2.heap.size, 2, none⟩ = some (.int .i64 (c9.ht : Int)) ∧ w'.cell? ⟨V2.heap.size, 3, none⟩ = some (.int .i64 (c9.hv : Int)) ∧ w'.cell? ⟨V2.heap.size, 4, none⟩ = some (.slice sp2 c9.es.length k2)) (by kernel_rfl) ?_ (fun hHeld => ?_)
                · try dsimp only
                  first | exact ⟨d0, d1, d2, d3, d4⟩ | exact ⟨e0, e1, e2, e3, e4⟩ | exact ⟨f0, f1, f2, f3, f4⟩
                refine held_take 0 (oi := { dst := some 99, op := Op.move (Operand.tmp 11), type := 49, pos := "law.go:340", after := #[], guard := none }) (v := ?_) (by kernel_rfl) rfl (by rfl) (by kernel_rfl) (by kernel_rfl) (fun _ _ _ h => h) ?_ (by assumption) ?_
                rotate_left
                · (intro w hSw; (try dsimp only at hSw); go_simp; try with_reducible rfl)
                try simp only [Act.put, List.setIfInBounds_toArray, List.set_cons_zero, List.set_cons_succ]
                refine held_take 1 (oi := { dst := some 100, op := Op.binOp BinOp.neq 49 (Operand.tmp 99) (Operand.const (Value.int IntKind.i64 0)) 49, type := 4, pos := "law.go:340", after := #[{ on := 0, ground := Ground.data }], guard := none }) (v := ?_) (by kernel_rfl) rfl (by rfl) (by kernel_rfl) (by kernel_rfl) (fun _ _ _ h => h) ?_ (by assumption) ?_
                rotate_left
                · (intro w hSw; (try dsimp only at hSw); go_simp; try with_reducible rfl)
                try simp only [Act.put, List.setIfInBounds_toArray, List.set_cons_zero, List.set_cons_succ]
                refine held_take 2 (oi := { dst := some 101, op := Op.move (Operand.tmp 100), type := 4, pos := "law.go:340", after := #[{ on := 1, ground := Ground.data }], guard := none }) (v := ?_) (by kernel_rfl) rfl (by rfl) (by kernel_rfl) (by kernel_rfl) (fun _ _ _ h => h) ?_ (by assumption) ?_
                rotate_left
                · (intro w hSw; (try dsimp only at hSw); go_simp; try with_reducible rfl)
                try simp only [Act.put, List.setIfInBounds_toArray, List.set_cons_zero, List.set_cons_succ]
                refine held_take 3 (oi := { dst := some 102, op := Op.move (Operand.tmp 6), type := 39, pos := "law.go:340", after := #[{ on := 2, ground := Ground.guard }], guard := some (2, true) }) (v := ?_) (by kernel_rfl) rfl (by rfl) (by kernel_rfl) (by kernel_rfl) (fun _ _ _ h => h) ?_ (by assumption) ?_
                rotate_left
                · (intro w hSw; (try dsimp only at hSw); go_simp; try with_reducible rfl)
                try simp only [Act.put, List.setIfInBounds_toArray, List.set_cons_zero, List.set_cons_succ]
                refine held_take 5 (oi := { dst := some 104, op := Op.load 53 (Operand.tmp 10), type := 53, pos := "law.go:340", after := #[{ on := 2, ground := Ground.guard }], guard := some (2, true) }) (v := ?_) (by kernel_rfl) rfl (by rfl) (by kernel_rfl) (by kernel_rfl) (fun _ _ _ h => h) ?_ (by assumption) ?_
                rotate_left
                · (intro w hSw; (try dsimp only at hSw); go_simp; try with_reducible rfl)
                try simp only [Act.put, List.setIfInBounds_toArray, List.set_cons_zero, List.set_cons_succ]
                refine held_one 4 (oi := { dst := some 103, op := Op.call { callee := Callee.value (Operand.func 26), args := #[Operand.tmp 102], argTypes := #[39] }, type := 53, pos := "law.go:340", after := #[{ on := 3, ground := Ground.data }, { on := 2, ground := Ground.chain }, { on := 2, ground := Ground.guard }], guard := some (2, true) }) (by kernel_rfl) rfl (fun K hK => ?_)
                go_simp
                first
                  | (go_at_call 26
                     refine (unhide SC).mono ?_
                     rintro e V5 ⟨sp5, k5, hs5, rfl, o5, v5⟩
                     unfold stRow
                     have e0 := cell_later v5 d0
                     have e1 := cell_later v5 d1
                     have e2 := cell_later v5 d2
                     have e3 := cell_later v5 d3
                     have e4 := cell_later v5 d4
                     have U5 := hide (show Below wc.heap.size wc V5 from ⟨v5.os, v5.tape, v5.output, v5.size, v5.block⟩)
                     have SA := hide (sameState_any (k := k5) (k' := k2) V5 o5.ents ((unhide EB).later v5) (unhide LE) (unhide LE))
                     unfold stRow at SA
                     clear o5 v5)
                  | (go_at_call 33
                     refine (unhide SA).mono ?_
                     rintro e V6 ⟨x6, rfl, hx6, v6⟩
                     obtain rfl : x6 = true := by first | exact hx6 rfl | exact hx6 trivial
                     have f0 := cell_later v6 e0
                     have f1 := cell_later v6 e1
                     have f2 := cell_later v6 e2
                     have f3 := cell_later v6 e3
                     have f4 := cell_later v6 e4
                     have U6 := hide ((unhide U5).trans (v6.mono (unhide U5).size))
                     clear v6 hx6)
                go_wp2_with fail
                refine hK.out _ _ ?_ (fun hHeld => ?_)
                · try dsimp only
                  first | exact ⟨d0, d1, d2, d3, d4⟩ | exact ⟨e0, e1, e2, e3, e4⟩ | exact ⟨f0, f1, f2, f3, f4⟩
                clear hK K
                try simp only [Act.put, List.setIfInBounds_toArray, List.set_cons_zero, List.set_cons_succ]
                refine held_one 6 (oi := { dst := some 105, op := Op.call { callee := Callee.value (Operand.func 33), args := #[Operand.tmp 103, Operand.tmp 104], argTypes := #[53, 53] }, type := 4, pos := "law.go:340", after := #[{ on := 4, ground := Ground.data }, { on := 5, ground := Ground.data }, { on := 4, ground := Ground.chain }, { on := 2, ground := Ground.guard }], guard := some (2, true) }) (by kernel_rfl) rfl (fun K hK => ?_)
                go_simp
                first
                  | (go_at_call 26
                     refine (unhide SC).mono ?_
                     rintro e V5 ⟨sp5, k5, hs5, rfl, o5, v5⟩
                     unfold stRow
                     have e0 := cell_later v5 d0
                     have e1 := cell_later v5 d1
                     have e2 := cell_later v5 d2
                     have e3 := cell_later v5 d3
                     have e4 := cell_later v5 d4
                     have U5 := hide (show Below wc.heap.size wc V5 from ⟨v5.os, v5.tape, v5.output, v5.size, v5.block⟩)
                     have SA := hide (sameState_any (k := k5) (k' := k2) V5 o5.ents ((unhide EB).later v5) (unhide LE) (unhide LE))
                     unfold stRow at SA
                     clear o5 v5)
                  | (go_at_call 33
                     refine (unhide SA).mono ?_
                     rintro e V6 ⟨x6, rfl, hx6, v6⟩
                     obtain rfl : x6 = true := by first | exact hx6 rfl | exact hx6 trivial
                     have f0 := cell_later v6 e0
                     have f1 := cell_later v6 e1
                     have f2 := cell_later v6 e2
                     have f3 := cell_later v6 e3
                     have f4 := cell_later v6 e4
                     have U6 := hide ((unhide U5).trans (v6.mono (unhide U5).size))
                     clear v6 hx6)
                go_wp2_with fail
                refine hK.out _ _ ?_ (fun hHeld => ?_)
                · try dsimp only
                  first | exact ⟨d0, d1, d2, d3, d4⟩ | exact ⟨e0, e1, e2, e3, e4⟩ | exact ⟨f0, f1, f2, f3, f4⟩
                clear hK K
                try simp only [Act.put, List.setIfInBounds_toArray, List.set_cons_zero, List.set_cons_succ]
                refine held_take 7 (oi := { dst := some 106, op := Op.unOp UnOp.not 4 (Operand.tmp 105), type := 4, pos := "law.go:340", after := #[{ on := 6, ground := Ground.data }, { on := 2, ground := Ground.guard }], guard := some (2, true) }) (v := ?_) (by kernel_rfl) rfl (by rfl) (by kernel_rfl) (by kernel_rfl) (fun _ _ _ h => h) ?_ (by assumption) ?_
                rotate_left
                · (intro w hSw; (try dsimp only at hSw); go_simp; try with_reducible rfl)
                try simp only [Act.put, List.setIfInBounds_toArray, List.set_cons_zero, List.set_cons_succ]
                refine held_take 8 (oi := { dst := some 107, op := Op.pick (Operand.tmp 101) (Operand.tmp 106) (Operand.const (Value.bool false)), type := 4, pos := "law.go:340", after := #[{ on := 2, ground := Ground.data }, { on := 7, ground := Ground.data }], guard := none }) (v := ?_) (by kernel_rfl) rfl (by rfl) (by kernel_rfl) (by kernel_rfl) (fun _ _ _ h => h) ?_ (by assumption) ?_
                rotate_left
                · (intro w hSw; (try dsimp only at hSw); go_simp; try with_reducible rfl)
                try simp only [Act.put, List.setIfInBounds_toArray, List.set_cons_zero, List.set_cons_succ]
                refine wpAnyH_done (by kernel_rfl) ?_ _
                have F6 := hide (unhide FF V6 (unhide U6))
                go_wp2
                exact ⟨⟨j + 1, c9, by omega, by omega, by go_num, F6⟩, by simp [intOf]; omega⟩
          · have y2 : ¬ (j : Int) < 60 := by omega
            go_wp2_with fail
            go_meet
            case rel => exact ⟨j, c, hj, hj6, rfl, I3⟩
        · have y1 : ¬ (j : Int) < (m1 : Int) := by omega
          go_wp2_with fail
          go_meet
          case rel => exact ⟨j, c, hj, hj6, rfl, I3⟩
    case rest =>
      obtain ⟨j, c, hj, hj6, rfl, I3⟩ := hcut
      obtain ⟨N, ss, n, r1, r2, ep3, ec3, hs3, z3, ls3, N3, le3, bb3⟩ := unhide I3
      have SC := hide (state_calls z3 ls3.ix)
      have Z3 := hide z3
      have B3 := hide bb3
      have LE := hide (show c.es.length ≤ 9223372036854775807 by omega)
      obtain ⟨q1, q2⟩ := ls3.again
      have Q3 := hide q1
      have L3 := hide q2
      clear z3 ls3 bb3 q1 q2 I3 I2
      go_wp2_with fail
      go_at_call 26
      refine (unhide SC).mono ?_
      rintro e V3 ⟨sp2, k2, hs2, rfl, o2, v2⟩
      unfold stRow
      have U3 := hide ((Below.refl V3.heap.size V3).alloc (Nat.le_refl _) (.cells #[.int .i64 (c.bi : Int), .int .i64 (c.bt : Int), .int .i64 (c.ht : Int), .int .i64 (c.hv : Int), .slice sp2 c.es.length k2] 53))
      have X3 := hide (heap_new V3 (.cells #[.int .i64 (c.bi : Int), .int .i64 (c.bt : Int), .int .i64 (c.ht : Int), .int .i64 (c.hv : Int), .slice sp2 c.es.length k2] 53))
      have O3 := hide (o2.later (unhide U3))
      have U4 := hide (v2.trans ((unhide U3).mono v2.size))
      have S2 := hide v2.size
      clear o2 v2 SC
      go_wp2_with fail
      generalize V3.alloc _ = W3 at *
      have LX := hide (show V3.heap.size < W3.heap.size from (Array.getElem?_eq_some_iff.1 (unhide X3)).1)
      have Z4 := hide ((unhide Z3).more (unhide U4))
      obtain ⟨Av, hAv⟩ : ∃ P : Nat → Prop, P = (fun g => False ∨ (wc.heap.size ≤ g ∧ g < W3.heap.size)) := ⟨_, rfl⟩
      rw [← hAv] at Z4
      have HV := hide (show ∀ g, wc.heap.size ≤ g → g < W3.heap.size → Av g from fun g h1 h2 => by rw [hAv]; exact .inr ⟨h1, h2⟩)
      clear hAv
      have B4 := hide ((unhide B3).trans ((unhide U4).mono (unhide B3).size))
      have OC := hide (open_calls ((unhide Z4).dk.av (Bv := Av) (fun g hg => .inl hg)) (show ∃ w0 : World, w0.heap.size = w.heap.size ∧ Tz w0 ∧ Below w.heap.size w0 W3 from ⟨w, rfl, unhide TZ, unhide B4⟩) (by omega))
      rw [unhide Q3] at OC
      go_at_call 25
      refine (unhide OC).mono ?_
      rintro e V7 ⟨a7, L7, ep7, ec7, hs7, rfl, z7, _⟩
      have XB := hide ((a7.av V3.heap.size (unhide HV _ (unhide S2) (unhide LX))).trans (unhide X3))
      have OB := hide ((unhide O3).same (w' := V7) (fun g hg => a7.av g (unhide HV g ((unhide O3).foot g hg).1 ((unhide O3).foot g hg).2.1)))
      have B7 := hide ((unhide B4).trans a7.bel)
      have LV := hide (show Calls Tryz.prog 18 #[] V7.drew fun e w' => e = .returned (.bool true) ∧ Below V7.drew.heap.size V7.drew w' from live6_calls _ ((unhide TZ).later ((unhide B7).trans ((Below.refl _ _).drew))))
      have SC := hide (fun W (u : Below V7.heap.size V7 W) => state_calls (z7.later u) (unhide L3).ix)
      have EB := hide (fun W (u : Below V7.heap.size V7 W) => ((unhide OB).later u).ents)
      have d0 : V7.drew.cell? ⟨V3.heap.size, 0, none⟩ = some (.int .i64 (c.bi : Int)) := box_cell (unhide XB) 0 _ rfl
      have d1 : V7.drew.cell? ⟨V3.heap.size, 1, none⟩ = some (.int .i64 (c.bt : Int)) := box_cell (unhide XB) 1 _ rfl
      have d2 : V7.drew.cell? ⟨V3.heap.size, 2, none⟩ = some (.int .i64 (c.ht : Int)) := box_cell (unhide XB) 2 _ rfl
      have d3 : V7.drew.cell? ⟨V3.heap.size, 3, none⟩ = some (.int .i64 (c.hv : Int)) := box_cell (unhide XB) 3 _ rfl
      have d4 : V7.drew.cell? ⟨V3.heap.size, 4, none⟩ = some (.slice sp2 c.es.length k2) := box_cell (unhide XB) 4 _ rfl
      clear a7 z7 OC
      go_wp2_with fail
      refine wp_region_held_drew (S := fun w' => w'.cell? ⟨V3.heap.size, 0, none⟩ = some (.int .i64 (c.bi : Int)) ∧ w'.cell? ⟨V3.heap.size, 1, none⟩ = some (.int .i64 (c.bt : Int)) ∧ w'.cell? ⟨V3.heap.size, 2, none⟩ = some (.int .i64 (c.ht : Int)) ∧ w'.cell? ⟨V3.heap.size, 3, none⟩ = some (.int .i64 (c.hv : Int)) ∧ w'.cell? ⟨V3.heap.size, 4, none⟩ = some (.slice sp2 c.es.length k2)) (by kernel_rfl) ?_ (fun hHeld => ?_)
      · try dsimp only
        first | exact ⟨d0, d1, d2, d3, d4⟩ | exact ⟨e0, e1, e2, e3, e4⟩ | exact ⟨f0, f1, f2, f3, f4⟩ | exact ⟨g0, g1, g2, g3, g4⟩
      refine held_one 0 (oi := { dst := some 115, op := Op.call { callee := Callee.value (Operand.func 18), args := #[], argTypes := #[] }, type := 4, pos := "law.go:346", after := #[], guard := none }) (by kernel_rfl) rfl (fun K hK => ?_)
      go_simp
      first
        | (go_at_call 18
           refine (unhide LV).mono ?_
           rintro e V8 ⟨rfl, v8⟩
           have e0 := cell_later v8 d0
           have e1 := cell_later v8 d1
           have e2 := cell_later v8 d2
           have e3 := cell_later v8 d3
           have e4 := cell_later v8 d4
           have U8 := hide (show Below V7.heap.size V7 V8 from ⟨v8.os, v8.tape, v8.output, v8.size, v8.block⟩)
           clear v8)
        | (go_at_call 26
           refine (unhide SC _ (unhide U8)).mono ?_
           rintro e V9 ⟨sp5, k5, hs5, rfl, o5, v5⟩
           unfold stRow
           have f0 := cell_later v5 e0
           have f1 := cell_later v5 e1
           have f2 := cell_later v5 e2
           have f3 := cell_later v5 e3
           have f4 := cell_later v5 e4
           have U9 := hide ((unhide U8).trans (v5.mono (unhide U8).size))
           have SA := hide (sameState_any (k := k5) (k' := k2) V9 o5.ents (unhide EB V9 (unhide U9)) (unhide LE) (unhide LE))
           unfold stRow at SA
           clear o5 v5)
        | (go_at_call 33
           refine (unhide SA).mono ?_
           rintro e V10 ⟨x6, rfl, hx6, v6⟩
           obtain rfl : x6 = true := by first | exact hx6 rfl | exact hx6 trivial
           have g0 := cell_later v6 f0
           have g1 := cell_later v6 f1
           have g2 := cell_later v6 f2
           have g3 := cell_later v6 f3
           have g4 := cell_later v6 f4
           have U10 := hide ((unhide U9).trans (v6.mono (unhide U9).size))
           clear v6 hx6)
      go_wp2_with fail
      refine hK.out _ _ ?_ (fun hHeld => ?_)
      · try dsimp only
        first | exact ⟨d0, d1, d2, d3, d4⟩ | exact ⟨e0, e1, e2, e3, e4⟩ | exact ⟨f0, f1, f2, f3, f4⟩ | exact ⟨g0, g1, g2, g3, g4⟩
      clear hK K
      try simp only [Act.put, List.setIfInBounds_toArray, List.set_cons_zero, List.set_cons_succ]
      refine held_take 1 (oi := { dst := some 116, op := Op.move (Operand.tmp 115), type := 4, pos := "law.go:346", after := #[{ on := 0, ground := Ground.data }, { on := 0, ground := Ground.chain }], guard := none }) (v := ?_) (by kernel_rfl) rfl (by rfl) (by kernel_rfl) (by kernel_rfl) (fun _ _ _ h => h) ?_ (by assumption) ?_
      rotate_left
      · (intro w hSw; (try dsimp only at hSw); go_simp; try with_reducible rfl)
      try simp only [Act.put, List.setIfInBounds_toArray, List.set_cons_zero, List.set_cons_succ]
      refine held_take 2 (oi := { dst := some 117, op := Op.move (Operand.tmp 7), type := 49, pos := "law.go:346", after := #[{ on := 1, ground := Ground.guard }], guard := some (1, true) }) (v := ?_) (by kernel_rfl) rfl (by rfl) (by kernel_rfl) (by kernel_rfl) (fun _ _ _ h => h) ?_ (by assumption) ?_
      rotate_left
      · (intro w hSw; (try dsimp only at hSw); go_simp; try with_reducible rfl)
      try simp only [Act.put, List.setIfInBounds_toArray, List.set_cons_zero, List.set_cons_succ]
      refine held_take 3 (oi := { dst := some 118, op := Op.binOp BinOp.eql 49 (Operand.tmp 117) (Operand.const (Value.int IntKind.i64 0)) 49, type := 4, pos := "law.go:346", after := #[{ on := 2, ground := Ground.data }, { on := 1, ground := Ground.guard }], guard := some (1, true) }) (v := ?_) (by kernel_rfl) rfl (by rfl) (by kernel_rfl) (by kernel_rfl) (fun _ _ _ h => h) ?_ (by assumption) ?_
      rotate_left
      · (intro w hSw; (try dsimp only at hSw); go_simp; try with_reducible rfl)
      try simp only [Act.put, List.setIfInBounds_toArray, List.set_cons_zero, List.set_cons_succ]
      refine held_take 4 (oi := { dst := some 119, op := Op.pick (Operand.tmp 116) (Operand.tmp 118) (Operand.const (Value.bool false)), type := 4, pos := "law.go:346", after := #[{ on := 1, ground := Ground.data }, { on := 3, ground := Ground.data }], guard := none }) (v := ?_) (by kernel_rfl) rfl (by rfl) (by kernel_rfl) (by kernel_rfl) (fun _ _ _ h => h) ?_ (by assumption) ?_
      rotate_left
      · (intro w hSw; (try dsimp only at hSw); go_simp; try with_reducible rfl)
      try simp only [Act.put, List.setIfInBounds_toArray, List.set_cons_zero, List.set_cons_succ]
      refine held_take 5 (oi := { dst := some 120, op := Op.move (Operand.tmp 119), type := 4, pos := "law.go:346", after := #[{ on := 4, ground := Ground.data }, { on := 1, ground := Ground.chain }], guard := none }) (v := ?_) (by kernel_rfl) rfl (by rfl) (by kernel_rfl) (by kernel_rfl) (fun _ _ _ h => h) ?_ (by assumption) ?_
      rotate_left
      · (intro w hSw; (try dsimp only at hSw); go_simp; try with_reducible rfl)
      try simp only [Act.put, List.setIfInBounds_toArray, List.set_cons_zero, List.set_cons_succ]
      refine held_take 6 (oi := { dst := some 121, op := Op.move (Operand.tmp 13), type := 39, pos := "law.go:346", after := #[{ on := 5, ground := Ground.guard }], guard := some (5, true) }) (v := ?_) (by kernel_rfl) rfl (by rfl) (by kernel_rfl) (by kernel_rfl) (fun _ _ _ h => h) ?_ (by assumption) ?_
      rotate_left
      · (intro w hSw; (try dsimp only at hSw); go_simp; try with_reducible rfl)
      try simp only [Act.put, List.setIfInBounds_toArray, List.set_cons_zero, List.set_cons_succ]
      refine held_take 8 (oi := { dst := some 123, op := Op.load 53 (Operand.tmp 12), type := 53, pos := "law.go:346", after := #[{ on := 5, ground := Ground.guard }], guard := some (5, true) }) (v := ?_) (by kernel_rfl) rfl (by rfl) (by kernel_rfl) (by kernel_rfl) (fun _ _ _ h => h) ?_ (by assumption) ?_
      rotate_left
      · (intro w hSw; (try dsimp only at hSw); go_simp; try with_reducible rfl)
      try simp only [Act.put, List.setIfInBounds_toArray, List.set_cons_zero, List.set_cons_succ]
      refine held_one 7 (oi := { dst := some 122, op := Op.call { callee := Callee.value (Operand.func 26), args := #[Operand.tmp 121], argTypes := #[39] }, type := 53, pos := "law.go:346", after := #[{ on := 6, ground := Ground.data }, { on := 5, ground := Ground.chain }, { on := 5, ground := Ground.guard }], guard := some (5, true) }) (by kernel_rfl) rfl (fun K hK => ?_)
      go_simp
      first
        | (go_at_call 18
           refine (unhide LV).mono ?_
           rintro e V8 ⟨rfl, v8⟩
           have e0 := cell_later v8 d0
           have e1 := cell_later v8 d1
           have e2 := cell_later v8 d2
           have e3 := cell_later v8 d3
           have e4 := cell_later v8 d4
           have U8 := hide (show Below V7.heap.size V7 V8 from ⟨v8.os, v8.tape, v8.output, v8.size, v8.block⟩)
           clear v8)
        | (go_at_call 26
           refine (unhide SC _ (unhide U8)).mono ?_
           rintro e V9 ⟨sp5, k5, hs5, rfl, o5, v5⟩
           unfold stRow
           have f0 := cell_later v5 e0
           have f1 := cell_later v5 e1
           have f2 := cell_later v5 e2
           have f3 := cell_later v5 e3
           have f4 := cell_later v5 e4
           have U9 := hide ((unhide U8).trans (v5.mono (unhide U8).size))
           have SA := hide (sameState_any (k := k5) (k' := k2) V9 o5.ents (unhide EB V9 (unhide U9)) (unhide LE) (unhide LE))
           unfold stRow at SA
           clear o5 v5)
        | (go_at_call 33
           refine (unhide SA).mono ?_
           rintro e V10 ⟨x6, rfl, hx6, v6⟩
           obtain rfl : x6 = true := by first | exact hx6 rfl | exact hx6 trivial
           have g0 := cell_later v6 f0
           have g1 := cell_later v6 f1
           have g2 := cell_later v6 f2
           have g3 := cell_later v6 f3
           have g4 := cell_later v6 f4
           have U10 := hide ((unhide U9).trans (v6.mono (unhide U9).size))
           clear v6 hx6)
      go_wp2_with fail
      refine hK.out _ _ ?_ (fun hHeld => ?_)
      · try dsimp only
        first | exact ⟨d0, d1, d2, d3, d4⟩ | exact ⟨e0, e1, e2, e3, e4⟩ | exact ⟨f0, f1, f2, f3, f4⟩ | exact ⟨g0, g1, g2, g3, g4⟩
      clear hK K
      try simp only [Act.put, List.setIfInBounds_toArray, List.set_cons_zero, List.set_cons_succ]
      refine held_one 9 (oi := { dst := some 124, op := Op.call { callee := Callee.value (Operand.func 33), args := #[Operand.tmp 122, Operand.tmp 123], argTypes := #[53, 53] }, type := 4, pos := "law.go:346", after := #[{ on := 7, ground := Ground.data }, { on := 8, ground := Ground.data }, { on := 7, ground := Ground.chain }, { on := 5, ground := Ground.guard }], guard := some (5, true) }) (by kernel_rfl) rfl (fun K hK => ?_)
      go_simp
      first
        | (go_at_call 18
           refine (unhide LV).mono ?_
           rintro e V8 ⟨rfl, v8⟩
           have e0 := cell_later v8 d0
           have e1 := cell_later v8 d1
           have e2 := cell_later v8 d2
           have e3 := cell_later v8 d3
           have e4 := cell_later v8 d4
           have U8 := hide (show Below V7.heap.size V7 V8 from ⟨v8.os, v8.tape, v8.output, v8.size, v8.block⟩)
           clear v8)
        | (go_at_call 26
           refine (unhide SC _ (unhide U8)).mono ?_
           rintro e V9 ⟨sp5, k5, hs5, rfl, o5, v5⟩
           unfold stRow
           have f0 := cell_later v5 e0
           have f1 := cell_later v5 e1
           have f2 := cell_later v5 e2
           have f3 := cell_later v5 e3
           have f4 := cell_later v5 e4
           have U9 := hide ((unhide U8).trans (v5.mono (unhide U8).size))
           have SA := hide (sameState_any (k := k5) (k' := k2) V9 o5.ents (unhide EB V9 (unhide U9)) (unhide LE) (unhide LE))
           unfold stRow at SA
           clear o5 v5)
        | (go_at_call 33
           refine (unhide SA).mono ?_
           rintro e V10 ⟨x6, rfl, hx6, v6⟩
           obtain rfl : x6 = true := by first | exact hx6 rfl | exact hx6 trivial
           have g0 := cell_later v6 f0
           have g1 := cell_later v6 f1
           have g2 := cell_later v6 f2
           have g3 := cell_later v6 f3
           have g4 := cell_later v6 f4
           have U10 := hide ((unhide U9).trans (v6.mono (unhide U9).size))
           clear v6 hx6)
      go_wp2_with fail
      refine hK.out _ _ ?_ (fun hHeld => ?_)
      · try dsimp only
        first | exact ⟨d0, d1, d2, d3, d4⟩ | exact ⟨e0, e1, e2, e3, e4⟩ | exact ⟨f0, f1, f2, f3, f4⟩ | exact ⟨g0, g1, g2, g3, g4⟩
      clear hK K
      try simp only [Act.put, List.setIfInBounds_toArray, List.set_cons_zero, List.set_cons_succ]
      refine held_take 10 (oi := { dst := some 125, op := Op.pick (Operand.tmp 120) (Operand.tmp 124) (Operand.const (Value.bool false)), type := 4, pos := "law.go:346", after := #[{ on := 5, ground := Ground.data }, { on := 9, ground := Ground.data }], guard := none }) (v := ?_) (by kernel_rfl) rfl (by rfl) (by kernel_rfl) (by kernel_rfl) (fun _ _ _ h => h) ?_ (by assumption) ?_
      rotate_left
      · (intro w hSw; (try dsimp only at hSw); go_simp; try with_reducible rfl)
      try simp only [Act.put, List.setIfInBounds_toArray, List.set_cons_zero, List.set_cons_succ]
      refine held_take 11 (oi := { dst := some 4, op := Op.assign (Operand.tmp 125), type := 4, pos := "law.go:346", after := #[{ on := 10, ground := Ground.data }, { on := 9, ground := Ground.chain }, { on := 0, ground := Ground.phase }, { on := 1, ground := Ground.phase }, { on := 2, ground := Ground.phase }, { on := 3, ground := Ground.phase }, { on := 4, ground := Ground.phase }, { on := 5, ground := Ground.phase }, { on := 6, ground := Ground.phase }, { on := 7, ground := Ground.phase }, { on := 8, ground := Ground.phase }, { on := 9, ground := Ground.phase }, { on := 10, ground := Ground.phase }], guard := none }) (v := ?_) (by kernel_rfl) rfl (by rfl) (by kernel_rfl) (by kernel_rfl) (fun _ _ _ h => h) ?_ (by assumption) ?_
      rotate_left
      · (intro w hSw; (try dsimp only at hSw); go_simp; try with_reducible rfl)
      try simp only [Act.put, List.setIfInBounds_toArray, List.set_cons_zero, List.set_cons_succ]
      refine wpAnyH_done (by kernel_rfl) ?_ _
      have FE := hide ((unhide B7).trans ((unhide U10).mono (unhide B7).size))
      go_wp2
      go_ret
      exact ⟨rfl, unhide FE⟩

set_option maxRecDepth 100000 in
theorem lifted (os : Os) (started : os.Started) (H : Type) (enc : TypeId × Value → H) :
    ReturnsInHanded {} Tryz.checked os 10 .any (fun w args => (Rows.walFullSpec.pre enc Tryz.prog Tryz.f10 Rows.walFullRow.domain false w args ∧ laidMetH Tryz.prog Rows.walFullRow.laid w) ∧ sizedMet enc Tryz.prog Tryz.f10 (OpenSpec.ofChange Rows.walFullSpec) false w args)
      (Rows.walFullSpec.post enc Tryz.prog Tryz.f10 false true false false) := by
  refine returnsInHanded_of_change_and (C := Tryz.checked) (X := fun w _ => laidMetH Tryz.prog Rows.walFullRow.laid w) (fun _ _ _ hh h => h.of_heap hh) own started (by kernel_rfl) Tryz.func10
    (ChangeSpec.witness_shaped (enc := enc) (C := Tryz.checked) (os := os) (X := fun w _ => laidMetH Tryz.prog Rows.walFullRow.laid w) false (World.laidAll Tryz.prog os Rows.walFullRow.laid) #[.int .u16 0, .slice none 0 0] 8 (World.laidAll_os _ _ _)
      (World.shaped_of_ZipB (by kernel_rfl) (by kernel_rfl)) (by kernel_rfl) (by kernel_rfl) (by kernel_rfl)
      (by rw [MakeChecks.laidMetH_plain _ _ _ (by kernel_rfl)]; exact laidMet_laidAll _ (by kernel_rfl) (by kernel_rfl))) ?_
  intro W base args ds gs before hval0 hW hcnd hsz hL _
  have hTz : Tz W := tz_of (by rw [MakeChecks.laidMetH_plain _ _ _ (by kernel_rfl)] at hL; exact hL)
  have hval : ∀ (j : Nat) t v, Tryz.f10.params[j]? = some t → args[j]? = some v → Value.okWide Tryz.prog W .any base t v := hval0
  have hW' := hW
  obtain ⟨p, q, hA0, hV, rfl, hfz, hnd⟩ := hW
  have hA : DataW.TrodAll enc Tryz.prog W 0 (fun _ => true) true Tryz.f10.params.toList args.toList ds p := hA0
  rw [Tryz.params10] at hA hval
  obtain ⟨v0, vs0, d0, ds0, p0, q0, hargs, rfl, rfl, h0, r0⟩ := trodAll_cons hA
  obtain ⟨v1, vs1, d1, ds1, p1, q1, rfl, rfl, rfl, h1, r1⟩ := trodAll_cons r0
  obtain ⟨rfl, rfl, rfl⟩ := trodAll_nil r1
  obtain rfl : args = #[v0, v1] := by cases args; simp_all
  obtain ⟨rfl, rfl⟩ := trodVars_none hV
  obtain ⟨n0, rfl, rfl, rfl, w0⟩ := open_int Tryz.underlying79 (hval 0 79 v0 rfl rfl) h0
  obtain ⟨n0, rfl, hn0⟩ := u16_nat w0
  obtain ⟨a1, len1, c1, rfl⟩ := okWide_slice Tryz.underlying22 (hval 1 22 v1 rfl rfl)
  have k1 := h1
  have lt1 : ∀ x ∈ p1, x.block < W.heap.size := by obtain ⟨m, hm⟩ := k1; exact DataW.trod_lt m _ _ _ hm
  obtain ⟨l1, rfl, hx1, hb1⟩ := ddeeds_arg h1
  clear hA0 hval0
  refine (walk n0 a1 c1 l1 W hn0 hx1 hb1 hTz).mono fun e W' ⟨he, bel⟩ => ?_
  subst he
  exact ⟨_, rfl, _, _, _, [], _, [], hW', trodAll_mk1 (shut_bool Tryz.underlying4 _), (trodAll_cons_mk (shut_int Tryz.underlying79 w0) (trodAll_cons_mk (Below.trod laidOut (by kernel_rfl) (of_decide_eq_true (by kernel_rfl)) k1 bel lt1) trodAll_mk0)), rfl, bel.frame _, fun h => by cases h⟩

theorem proved : Rows.WalFullSaid :=
  OpenClaim.holds_of_wide 10 Tryz.f10 rfl rfl rfl rfl rfl rfl rfl ⟨rfl, rfl, rfl, rfl, rfl⟩ rfl rfl rfl rfl rfl (by kernel_rfl) Tryz.func10 (by kernel_rfl)
    (of_decide_eq_true (by kernel_rfl)) (by unfold Func.isWrapper; first | (rw [if_pos (by decide +kernel)]; kernel_rfl) | (rw [if_neg (by decide +kernel)]; exact ⟨rfl, rfl⟩))
    (fun os started H enc _ => lifted os started H enc)
theorem card : Rows.WalFullCardSaid :=
  Claim7.holds_tied_plain_at .later [] [.data, .data, .data, .sentinel, .sentinel] true (true, "88ca12b5e2985bf86c8c037a77f67510c0f31dea6bd67df2758923acb4652b36") true proved (fun _ h => by cases h) (by kernel_rfl) (fun _ h => by cases h) walFull_row_tie rfl ⟨rfl, rfl⟩ (by kernel_rfl) rfl
    (fun f fn hf hfn => by
      obtain rfl : f = 10 := Option.some.inj ((show Tryz.prog.funcNamed "tollgate/tollgatelaw06.WalFull" = some 10 by kernel_rfl).symm.trans hf) |>.symm
      obtain rfl : fn = Tryz.f10 := (Option.some.inj (Tryz.func10.symm.trans hfn)).symm
      exact ⟨by kernel_rfl, fun j t ht => by
        rw [Tryz.params10] at ht
        have hm : t ∈ [79, 22] := by simpa using Array.mem_of_getElem? ht
        have hall : ([79, 22].all fun u => !Tryz.prog.wantsStandIn u) = true := by kernel_rfl
        exact (show Tryz.prog.wantsStandIn t = false by simpa using List.all_eq_true.1 hall t hm)⟩)
    (by kernel_rfl)
end Go.Proofs.YtijcpmbfhfppmaaGreatDoor.walFull
namespace Go.Proofs.YtijcpmbfhfppmaaGreatDoor
theorem walFull_holds : Rows.WalFullCardSaid := walFull.card
#print axioms walFull_holds
end Go.Proofs.YtijcpmbfhfppmaaGreatDoor
