/- Logs: the walk of WalSwitches. -/
import Derived.Test.YtijcpmbfhfppmaaGreatDoorB34
import Derived.Deep.CutBlock
import Derived.Deep.CutRange
import Derived.Deep.DeepCutAuto
namespace Go.Proofs.YtijcpmbfhfppmaaGreatDoor.walSwitches
open Go.ChangeShapes Go.WideShapes Go.ChangeAt Go.RowKit
set_option linter.unusedVariables false

set_option maxRecDepth 20000 in
set_option maxHeartbeats 16000000 in
theorem walk0 (a0 : Option Addr) (c0 : Nat) (l0 : List EntI) (n1 n2 : Int) (w : World) (hx0 : l0.length ≤ maxLen) (hb0 : EnAt w a0 l0) (bn1 : -9223372036854775808 ≤ n1 ∧ n1 ≤ 9223372036854775807) (bn2 : -9223372036854775808 ≤ n2 ∧ n2 ≤ 9223372036854775807) (hTz : Tz w) :
    Calls Tryz.prog 8 #[.slice a0 l0.length c0, .int .i64 n1, .int .i64 n2] w fun e w' => e = .returned (.bool true) ∧ Below w.heap.size w w' := by
  have TZ := hide hTz
  have HB0 := hide hb0
  have HX0 := hide hx0
  have BN1 := hide bn1
  have BN2 := hide bn2
  simp only [maxLen] at hx0
  have SH := hide (short6_calls ⟨0, l0, 0, 0, 0, 0, []⟩ ⟨a0, c0, none, 0⟩ w ⟨w64z, w64z, w64z, w64z, w64z, unhide HX0, by simp [maxLen], hb0.at_, hb0.bd, ⟨by simp, fun i hi => by simp at hi⟩⟩)
  unfold wdRow at SH
  dsimp only at SH
  rw [show ([] : List Int).length = 0 from rfl] at SH
  generalize hq0 : l0.length = m0 at *
  have Q0 := hide hq0
  clear hTz hb0 hq0 bn1 bn2
  by_cases h40 : 40 < m0
  · have y40 : (40 : Int) < (m0 : Int) := by omega
    go_enter Tryz.func8, Tryz.ntmps8
    go_wp2_with fail
    go_at_call 18
    refine (live6_calls _ (unhide TZ)).mono ?_
    rintro e V3 ⟨rfl, v3⟩
    have B3 := hide v3
    clear v3
    go_wp2
    go_ret
    exact ⟨rfl, unhide B3⟩
  have y40 : ¬ (40 : Int) < (m0 : Int) := by omega
  go_enter Tryz.func8, Tryz.ntmps8
  go_wp2_with fail
  go_at_call 15
  refine (unhide SH).mono ?_
  rintro e V0 ⟨b4, rfl, hb4, v4⟩
  have B0 := hide v4
  have T0 := hide ((unhide TZ).later v4)
  have H4 := hide hb4
  clear hb4 v4 SH
  cases b4 with
  | false =>
    go_wp2_with fail
    go_at_call 18
    refine (live6_calls _ (unhide T0)).mono ?_
    rintro e V3 ⟨rfl, v3⟩
    have B3 := hide ((unhide B0).trans (v3.mono (unhide B0).size))
    clear v3
    go_wp2
    go_ret
    exact ⟨rfl, unhide B3⟩
  | true =>
    have h6 := (unhide H4 rfl).1
    dsimp only at h6
    have NC := hide (anew_calls V0 262144)
    rw [show ((262144 : Int).toNat) = 262144 from rfl] at NC
    go_wp2_with fail
    go_at_call 24
    refine (unhide NC).mono ?_
    rintro e V1 ⟨d, M, rfl, h1, v1⟩
    have TT := hide (show ∃ w0 : World, w0.heap.size = V0.heap.size ∧ Tz w0 ∧ Below V0.heap.size w0 V1 from ⟨V0, rfl, unhide T0, v1⟩)
    have OC := hide (open_calls h1 (unhide TT) (by omega))
    rw [(LS.begin (show 22 ≤ 262144 by omega)).1] at OC
    have A1 := hide v1
    clear h1 v1 NC
    go_wp2_with fail
    go_at_call 25
    refine (unhide OC).mono ?_
    rintro e V2 ⟨a2, L, ep, ec, hs, rfl, z2, _⟩
    have J0 := hide (show Js V0 V2 L d M (22 + 2 * sumN (l0.take 0)) (2 + 2 * 0) from ⟨_, _, [], _, _, _, _, z2, (LS.begin (show 22 ≤ 262144 by omega)).2, by rw [List.append_nil, begin_len]; omega, by omega, (unhide A1).trans a2.bel⟩)
    have E0 := hide (unhide HB0).at_
    have EIN := hide (show EntsIn (fun g => g < w.heap.size) w a0 l0 from EntsIn.ofLt (unhide HB0).at_)
    clear a2 z2 OC TT A1
    go_wp2_with fail
    go_loopw [10] (fun v wr => ∃ i : Nat, i ≤ m0 ∧ v = .int .i64 (i : Int) ∧ Hid (Js V0 wr L d M (22 + 2 * sumN (l0.take i)) (2 + 2 * i))) (fun v _ => m0 - (intOf v).toNat)
    case atStart => exact ⟨0, by omega, rfl, J0⟩
    case round =>
      obtain ⟨i, hi, rfl, I5⟩ := hrel
      by_cases hi1 : i < m0
      · have y0 : (0 : Int) ≤ (i : Int) := by omega
        have y1 : (i : Int) < (m0 : Int) := by omega
        have hil : i < l0.length := by rw [unhide Q0]; exact hi1
        obtain ⟨c, ss, r2, N, ep5, ec5, hs5, z5, ls5, hx5, N5, bb5⟩ := unhide I5
        have BB := (unhide B0).trans (bb5.mono (unhide B0).size)
        obtain ⟨b', off', dp, dc, hep, q0, q1, q2, q3, q4, q5⟩ := (unhide E0).cell i hil
        have hdat := (unhide EIN).dat i hil b' off' dp dc _ hep q3
        have p0 := cell_later BB q0
        have p1 := cell_later BB q1
        have p2 := cell_later BB q2
        have p3 := cell_later BB q3
        have p4 := q4.later BB
        have hst := sumN_take l0 i hil
        have hsm := sumN_mem (List.getElem_mem hil)
        rw [← sumN_one] at hst
        have htk := hide (show sumN (l0.take i) + sumN [l0[i]] ≤ 6000 by
          have := sumN_mono l0 (i + 1)
          omega)
        have HST := hide hst
        clear q0 q1 q2 q3 q4 hst hsm
        generalize l0[i] = x at *
        obtain ⟨xk, xt, xi, xd⟩ := x
        dsimp only at p0 p1 p2 p3 p4 hdat
        subst hep
        have U9 := (Below.refl wr.heap.size wr).alloc (Nat.le_refl _) (.cells #[.int .i64 xk, .int .i64 xt, .int .i64 xi, .slice dp xd.length dc] 60)
        have X9 := heap_new wr (.cells #[.int .i64 xk, .int .i64 xt, .int .i64 xi, .slice dp xd.length dc] 60)
        have L9 := (Array.getElem?_eq_some_iff.1 X9).1
        have hfew := ls5.few
        have z9 := z5.more U9
        obtain ⟨Av9, hAv9⟩ : ∃ P : Nat → Prop, P = (fun g => False ∨ (wr.heap.size ≤ g ∧ g < (wr.alloc (.cells #[.int .i64 xk, .int .i64 xt, .int .i64 xi, .slice dp xd.length dc] 60)).heap.size)) := ⟨_, rfl⟩
        rw [← hAv9] at z9
        have hE9 : Av9 wr.heap.size := by rw [hAv9]; exact .inr ⟨Nat.le_refl _, L9⟩
        obtain ⟨r, ss', c', rs, hw, ls', hx'⟩ := ls5.one_more (xk, xt, xi, xd) hx5 (by have := unhide htk; omega)
        have AC := hide (append_calls z9 (by omega) (some ⟨wr.heap.size, 0, none⟩) 1 1 [(xk, xt, xi, xd)] rfl (one_inE X9 (p4.later U9) q5 (.inr hE9) (fun g o e h0 => .inl (Nat.lt_of_lt_of_le (hdat g o e h0) (unhide B0).size))) (by omega))
        rw [hw] at AC
        have FJ := hide (show ∀ V, (∃ ep ec hs, WAt Av9 V0.heap.size V L d M 262144 (N + 2) ss' c' 1 ep ec hs) → Asd Av9 V0.heap.size (wr.alloc (.cells #[.int .i64 xk, .int .i64 xt, .int .i64 xi, .slice dp xd.length dc] 60)) V → Js V0 V L d M (22 + 2 * sumN (l0.take (i + 1))) (2 + 2 * (i + 1)) from fun V hz ha => by
          obtain ⟨ep, ec, hs, z⟩ := hz
          exact ⟨c', ss', r2 ++ rs, N + 2, ep, ec, hs, z.sub (fun g hg => hg.elim), ls', by rw [unhide HST]; omega, by omega, (bb5.trans (U9.mono bb5.size)).trans ha.bel⟩)
        clear z5 ls5 bb5 hE9 hAv9 z9 U9 X9 L9 hdat p4 hfew hw ls' hx' I5 BB q5 hx5
        go_wp2_with fail
        clear p0 p1 p2 p3
        generalize wr.alloc _ = W9 at *
        go_at_call 27
        refine (unhide AC).mono ?_
        rintro e V5 ⟨rfl, z5, a5⟩
        have F5 := hide (unhide FJ V5 z5 a5)
        clear z5 a5 AC FJ
        go_wp2
        exact ⟨⟨i + 1, by omega, by go_num, F5⟩, by simp [intOf]; omega⟩
      · have y1 : ¬ (i : Int) < (m0 : Int) := by omega
        obtain ⟨c, ss, r2, N, ep5, ec5, hs5, z5, ls5, hx5, N5, bb5⟩ := unhide I5
        obtain ⟨hsy, lsy⟩ := ls5.sync
        have htake := sumN_mono l0 i
        obtain ⟨R, hR⟩ : ∃ R, R = allR wc0 ++ r2 := ⟨_, rfl⟩
        rw [← hR] at hsy lsy hx5
        have SYC := hide (wsync_calls z5)
        rw [hsy] at SYC
        have LSY := hide lsy
        have BB5 := hide bb5
        clear z5 ls5 bb5 hsy lsy I5 hR J0 E0 EIN
        go_wp2_with fail
        go_at_call 29
        refine (unhide SYC).mono ?_
        rintro e V3 ⟨rfl, z3, a3⟩
        have Z3 := hide z3
        have B3 := hide ((unhide B0).trans (((unhide BB5).trans a3.bel).mono (unhide B0).size))
        have T3 := hide ((unhide T0).later ((unhide BB5).trans a3.bel))
        have D3 := hide (show Below V0.heap.size V0 V3 from (unhide BB5).trans a3.bel)
        have SC := hide (state_calls z3 (unhide LSY).ix)
        clear z3 a3 SYC BB5
        go_wp2_with fail
        go_at_call 26
        refine (unhide SC).mono ?_
        rintro e V4 ⟨sp4, k4, hs4, rfl, o4, v4⟩
        unfold stRow
        have U4 := hide ((Below.refl V4.heap.size V4).alloc (Nat.le_refl _) (.cells #[.int .i64 (c.bi : Int), .int .i64 (c.bt : Int), .int .i64 (c.ht : Int), .int .i64 (c.hv : Int), .slice sp4 c.es.length k4] 53))
        have X4 := hide (heap_new V4 (.cells #[.int .i64 (c.bi : Int), .int .i64 (c.bt : Int), .int .i64 (c.ht : Int), .int .i64 (c.hv : Int), .slice sp4 c.es.length k4] 53))
        have O4 := hide (o4.later (unhide U4))
        have LE := hide (ownL_le o4)
        have UU := hide (v4.trans ((unhide U4).mono v4.size))
        have S4 := hide v4.size
        clear o4 v4 SC U4
        go_wp2_with fail
        generalize V4.alloc _ = W4 at *
        have E1L := hide (show V4.heap.size < W4.heap.size from (Array.getElem?_eq_some_iff.1 (unhide X4)).1)
        generalize V4.heap.size = E1 at *
        have FC := hide (file_calls ((unhide Z3).later (unhide UU)))
        go_at_call 34
        refine (unhide FC).mono ?_
        rintro e V5 ⟨rfl, v5⟩
        have X5 := hide (later_block v5 (unhide X4))
        have O5 := hide ((unhide O4).later v5)
        have U5 := hide ((unhide UU).trans (v5.mono (unhide UU).size))
        have S5 := hide v5.size
        clear v5 FC X4 O4 UU
        have RC := hide (aread_calls ((unhide Z3).later (unhide U5)).dk (str (walNm 1)) (name_le 1 (by omega)))
        rw [name_list, LS.file] at RC
        go_wp2_with fail
        go_at_call 35
        refine (unhide RC).mono ?_
        rintro e V6 ⟨op, on, rfl, hol, hon, hbx, v6⟩
        have X6 := hide (later_block v6 (unhide X5))
        have O6 := hide ((unhide O5).later v6)
        have U6 := hide ((unhide U5).trans (v6.mono (unhide U5).size))
        have OL := hide hol
        have BX6 := hide hbx
        have S6 := hide v6.size
        clear v6 RC X5 O5 hol hbx
        have FC := hide (file_calls ((unhide Z3).later (unhide U6)))
        go_wp2_with fail
        go_at_call 34
        refine (unhide FC).mono ?_
        rintro e V7 ⟨rfl, v7⟩
        have X7 := hide (later_block v7 (unhide X6))
        have O7 := hide ((unhide O6).later v7)
        have U7 := hide ((unhide U6).trans (v7.mono (unhide U6).size))
        have BX7 := hide ((unhide BX6).later v7)
        have S7 := hide v7.size
        clear v7 FC X6 O6 BX6
        have Z7 := hide ((unhide Z3).more (unhide U7))
        obtain ⟨Av, hAv⟩ : ∃ P : Nat → Prop, P = (fun g => False ∨ (V3.heap.size ≤ g ∧ g < V7.heap.size)) := ⟨_, rfl⟩
        rw [← hAv] at Z7
        have HV := hide (show ∀ g, V3.heap.size ≤ g → g < V7.heap.size → Av g from fun g h1 h2 => by rw [hAv]; exact .inr ⟨h1, h2⟩)
        clear hAv
        have CC := hide (compact_calls (unhide Z7) (show N + 1 ≤ 1000000 by omega) (unhide LSY).ix n1 (unhide BN1))
        have HE1 := hide (show Av E1 from unhide HV E1 (unhide S4) (Nat.lt_of_lt_of_le (unhide E1L) (Nat.le_trans (unhide S5) (Nat.le_trans (unhide S6) (unhide S7)))))
        have KX := hide (show ∀ V, Asd Av V0.heap.size V7 V → StAt V E1 c sp4 k4 ∧ Bx V5.heap.size V op on (cat R) from fun V ha =>
          ⟨⟨(ha.av E1 (unhide HE1)).trans (unhide X7), ((unhide O7).same (w' := V) (fun g hg => ha.av g (unhide HV g ((unhide O7).foot g hg).1 ((unhide O7).foot g hg).2.1))).ents, unhide LE⟩,
            (unhide BX7).same (fun g hg => ha.av g (unhide HV g (Nat.le_trans (unhide U5).size ((unhide BX7).isT g hg).1) ((unhide BX7).isT g hg).2.1))⟩)
        have D7 := hide (show Below V0.heap.size V0 V7 from (unhide D3).trans ((unhide U7).mono (unhide Z3).dk.le))
        have BS := hide (unhide B0).size
        clear O7 X7 BX7 S5 S6 S7 HE1 E1L
        rcases compact_sw (unhide Z7).ok (unhide LSY) n1 with ⟨c', F, hw, hlt, lsF⟩ | ⟨r, hr, hw⟩ | ⟨hw, hlt⟩
        · simp only [Nat.reduceAdd] at hw lsF
          rw [hw] at CC
          have hlt2 : (c.bi : Int) < n1 := hlt
          have LSF := hide lsF
          clear hw lsF hlt
          go_wp2_with fail
          go_at_call 30
          refine (unhide CC).mono ?_
          rintro e V8 ⟨rfl, ⟨ep8, ec8, hs8, z8⟩, a8⟩
          obtain ⟨st8, bx8⟩ := unhide KX V8 a8
          have A8 := hide st8
          have BX8 := hide bx8
          have Z8 := hide z8
          have SC := hide (state_calls z8 (unhide LSF).ix)
          have x0 : V8.cell? ⟨E1, 0, none⟩ = some (.int .i64 (c.bi : Int)) := box_cell st8.row 0 _ rfl
          have D8 := hide ((unhide D7).trans a8.bel)
          clear st8 bx8 z8 a8 CC KX
          go_wp2_with fail
          clear x0 hlt2
          go_at_call 26
          refine (unhide SC).mono ?_
          rintro e V9 ⟨sp9, k9, hs9, rfl, o9, v9⟩
          unfold stRow
          have U9 := hide ((Below.refl V9.heap.size V9).alloc (Nat.le_refl _) (.cells #[.int .i64 (c'.bi : Int), .int .i64 (c'.bt : Int), .int .i64 (c'.ht : Int), .int .i64 (c'.hv : Int), .slice sp9 c'.es.length k9] 53))
          have X9 := hide (heap_new V9 (.cells #[.int .i64 (c'.bi : Int), .int .i64 (c'.bt : Int), .int .i64 (c'.ht : Int), .int .i64 (c'.hv : Int), .slice sp9 c'.es.length k9] 53))
          have A9 := hide (show StAt (V9.alloc (.cells #[.int .i64 (c'.bi : Int), .int .i64 (c'.bt : Int), .int .i64 (c'.ht : Int), .int .i64 (c'.hv : Int), .slice sp9 c'.es.length k9] 53)) V9.heap.size c' sp9 k9 from ⟨unhide X9, (o9.later (unhide U9)).ents, ownL_le o9⟩)
          have B9 := hide (((unhide A8).later v9).later (unhide U9))
          have BX9 := hide (((unhide BX8).later v9).later (unhide U9))
          have ZU := hide (v9.trans ((unhide U9).mono v9.size))
          have D9 := hide ((unhide D8).trans ((unhide ZU).mono (unhide D8).size))
          clear o9 v9 SC U9 X9 A8 BX8
          go_wp2_with fail
          generalize V9.alloc _ = W9 at *
          generalize V9.heap.size = E2 at *
          have FC := hide (file_calls ((unhide Z8).later (unhide ZU)))
          go_at_call 34
          refine (unhide FC).mono ?_
          rintro e V10 ⟨rfl, v10⟩
          have A10 := hide ((unhide A9).later v10)
          have B10 := hide ((unhide B9).later v10)
          have BX10 := hide ((unhide BX9).later v10)
          have ZU10 := hide ((unhide ZU).trans (v10.mono (unhide ZU).size))
          have D10 := hide ((unhide D9).trans (v10.mono (unhide D9).size))
          clear v10 FC A9 B9 BX9 D9 ZU
          have RC := hide (aread_calls ((unhide Z8).later (unhide ZU10)).dk (str (walNm 2)) (name_le 2 (by omega)))
          rw [name_list, LS.file] at RC
          go_wp2_with fail
          go_at_call 35
          refine (unhide RC).mono ?_
          rintro e V11 ⟨fp, fn, rfl, hfl, hfn, hbf, v11⟩
          have A11 := hide ((unhide A10).later v11)
          have B11 := hide ((unhide B10).later v11)
          have BX11 := hide ((unhide BX10).later v11)
          have ZU11 := hide ((unhide ZU10).trans (v11.mono (unhide ZU10).size))
          have D11 := hide ((unhide D10).trans (v11.mono (unhide D10).size))
          have BF11 := hide hbf
          have FL := hide hfl
          clear v11 RC A10 B10 BX10 D10 ZU10 hbf hfl
          have FC := hide (file_calls ((unhide Z8).later (unhide ZU11)))
          go_wp2_with fail
          go_at_call 34
          refine (unhide FC).mono ?_
          rintro e V12 ⟨rfl, v12⟩
          have D12 := hide ((unhide D11).trans (v12.mono (unhide D11).size))
          have TW := hide (show Two V12 R F c c' E1 E2 sp4 sp9 k4 k9 op fp on fn from ⟨(unhide T0).later (unhide D12), (unhide B11).later v12, (unhide A11).later v12, unhide OL, unhide FL, ((unhide BX11).later v12).bytes, ((unhide BF11).later v12).bytes, (unhide BX11).nil0, (unhide BF11).nil0, hon, hfn, ⟨_, unhide LSY⟩, ⟨_, unhide LSF⟩⟩)
          have D12' := hide ((unhide B0).trans ((unhide D12).mono (unhide BS)))
          clear v12 FC A11 B11 BX11 BF11 D11 D12 ZU11 Z8 LSY LSF OL FL Z7 HV U7 U6 U5 Z3 D3 D7 D8 T3 B3 LE S4
          have NC := hide (anew_calls V12 524288)
          rw [show ((524288 : Int).toNat) = 524288 from rfl] at NC
          go_wp2_with fail
          go_at_call 24
          refine (unhide NC).mono ?_
          rintro e V13 ⟨da, Ma, rfl, h13, v13⟩
          have U13 := hide v13
          have WC := hide (awrite_calls h13 (by omega) (str (walNm 1)) (name_le 1 (by omega)) 0 (by omega) op on on (cat R) (unhide TW).ol (Nat.le_refl _) ((unhide TW).later v13).ob (unhide TW).oz (fun b off e h0 => .inl (bytes_lt (unhide TW).ob b off e (by rw [(unhide TW).ol]; exact h0))) (by omega))
          rw [name_list, dWrite_first 524288 1 (cat R) (by omega) (by rw [(unhide TW).ol]; exact hon) (by rw [(unhide TW).ol]; omega)] at WC
          clear h13 v13 NC
          go_wp2_with fail
          go_at_call 36
          refine (unhide WC).mono ?_
          rintro e V14 ⟨rfl, h14, a14⟩
          have U14 := hide ((unhide U13).trans a14.bel)
          have SY := hide (async_calls h14 (str (walNm 1)) (name_le 1 (by omega)))
          rw [name_list, dSync_first] at SY
          clear h14 a14 WC U13
          go_wp2_with fail
          go_at_call 37
          refine (unhide SY).mono ?_
          rintro e V15 ⟨rfl, h15, a15⟩
          have U15 := hide ((unhide U14).trans a15.bel)
          have WC := hide (awrite_calls h15 (by omega) ⟨#[119, 97, 108, 46, 116, 109, 112]⟩ (by decide) 0 (by omega) fp fn fn (cat F) (unhide TW).fl (Nat.le_refl _) ((unhide TW).later (unhide U15)).fb (unhide TW).fz (fun b off e h0 => .inl (bytes_lt (unhide TW).fb b off e (by rw [(unhide TW).fl]; exact h0))) (by omega))
          rw [show (⟨#[119, 97, 108, 46, 116, 109, 112]⟩ : ByteArray).data.toList = tmpW from rfl, dWrite_tmp 524288 1 (cat R) (cat F) (by omega) (by rw [(unhide TW).fl]; exact hfn) (by rw [(unhide TW).fl, (unhide TW).ol]; omega)] at WC
          clear h15 a15 SY U14
          go_wp2_with fail
          go_at_call 36
          refine (unhide WC).mono ?_
          rintro e V16 ⟨rfl, h16, a16⟩
          have U16 := hide ((unhide U15).trans a16.bel)
          have UA := hide ((Below.refl V16.heap.size V16).alloc (Nat.le_refl _) (.cells #[.int .i64 n2, .int .i64 n2, .int .i64 n2] 3))
          have XA := hide (heap_new V16 (.cells #[.int .i64 n2, .int .i64 n2, .int .i64 n2] 3))
          have U17 := hide ((unhide U16).trans ((unhide UA).mono (unhide U16).size))
          have HC := hide (acrash_calls (h16.more (unhide UA)) (some ⟨V16.heap.size, 0, none⟩) 3 3 [n2, n2, n2] rfl (ints3 (unhide XA) (unhide BN2)) (fun b off e h0 => by cases e; exact .inr (.inr ⟨Nat.le_refl _, (Array.getElem?_eq_some_iff.1 (unhide XA)).1⟩)))
          clear h16 a16 WC U15 UA XA
          go_wp2_with fail
          generalize V16.alloc _ = W16 at *
          go_at_call 32
          refine (unhide HC).mono ?_
          rintro e V17 ⟨rfl, h17, a17⟩
          have U18 := hide ((unhide U17).trans a17.bel)
          obtain ⟨s1, ls1⟩ := (unhide TW).l1
          obtain ⟨q1, q2⟩ := ls1.else_ 524288 (by rw [(unhide TW).ol]; omega)
          have LQ := hide q2
          have OC := hide (open_calls h17 (show ∃ w0 : World, w0.heap.size = V12.heap.size ∧ Tz w0 ∧ Below V12.heap.size w0 V17 from ⟨V12, rfl, (unhide TW).tz, unhide U18⟩) (by omega))
          rw [wOpen_torn 524288 1 _ (cat R) _ (by omega) (by omega), q1] at OC
          clear h17 a17 HC U17 U16 q1 q2 ls1
          go_wp2_with fail
          go_at_call 25
          refine (unhide OC).mono ?_
          rintro e V18 ⟨a18, La, epa, eca, hsa, rfl, z18, _⟩
          have U19 := hide ((unhide U18).trans a18.bel)
          have TA := hide ((unhide TW).later (unhide U19))
          have SC := hide (state_calls (z18.later ((Below.refl _ _).drew)) (unhide LQ).ix)
          have NM := hide (fun W (u : Below V18.heap.size V18 W) => anames_calls (z18.later u).dk)
          have d0 : V18.drew.cell? ⟨E1, 0, none⟩ = some (.int .i64 (c.bi : Int)) := box_cell (unhide TA).a1.row 0 _ rfl
          have d1 : V18.drew.cell? ⟨E1, 1, none⟩ = some (.int .i64 (c.bt : Int)) := box_cell (unhide TA).a1.row 1 _ rfl
          have d2 : V18.drew.cell? ⟨E1, 2, none⟩ = some (.int .i64 (c.ht : Int)) := box_cell (unhide TA).a1.row 2 _ rfl
          have d3 : V18.drew.cell? ⟨E1, 3, none⟩ = some (.int .i64 (c.hv : Int)) := box_cell (unhide TA).a1.row 3 _ rfl
          have d4 : V18.drew.cell? ⟨E1, 4, none⟩ = some (.slice sp4 c.es.length k4) := box_cell (unhide TA).a1.row 4 _ rfl
          clear a18 z18 OC U18
          go_wp2_with fail
          refine wp_region_held_drew (S := fun w' => w'.cell? ⟨E1, 0, none⟩ = some (.int .i64 (c.bi : Int)) ∧ w'.cell? ⟨E1, 1, none⟩ = some (.int .i64 (c.bt : Int)) ∧ w'.cell? ⟨E1, 2, none⟩ = some (.int .i64 (c.ht : Int)) ∧ w'.cell? ⟨E1, 3, none⟩ = some (.int .i64 (c.hv : Int)) ∧ w'.cell? ⟨E1, 4, none⟩ = some (.slice sp4 c.es.length k4)) (by kernel_rfl) ?_ (fun hHeld => ?_)
          · try dsimp only
            first | exact ⟨d0, d1, d2, d3, d4⟩ | exact ⟨e0, e1, e2, e3, e4⟩ | exact ⟨f0, f1, f2, f3, f4⟩ | exact ⟨g0, g1, g2, g3, g4⟩
          refine held_take 0 (oi := { dst := some 121, op := Op.move (Operand.tmp 9), type := 49, pos := "law.go:264", after := #[], guard := none }) (v := ?_) (by kernel_rfl) rfl (by rfl) (by kernel_rfl) (by kernel_rfl) (fun _ _ _ h => h) ?_ (by assumption) ?_
          rotate_left
          · (intro w hSw; (try dsimp only at hSw); go_simp; try with_reducible rfl)
          try simp only [Act.put, List.setIfInBounds_toArray, List.set_cons_zero, List.set_cons_succ]
          refine held_take 1 (oi := { dst := some 122, op := Op.binOp BinOp.neq 49 (Operand.tmp 121) (Operand.const (Value.int IntKind.i64 0)) 49, type := 4, pos := "law.go:264", after := #[{ on := 0, ground := Ground.data }], guard := none }) (v := ?_) (by kernel_rfl) rfl (by rfl) (by kernel_rfl) (by kernel_rfl) (fun _ _ _ h => h) ?_ (by assumption) ?_
          rotate_left
          · (intro w hSw; (try dsimp only at hSw); go_simp; try with_reducible rfl)
          try simp only [Act.put, List.setIfInBounds_toArray, List.set_cons_zero, List.set_cons_succ]
          refine held_take 2 (oi := { dst := some 123, op := Op.move (Operand.tmp 122), type := 4, pos := "law.go:264", after := #[{ on := 1, ground := Ground.data }], guard := none }) (v := ?_) (by kernel_rfl) rfl (by rfl) (by kernel_rfl) (by kernel_rfl) (fun _ _ _ h => h) ?_ (by assumption) ?_
          rotate_left
          · (intro w hSw; (try dsimp only at hSw); go_simp; try with_reducible rfl)
          try simp only [Act.put, List.setIfInBounds_toArray, List.set_cons_zero, List.set_cons_succ]
          refine held_take 3 (oi := { dst := some 124, op := Op.move (Operand.tmp 21), type := 39, pos := "law.go:264", after := #[{ on := 2, ground := Ground.guard }], guard := some (2, false) }) (v := ?_) (by kernel_rfl) rfl (by rfl) (by kernel_rfl) (by kernel_rfl) (fun _ _ _ h => h) ?_ (by assumption) ?_
          rotate_left
          · (intro w hSw; (try dsimp only at hSw); go_simp; try with_reducible rfl)
          try simp only [Act.put, List.setIfInBounds_toArray, List.set_cons_zero, List.set_cons_succ]
          refine held_take 5 (oi := { dst := some 126, op := Op.load 53 (Operand.tmp 11), type := 53, pos := "law.go:264", after := #[{ on := 2, ground := Ground.guard }], guard := some (2, false) }) (v := ?_) (by kernel_rfl) rfl (by rfl) (by kernel_rfl) (by kernel_rfl) (fun _ _ _ h => h) ?_ (by assumption) ?_
          rotate_left
          · (intro w hSw; (try dsimp only at hSw); go_simp; try with_reducible rfl)
          try simp only [Act.put, List.setIfInBounds_toArray, List.set_cons_zero, List.set_cons_succ]
          refine held_one 4 (oi := { dst := some 125, op := Op.call { callee := Callee.value (Operand.func 26), args := #[Operand.tmp 124], argTypes := #[39] }, type := 53, pos := "law.go:264", after := #[{ on := 3, ground := Ground.data }, { on := 2, ground := Ground.chain }, { on := 2, ground := Ground.guard }], guard := some (2, false) }) (by kernel_rfl) rfl (fun K hK => ?_)
          go_simp
          first
            | (go_at_call 26
               refine (unhide SC).mono ?_
               rintro e V20 ⟨sp5, k5, hs5, rfl, o5, v5⟩
               unfold stRow
               have e0 := cell_later v5 d0
               have e1 := cell_later v5 d1
               have e2 := cell_later v5 d2
               have e3 := cell_later v5 d3
               have e4 := cell_later v5 d4
               have U20 := hide (show Below V18.heap.size V18 V20 from ⟨v5.os, v5.tape, v5.output, v5.size, v5.block⟩)
               have SA := hide (sameState_any (k := k5) (k' := k4) V20 o5.ents ((unhide TA).later (unhide U20)).a1.en (unhide TA).a1.le (unhide TA).a1.le)
               unfold stRow at SA
               clear o5 v5)
            | (go_at_call 33
               refine (unhide SA).mono ?_
               rintro e V21 ⟨x6, rfl, hx6, v6⟩
               obtain rfl : x6 = true := by first | exact hx6 rfl | exact hx6 trivial
               have f0 := cell_later v6 e0
               have f1 := cell_later v6 e1
               have f2 := cell_later v6 e2
               have f3 := cell_later v6 e3
               have f4 := cell_later v6 e4
               have U21 := hide ((unhide U20).trans (v6.mono (unhide U20).size))
               clear v6 hx6)
            | (go_at_call 38
               refine (unhide NM _ (unhide U21)).mono ?_
               rintro e V22 ⟨np, nn, nc, rfl, hnn, _, v7⟩
               obtain rfl : nn = 1 := by simpa using hnn.symm
               have g0 := cell_later v7 f0
               have g1 := cell_later v7 f1
               have g2 := cell_later v7 f2
               have g3 := cell_later v7 f3
               have g4 := cell_later v7 f4
               have U22 := hide ((unhide U21).trans (v7.mono (unhide U21).size))
               clear v7 hnn)
          go_wp2_with fail
          refine hK.out _ _ ?_ (fun hHeld => ?_)
          · try dsimp only
            first | exact ⟨d0, d1, d2, d3, d4⟩ | exact ⟨e0, e1, e2, e3, e4⟩ | exact ⟨f0, f1, f2, f3, f4⟩ | exact ⟨g0, g1, g2, g3, g4⟩
          clear hK K
          try simp only [Act.put, List.setIfInBounds_toArray, List.set_cons_zero, List.set_cons_succ]
          refine held_one 6 (oi := { dst := some 127, op := Op.call { callee := Callee.value (Operand.func 33), args := #[Operand.tmp 125, Operand.tmp 126], argTypes := #[53, 53] }, type := 4, pos := "law.go:264", after := #[{ on := 4, ground := Ground.data }, { on := 5, ground := Ground.data }, { on := 4, ground := Ground.chain }, { on := 2, ground := Ground.guard }], guard := some (2, false) }) (by kernel_rfl) rfl (fun K hK => ?_)
          go_simp
          first
            | (go_at_call 26
               refine (unhide SC).mono ?_
               rintro e V20 ⟨sp5, k5, hs5, rfl, o5, v5⟩
               unfold stRow
               have e0 := cell_later v5 d0
               have e1 := cell_later v5 d1
               have e2 := cell_later v5 d2
               have e3 := cell_later v5 d3
               have e4 := cell_later v5 d4
               have U20 := hide (show Below V18.heap.size V18 V20 from ⟨v5.os, v5.tape, v5.output, v5.size, v5.block⟩)
               have SA := hide (sameState_any (k := k5) (k' := k4) V20 o5.ents ((unhide TA).later (unhide U20)).a1.en (unhide TA).a1.le (unhide TA).a1.le)
               unfold stRow at SA
               clear o5 v5)
            | (go_at_call 33
               refine (unhide SA).mono ?_
               rintro e V21 ⟨x6, rfl, hx6, v6⟩
               obtain rfl : x6 = true := by first | exact hx6 rfl | exact hx6 trivial
               have f0 := cell_later v6 e0
               have f1 := cell_later v6 e1
               have f2 := cell_later v6 e2
               have f3 := cell_later v6 e3
               have f4 := cell_later v6 e4
               have U21 := hide ((unhide U20).trans (v6.mono (unhide U20).size))
               clear v6 hx6)
            | (go_at_call 38
               refine (unhide NM _ (unhide U21)).mono ?_
               rintro e V22 ⟨np, nn, nc, rfl, hnn, _, v7⟩
               obtain rfl : nn = 1 := by simpa using hnn.symm
               have g0 := cell_later v7 f0
               have g1 := cell_later v7 f1
               have g2 := cell_later v7 f2
               have g3 := cell_later v7 f3
               have g4 := cell_later v7 f4
               have U22 := hide ((unhide U21).trans (v7.mono (unhide U21).size))
               clear v7 hnn)
          go_wp2_with fail
          refine hK.out _ _ ?_ (fun hHeld => ?_)
          · try dsimp only
            first | exact ⟨d0, d1, d2, d3, d4⟩ | exact ⟨e0, e1, e2, e3, e4⟩ | exact ⟨f0, f1, f2, f3, f4⟩ | exact ⟨g0, g1, g2, g3, g4⟩
          clear hK K
          try simp only [Act.put, List.setIfInBounds_toArray, List.set_cons_zero, List.set_cons_succ]
          refine held_take 7 (oi := { dst := some 128, op := Op.unOp UnOp.not 4 (Operand.tmp 127), type := 4, pos := "law.go:264", after := #[{ on := 6, ground := Ground.data }, { on := 2, ground := Ground.guard }], guard := some (2, false) }) (v := ?_) (by kernel_rfl) rfl (by rfl) (by kernel_rfl) (by kernel_rfl) (fun _ _ _ h => h) ?_ (by assumption) ?_
          rotate_left
          · (intro w hSw; (try dsimp only at hSw); go_simp; try with_reducible rfl)
          try simp only [Act.put, List.setIfInBounds_toArray, List.set_cons_zero, List.set_cons_succ]
          refine held_take 8 (oi := { dst := some 129, op := Op.pick (Operand.tmp 123) (Operand.const (Value.bool true)) (Operand.tmp 128), type := 4, pos := "law.go:264", after := #[{ on := 2, ground := Ground.data }, { on := 7, ground := Ground.data }], guard := none }) (v := ?_) (by kernel_rfl) rfl (by rfl) (by kernel_rfl) (by kernel_rfl) (fun _ _ _ h => h) ?_ (by assumption) ?_
          rotate_left
          · (intro w hSw; (try dsimp only at hSw); go_simp; try with_reducible rfl)
          try simp only [Act.put, List.setIfInBounds_toArray, List.set_cons_zero, List.set_cons_succ]
          refine held_take 9 (oi := { dst := some 130, op := Op.move (Operand.tmp 129), type := 4, pos := "law.go:264", after := #[{ on := 8, ground := Ground.data }, { on := 6, ground := Ground.chain }], guard := none }) (v := ?_) (by kernel_rfl) rfl (by rfl) (by kernel_rfl) (by kernel_rfl) (fun _ _ _ h => h) ?_ (by assumption) ?_
          rotate_left
          · (intro w hSw; (try dsimp only at hSw); go_simp; try with_reducible rfl)
          try simp only [Act.put, List.setIfInBounds_toArray, List.set_cons_zero, List.set_cons_succ]
          refine held_take 10 (oi := { dst := some 131, op := Op.move (Operand.tmp 20), type := 38, pos := "law.go:264", after := #[{ on := 9, ground := Ground.guard }], guard := some (9, false) }) (v := ?_) (by kernel_rfl) rfl (by rfl) (by kernel_rfl) (by kernel_rfl) (fun _ _ _ h => h) ?_ (by assumption) ?_
          rotate_left
          · (intro w hSw; (try dsimp only at hSw); go_simp; try with_reducible rfl)
          try simp only [Act.put, List.setIfInBounds_toArray, List.set_cons_zero, List.set_cons_succ]
          refine held_one 11 (oi := { dst := some 132, op := Op.call { callee := Callee.value (Operand.func 38), args := #[Operand.tmp 131], argTypes := #[38] }, type := 74, pos := "law.go:264", after := #[{ on := 10, ground := Ground.data }, { on := 9, ground := Ground.chain }, { on := 9, ground := Ground.guard }], guard := some (9, false) }) (by kernel_rfl) rfl (fun K hK => ?_)
          go_simp
          first
            | (go_at_call 26
               refine (unhide SC).mono ?_
               rintro e V20 ⟨sp5, k5, hs5, rfl, o5, v5⟩
               unfold stRow
               have e0 := cell_later v5 d0
               have e1 := cell_later v5 d1
               have e2 := cell_later v5 d2
               have e3 := cell_later v5 d3
               have e4 := cell_later v5 d4
               have U20 := hide (show Below V18.heap.size V18 V20 from ⟨v5.os, v5.tape, v5.output, v5.size, v5.block⟩)
               have SA := hide (sameState_any (k := k5) (k' := k4) V20 o5.ents ((unhide TA).later (unhide U20)).a1.en (unhide TA).a1.le (unhide TA).a1.le)
               unfold stRow at SA
               clear o5 v5)
            | (go_at_call 33
               refine (unhide SA).mono ?_
               rintro e V21 ⟨x6, rfl, hx6, v6⟩
               obtain rfl : x6 = true := by first | exact hx6 rfl | exact hx6 trivial
               have f0 := cell_later v6 e0
               have f1 := cell_later v6 e1
               have f2 := cell_later v6 e2
               have f3 := cell_later v6 e3
               have f4 := cell_later v6 e4
               have U21 := hide ((unhide U20).trans (v6.mono (unhide U20).size))
               clear v6 hx6)
            | (go_at_call 38
               refine (unhide NM _ (unhide U21)).mono ?_
               rintro e V22 ⟨np, nn, nc, rfl, hnn, _, v7⟩
               obtain rfl : nn = 1 := by simpa using hnn.symm
               have g0 := cell_later v7 f0
               have g1 := cell_later v7 f1
               have g2 := cell_later v7 f2
               have g3 := cell_later v7 f3
               have g4 := cell_later v7 f4
               have U22 := hide ((unhide U21).trans (v7.mono (unhide U21).size))
               clear v7 hnn)
          go_wp2_with fail
          refine hK.out _ _ ?_ (fun hHeld => ?_)
          · try dsimp only
            first | exact ⟨d0, d1, d2, d3, d4⟩ | exact ⟨e0, e1, e2, e3, e4⟩ | exact ⟨f0, f1, f2, f3, f4⟩ | exact ⟨g0, g1, g2, g3, g4⟩
          clear hK K
          try simp only [Act.put, List.setIfInBounds_toArray, List.set_cons_zero, List.set_cons_succ]
          refine held_take 12 (oi := { dst := some 133, op := Op.call { callee := Callee.builtin Builtin.len, args := #[Operand.tmp 132], argTypes := #[74] }, type := 3, pos := "law.go:264", after := #[{ on := 11, ground := Ground.data }, { on := 9, ground := Ground.guard }], guard := some (9, false) }) (v := ?_) (by kernel_rfl) rfl (by rfl) (by kernel_rfl) (by kernel_rfl) (fun _ _ _ h => h) ?_ (by assumption) ?_
          rotate_left
          · (intro w hSw; (try dsimp only at hSw); go_simp; try with_reducible rfl)
          try simp only [Act.put, List.setIfInBounds_toArray, List.set_cons_zero, List.set_cons_succ]
          refine held_take 13 (oi := { dst := some 134, op := Op.binOp BinOp.neq 3 (Operand.tmp 133) (Operand.const (Value.int IntKind.i64 1)) 3, type := 4, pos := "law.go:264", after := #[{ on := 12, ground := Ground.data }, { on := 9, ground := Ground.guard }], guard := some (9, false) }) (v := ?_) (by kernel_rfl) rfl (by rfl) (by kernel_rfl) (by kernel_rfl) (fun _ _ _ h => h) ?_ (by assumption) ?_
          rotate_left
          · (intro w hSw; (try dsimp only at hSw); go_simp; try with_reducible rfl)
          try simp only [Act.put, List.setIfInBounds_toArray, List.set_cons_zero, List.set_cons_succ]
          refine held_take 14 (oi := { dst := some 135, op := Op.pick (Operand.tmp 130) (Operand.const (Value.bool true)) (Operand.tmp 134), type := 4, pos := "law.go:264", after := #[{ on := 9, ground := Ground.data }, { on := 13, ground := Ground.data }], guard := none }) (v := ?_) (by kernel_rfl) rfl (by rfl) (by kernel_rfl) (by kernel_rfl) (fun _ _ _ h => h) ?_ (by assumption) ?_
          rotate_left
          · (intro w hSw; (try dsimp only at hSw); go_simp; try with_reducible rfl)
          try simp only [Act.put, List.setIfInBounds_toArray, List.set_cons_zero, List.set_cons_succ]
          refine wpAnyH_done (by kernel_rfl) ?_ _
          have TB := hide ((unhide TA).later (unhide U22))
          have DB := hide ((unhide D12').trans (((unhide U19).trans ((unhide U22).mono (unhide U19).size)).mono (unhide D12').size))
          clear TA TW U19 U20 U21 U22 D12' LQ SC NM SA d0 d1 d2 d3 d4 e0 e1 e2 e3 e4 f0 f1 f2 f3 f4 g0 g1 g2 g3 g4
          have NC := hide (anew_calls V22 524288)
          rw [show ((524288 : Int).toNat) = 524288 from rfl] at NC
          go_wp2_with fail
          go_at_call 24
          refine (unhide NC).mono ?_
          rintro e V23 ⟨db, Mb, rfl, h23, v23⟩
          have U23 := hide v23
          have WC := hide (awrite_calls h23 (by omega) (str (walNm 1)) (name_le 1 (by omega)) 0 (by omega) op on on (cat R) (unhide TB).ol (Nat.le_refl _) ((unhide TB).later v23).ob (unhide TB).oz (fun b off e h0 => .inl (bytes_lt (unhide TB).ob b off e (by rw [(unhide TB).ol]; exact h0))) (by omega))
          rw [name_list, dWrite_first 524288 1 (cat R) (by omega) (by rw [(unhide TB).ol]; exact hon) (by rw [(unhide TB).ol]; omega)] at WC
          clear h23 v23 NC
          go_wp2_with fail
          go_at_call 36
          refine (unhide WC).mono ?_
          rintro e V24 ⟨rfl, h24, a24⟩
          have U24 := hide ((unhide U23).trans a24.bel)
          have SY := hide (async_calls h24 (str (walNm 1)) (name_le 1 (by omega)))
          rw [name_list, dSync_first] at SY
          clear h24 a24 WC U23
          go_wp2_with fail
          go_at_call 37
          refine (unhide SY).mono ?_
          rintro e V25 ⟨rfl, h25, a25⟩
          have U25 := hide ((unhide U24).trans a25.bel)
          have WC := hide (awrite_calls h25 (by omega) (str (walNm 2)) (name_le 2 (by omega)) 0 (by omega) fp fn fn (cat F) (unhide TB).fl (Nat.le_refl _) ((unhide TB).later (unhide U25)).fb (unhide TB).fz (fun b off e h0 => .inl (bytes_lt (unhide TB).fb b off e (by rw [(unhide TB).fl]; exact h0))) (by omega))
          rw [name_list, dWrite_12 524288 (cat R) (cat F) (by rw [(unhide TB).fl]; exact hfn) (by rw [(unhide TB).fl, (unhide TB).ol]; omega)] at WC
          clear h25 a25 SY U24
          go_wp2_with fail
          go_at_call 36
          refine (unhide WC).mono ?_
          rintro e V26 ⟨rfl, h26, a26⟩
          have U26 := hide ((unhide U25).trans a26.bel)
          have SY := hide (async_calls h26 (str (walNm 2)) (name_le 2 (by omega)))
          rw [name_list, dSync_12] at SY
          clear h26 a26 WC U25
          go_wp2_with fail
          go_at_call 37
          refine (unhide SY).mono ?_
          rintro e V27 ⟨rfl, h27, a27⟩
          have U27 := hide ((unhide U26).trans a27.bel)
          have HC := hide (acrash_calls h27 none 0 0 [] rfl ⟨by simp, fun i hi => by simp at hi⟩ (fun b off e h0 => by cases e))
          rw [crash_12] at HC
          clear h27 a27 SY U26
          go_wp2_with fail
          go_at_call 32
          refine (unhide HC).mono ?_
          rintro e V28 ⟨rfl, h28, a28⟩
          have U28 := hide ((unhide U27).trans a28.bel)
          obtain ⟨s2, ls2⟩ := (unhide TB).l2
          obtain ⟨q1, q2⟩ := ls2.else_ 524288 (by rw [(unhide TB).fl]; omega)
          have LQ := hide q2
          have OC := hide (open_calls h28 (show ∃ w0 : World, w0.heap.size = V22.heap.size ∧ Tz w0 ∧ Below V22.heap.size w0 V28 from ⟨V22, rfl, (unhide TB).tz, unhide U28⟩) (by omega))
          rw [wOpen_two 524288 1 2 _ _ (by omega) (by omega) (by omega) wal12, q1] at OC
          clear h28 a28 HC U27 q1 q2 ls2
          go_wp2_with fail
          go_at_call 25
          refine (unhide OC).mono ?_
          rintro e V29 ⟨a29, Lb, epb, ecb, hsb, rfl, z29, _⟩
          have U29 := hide ((unhide U28).trans a29.bel)
          have TA := hide ((unhide TB).later (unhide U29))
          have LV := hide (show Calls Tryz.prog 18 #[] V29.drew fun e w' => e = .returned (.bool true) ∧ Below V29.drew.heap.size V29.drew w' from live6_calls _ ((unhide TA).tz.later ((Below.refl _ _).drew)))
          have SC := hide (fun W (u : Below V29.heap.size V29 W) => state_calls (z29.later u) (unhide LQ).ix)
          have NM := hide (fun W (u : Below V29.heap.size V29 W) => anames_calls (z29.later u).dk)
          have FC := hide (fun W (u : Below V29.heap.size V29 W) => file_calls (z29.later u))
          have heqn : ((str (walNm 2)).toList == (str (walNm 2)).toList) = true := by simp
          have d0 : V29.drew.cell? ⟨E2, 0, none⟩ = some (.int .i64 (c'.bi : Int)) := box_cell (unhide TA).a2.row 0 _ rfl
          have d1 : V29.drew.cell? ⟨E2, 1, none⟩ = some (.int .i64 (c'.bt : Int)) := box_cell (unhide TA).a2.row 1 _ rfl
          have d2 : V29.drew.cell? ⟨E2, 2, none⟩ = some (.int .i64 (c'.ht : Int)) := box_cell (unhide TA).a2.row 2 _ rfl
          have d3 : V29.drew.cell? ⟨E2, 3, none⟩ = some (.int .i64 (c'.hv : Int)) := box_cell (unhide TA).a2.row 3 _ rfl
          have d4 : V29.drew.cell? ⟨E2, 4, none⟩ = some (.slice sp9 c'.es.length k9) := box_cell (unhide TA).a2.row 4 _ rfl
          clear a29 z29 OC U28
          go_wp2_with fail
          refine wp_region_held_drew (S := fun w' => w'.cell? ⟨E2, 0, none⟩ = some (.int .i64 (c'.bi : Int)) ∧ w'.cell? ⟨E2, 1, none⟩ = some (.int .i64 (c'.bt : Int)) ∧ w'.cell? ⟨E2, 2, none⟩ = some (.int .i64 (c'.ht : Int)) ∧ w'.cell? ⟨E2, 3, none⟩ = some (.int .i64 (c'.hv : Int)) ∧ w'.cell? ⟨E2, 4, none⟩ = some (.slice sp9 c'.es.length k9)) (by kernel_rfl) ?_ (fun hHeld => ?_)
          · try dsimp only
            first | exact ⟨d0, d1, d2, d3, d4⟩ | exact ⟨e0, e1, e2, e3, e4⟩ | exact ⟨f0, f1, f2, f3, f4⟩ | exact ⟨g0, g1, g2, g3, g4⟩ | exact ⟨h0, h1, h2, h3, h4⟩ | exact ⟨i0, i1, i2, i3, i4⟩
          refine held_one 0 (oi := { dst := some 158, op := Op.call { callee := Callee.value (Operand.func 18), args := #[], argTypes := #[] }, type := 4, pos := "law.go:275", after := #[], guard := none }) (by kernel_rfl) rfl (fun K hK => ?_)
          go_simp
          first
            | (go_at_call 18
               refine (unhide LV).mono ?_
               rintro e V30 ⟨rfl, v5⟩
               have e0 := cell_later v5 d0
               have e1 := cell_later v5 d1
               have e2 := cell_later v5 d2
               have e3 := cell_later v5 d3
               have e4 := cell_later v5 d4
               have U30 := hide (show Below V29.heap.size V29 V30 from ⟨v5.os, v5.tape, v5.output, v5.size, v5.block⟩)
               clear v5)
            | (go_at_call 26
               refine (unhide SC _ (unhide U30)).mono ?_
               rintro e V31 ⟨sp5, k5, hs5, rfl, o5, v5⟩
               unfold stRow
               have f0 := cell_later v5 e0
               have f1 := cell_later v5 e1
               have f2 := cell_later v5 e2
               have f3 := cell_later v5 e3
               have f4 := cell_later v5 e4
               have U31 := hide ((unhide U30).trans (v5.mono (unhide U30).size))
               have SA := hide (sameState_any (k := k5) (k' := k9) V31 o5.ents ((unhide TA).later (unhide U31)).a2.en (unhide TA).a2.le (unhide TA).a2.le)
               unfold stRow at SA
               clear o5 v5)
            | (go_at_call 33
               refine (unhide SA).mono ?_
               rintro e V32 ⟨x6, rfl, hx6, v6⟩
               obtain rfl : x6 = true := by first | exact hx6 rfl | exact hx6 trivial
               have g0 := cell_later v6 f0
               have g1 := cell_later v6 f1
               have g2 := cell_later v6 f2
               have g3 := cell_later v6 f3
               have g4 := cell_later v6 f4
               have U32 := hide ((unhide U31).trans (v6.mono (unhide U31).size))
               clear v6 hx6)
            | (go_at_call 38
               refine (unhide NM _ (unhide U32)).mono ?_
               rintro e V33 ⟨np, nn, nc, rfl, hnn, _, v7⟩
               obtain rfl : nn = 1 := by simpa using hnn.symm
               have h0 := cell_later v7 g0
               have h1 := cell_later v7 g1
               have h2 := cell_later v7 g2
               have h3 := cell_later v7 g3
               have h4 := cell_later v7 g4
               have U33 := hide ((unhide U32).trans (v7.mono (unhide U32).size))
               clear v7 hnn)
            | (go_at_call 34
               refine (unhide FC _ (unhide U33)).mono ?_
               rintro e V34 ⟨rfl, v8⟩
               have i0 := cell_later v8 h0
               have i1 := cell_later v8 h1
               have i2 := cell_later v8 h2
               have i3 := cell_later v8 h3
               have i4 := cell_later v8 h4
               have U34 := hide ((unhide U33).trans (v8.mono (unhide U33).size))
               clear v8)
          go_wp2_with fail
          refine hK.out _ _ ?_ (fun hHeld => ?_)
          · try dsimp only
            first | exact ⟨d0, d1, d2, d3, d4⟩ | exact ⟨e0, e1, e2, e3, e4⟩ | exact ⟨f0, f1, f2, f3, f4⟩ | exact ⟨g0, g1, g2, g3, g4⟩ | exact ⟨h0, h1, h2, h3, h4⟩ | exact ⟨i0, i1, i2, i3, i4⟩
          clear hK K
          try simp only [Act.put, List.setIfInBounds_toArray, List.set_cons_zero, List.set_cons_succ]
          refine held_take 1 (oi := { dst := some 159, op := Op.move (Operand.tmp 158), type := 4, pos := "law.go:275", after := #[{ on := 0, ground := Ground.data }, { on := 0, ground := Ground.chain }], guard := none }) (v := ?_) (by kernel_rfl) rfl (by rfl) (by kernel_rfl) (by kernel_rfl) (fun _ _ _ h => h) ?_ (by assumption) ?_
          rotate_left
          · (intro w hSw; (try dsimp only at hSw); go_simp; try with_reducible rfl)
          try simp only [Act.put, List.setIfInBounds_toArray, List.set_cons_zero, List.set_cons_succ]
          refine held_take 2 (oi := { dst := some 160, op := Op.move (Operand.tmp 24), type := 49, pos := "law.go:275", after := #[{ on := 1, ground := Ground.guard }], guard := some (1, true) }) (v := ?_) (by kernel_rfl) rfl (by rfl) (by kernel_rfl) (by kernel_rfl) (fun _ _ _ h => h) ?_ (by assumption) ?_
          rotate_left
          · (intro w hSw; (try dsimp only at hSw); go_simp; try with_reducible rfl)
          try simp only [Act.put, List.setIfInBounds_toArray, List.set_cons_zero, List.set_cons_succ]
          refine held_take 3 (oi := { dst := some 161, op := Op.binOp BinOp.eql 49 (Operand.tmp 160) (Operand.const (Value.int IntKind.i64 0)) 49, type := 4, pos := "law.go:275", after := #[{ on := 2, ground := Ground.data }, { on := 1, ground := Ground.guard }], guard := some (1, true) }) (v := ?_) (by kernel_rfl) rfl (by rfl) (by kernel_rfl) (by kernel_rfl) (fun _ _ _ h => h) ?_ (by assumption) ?_
          rotate_left
          · (intro w hSw; (try dsimp only at hSw); go_simp; try with_reducible rfl)
          try simp only [Act.put, List.setIfInBounds_toArray, List.set_cons_zero, List.set_cons_succ]
          refine held_take 4 (oi := { dst := some 162, op := Op.pick (Operand.tmp 159) (Operand.tmp 161) (Operand.const (Value.bool false)), type := 4, pos := "law.go:275", after := #[{ on := 1, ground := Ground.data }, { on := 3, ground := Ground.data }], guard := none }) (v := ?_) (by kernel_rfl) rfl (by rfl) (by kernel_rfl) (by kernel_rfl) (fun _ _ _ h => h) ?_ (by assumption) ?_
          rotate_left
          · (intro w hSw; (try dsimp only at hSw); go_simp; try with_reducible rfl)
          try simp only [Act.put, List.setIfInBounds_toArray, List.set_cons_zero, List.set_cons_succ]
          refine held_take 5 (oi := { dst := some 163, op := Op.move (Operand.tmp 162), type := 4, pos := "law.go:275", after := #[{ on := 4, ground := Ground.data }, { on := 1, ground := Ground.chain }], guard := none }) (v := ?_) (by kernel_rfl) rfl (by rfl) (by kernel_rfl) (by kernel_rfl) (fun _ _ _ h => h) ?_ (by assumption) ?_
          rotate_left
          · (intro w hSw; (try dsimp only at hSw); go_simp; try with_reducible rfl)
          try simp only [Act.put, List.setIfInBounds_toArray, List.set_cons_zero, List.set_cons_succ]
          refine held_take 6 (oi := { dst := some 164, op := Op.move (Operand.tmp 23), type := 39, pos := "law.go:275", after := #[{ on := 5, ground := Ground.guard }], guard := some (5, true) }) (v := ?_) (by kernel_rfl) rfl (by rfl) (by kernel_rfl) (by kernel_rfl) (fun _ _ _ h => h) ?_ (by assumption) ?_
          rotate_left
          · (intro w hSw; (try dsimp only at hSw); go_simp; try with_reducible rfl)
          try simp only [Act.put, List.setIfInBounds_toArray, List.set_cons_zero, List.set_cons_succ]
          refine held_take 8 (oi := { dst := some 166, op := Op.load 53 (Operand.tmp 16), type := 53, pos := "law.go:275", after := #[{ on := 5, ground := Ground.guard }], guard := some (5, true) }) (v := ?_) (by kernel_rfl) rfl (by rfl) (by kernel_rfl) (by kernel_rfl) (fun _ _ _ h => h) ?_ (by assumption) ?_
          rotate_left
          · (intro w hSw; (try dsimp only at hSw); go_simp; try with_reducible rfl)
          try simp only [Act.put, List.setIfInBounds_toArray, List.set_cons_zero, List.set_cons_succ]
          refine held_one 7 (oi := { dst := some 165, op := Op.call { callee := Callee.value (Operand.func 26), args := #[Operand.tmp 164], argTypes := #[39] }, type := 53, pos := "law.go:275", after := #[{ on := 6, ground := Ground.data }, { on := 5, ground := Ground.chain }, { on := 5, ground := Ground.guard }], guard := some (5, true) }) (by kernel_rfl) rfl (fun K hK => ?_)
          go_simp
          first
            | (go_at_call 18
               refine (unhide LV).mono ?_
               rintro e V30 ⟨rfl, v5⟩
               have e0 := cell_later v5 d0
               have e1 := cell_later v5 d1
               have e2 := cell_later v5 d2
               have e3 := cell_later v5 d3
               have e4 := cell_later v5 d4
               have U30 := hide (show Below V29.heap.size V29 V30 from ⟨v5.os, v5.tape, v5.output, v5.size, v5.block⟩)
               clear v5)
            | (go_at_call 26
               refine (unhide SC _ (unhide U30)).mono ?_
               rintro e V31 ⟨sp5, k5, hs5, rfl, o5, v5⟩
               unfold stRow
               have f0 := cell_later v5 e0
               have f1 := cell_later v5 e1
               have f2 := cell_later v5 e2
               have f3 := cell_later v5 e3
               have f4 := cell_later v5 e4
               have U31 := hide ((unhide U30).trans (v5.mono (unhide U30).size))
               have SA := hide (sameState_any (k := k5) (k' := k9) V31 o5.ents ((unhide TA).later (unhide U31)).a2.en (unhide TA).a2.le (unhide TA).a2.le)
               unfold stRow at SA
               clear o5 v5)
            | (go_at_call 33
               refine (unhide SA).mono ?_
               rintro e V32 ⟨x6, rfl, hx6, v6⟩
               obtain rfl : x6 = true := by first | exact hx6 rfl | exact hx6 trivial
               have g0 := cell_later v6 f0
               have g1 := cell_later v6 f1
               have g2 := cell_later v6 f2
               have g3 := cell_later v6 f3
               have g4 := cell_later v6 f4
               have U32 := hide ((unhide U31).trans (v6.mono (unhide U31).size))
               clear v6 hx6)
            | (go_at_call 38
               refine (unhide NM _ (unhide U32)).mono ?_
               rintro e V33 ⟨np, nn, nc, rfl, hnn, _, v7⟩
               obtain rfl : nn = 1 := by simpa using hnn.symm
               have h0 := cell_later v7 g0
               have h1 := cell_later v7 g1
               have h2 := cell_later v7 g2
               have h3 := cell_later v7 g3
               have h4 := cell_later v7 g4
               have U33 := hide ((unhide U32).trans (v7.mono (unhide U32).size))
               clear v7 hnn)
            | (go_at_call 34
               refine (unhide FC _ (unhide U33)).mono ?_
               rintro e V34 ⟨rfl, v8⟩
               have i0 := cell_later v8 h0
               have i1 := cell_later v8 h1
               have i2 := cell_later v8 h2
               have i3 := cell_later v8 h3
               have i4 := cell_later v8 h4
               have U34 := hide ((unhide U33).trans (v8.mono (unhide U33).size))
               clear v8)
          go_wp2_with fail
          refine hK.out _ _ ?_ (fun hHeld => ?_)
          · try dsimp only
            first | exact ⟨d0, d1, d2, d3, d4⟩ | exact ⟨e0, e1, e2, e3, e4⟩ | exact ⟨f0, f1, f2, f3, f4⟩ | exact ⟨g0, g1, g2, g3, g4⟩ | exact ⟨h0, h1, h2, h3, h4⟩ | exact ⟨i0, i1, i2, i3, i4⟩
          clear hK K
          try simp only [Act.put, List.setIfInBounds_toArray, List.set_cons_zero, List.set_cons_succ]
          refine held_one 9 (oi := { dst := some 167, op := Op.call { callee := Callee.value (Operand.func 33), args := #[Operand.tmp 165, Operand.tmp 166], argTypes := #[53, 53] }, type := 4, pos := "law.go:275", after := #[{ on := 7, ground := Ground.data }, { on := 8, ground := Ground.data }, { on := 7, ground := Ground.chain }, { on := 5, ground := Ground.guard }], guard := some (5, true) }) (by kernel_rfl) rfl (fun K hK => ?_)
          go_simp
          first
            | (go_at_call 18
               refine (unhide LV).mono ?_
               rintro e V30 ⟨rfl, v5⟩
               have e0 := cell_later v5 d0
               have e1 := cell_later v5 d1
               have e2 := cell_later v5 d2
               have e3 := cell_later v5 d3
               have e4 := cell_later v5 d4
               have U30 := hide (show Below V29.heap.size V29 V30 from ⟨v5.os, v5.tape, v5.output, v5.size, v5.block⟩)
               clear v5)
            | (go_at_call 26
               refine (unhide SC _ (unhide U30)).mono ?_
               rintro e V31 ⟨sp5, k5, hs5, rfl, o5, v5⟩
               unfold stRow
               have f0 := cell_later v5 e0
               have f1 := cell_later v5 e1
               have f2 := cell_later v5 e2
               have f3 := cell_later v5 e3
               have f4 := cell_later v5 e4
               have U31 := hide ((unhide U30).trans (v5.mono (unhide U30).size))
               have SA := hide (sameState_any (k := k5) (k' := k9) V31 o5.ents ((unhide TA).later (unhide U31)).a2.en (unhide TA).a2.le (unhide TA).a2.le)
               unfold stRow at SA
               clear o5 v5)
            | (go_at_call 33
               refine (unhide SA).mono ?_
               rintro e V32 ⟨x6, rfl, hx6, v6⟩
               obtain rfl : x6 = true := by first | exact hx6 rfl | exact hx6 trivial
               have g0 := cell_later v6 f0
               have g1 := cell_later v6 f1
               have g2 := cell_later v6 f2
               have g3 := cell_later v6 f3
               have g4 := cell_later v6 f4
               have U32 := hide ((unhide U31).trans (v6.mono (unhide U31).size))
               clear v6 hx6)
            | (go_at_call 38
               refine (unhide NM _ (unhide U32)).mono ?_
               rintro e V33 ⟨np, nn, nc, rfl, hnn, _, v7⟩
               obtain rfl : nn = 1 := by simpa using hnn.symm
               have h0 := cell_later v7 g0
               have h1 := cell_later v7 g1
               have h2 := cell_later v7 g2
               have h3 := cell_later v7 g3
               have h4 := cell_later v7 g4
               have U33 := hide ((unhide U32).trans (v7.mono (unhide U32).size))
               clear v7 hnn)
            | (go_at_call 34
               refine (unhide FC _ (unhide U33)).mono ?_
               rintro e V34 ⟨rfl, v8⟩
               have i0 := cell_later v8 h0
               have i1 := cell_later v8 h1
               have i2 := cell_later v8 h2
               have i3 := cell_later v8 h3
               have i4 := cell_later v8 h4
               have U34 := hide ((unhide U33).trans (v8.mono (unhide U33).size))
               clear v8)
          go_wp2_with fail
          refine hK.out _ _ ?_ (fun hHeld => ?_)
          · try dsimp only
            first | exact ⟨d0, d1, d2, d3, d4⟩ | exact ⟨e0, e1, e2, e3, e4⟩ | exact ⟨f0, f1, f2, f3, f4⟩ | exact ⟨g0, g1, g2, g3, g4⟩ | exact ⟨h0, h1, h2, h3, h4⟩ | exact ⟨i0, i1, i2, i3, i4⟩
          clear hK K
          try simp only [Act.put, List.setIfInBounds_toArray, List.set_cons_zero, List.set_cons_succ]
          refine held_take 10 (oi := { dst := some 168, op := Op.pick (Operand.tmp 163) (Operand.tmp 167) (Operand.const (Value.bool false)), type := 4, pos := "law.go:275", after := #[{ on := 5, ground := Ground.data }, { on := 9, ground := Ground.data }], guard := none }) (v := ?_) (by kernel_rfl) rfl (by rfl) (by kernel_rfl) (by kernel_rfl) (fun _ _ _ h => h) ?_ (by assumption) ?_
          rotate_left
          · (intro w hSw; (try dsimp only at hSw); go_simp; try with_reducible rfl)
          try simp only [Act.put, List.setIfInBounds_toArray, List.set_cons_zero, List.set_cons_succ]
          refine held_take 11 (oi := { dst := some 169, op := Op.move (Operand.tmp 168), type := 4, pos := "law.go:275", after := #[{ on := 10, ground := Ground.data }, { on := 9, ground := Ground.chain }], guard := none }) (v := ?_) (by kernel_rfl) rfl (by rfl) (by kernel_rfl) (by kernel_rfl) (fun _ _ _ h => h) ?_ (by assumption) ?_
          rotate_left
          · (intro w hSw; (try dsimp only at hSw); go_simp; try with_reducible rfl)
          try simp only [Act.put, List.setIfInBounds_toArray, List.set_cons_zero, List.set_cons_succ]
          refine held_take 12 (oi := { dst := some 170, op := Op.move (Operand.tmp 22), type := 38, pos := "law.go:275", after := #[{ on := 11, ground := Ground.guard }], guard := some (11, true) }) (v := ?_) (by kernel_rfl) rfl (by rfl) (by kernel_rfl) (by kernel_rfl) (fun _ _ _ h => h) ?_ (by assumption) ?_
          rotate_left
          · (intro w hSw; (try dsimp only at hSw); go_simp; try with_reducible rfl)
          try simp only [Act.put, List.setIfInBounds_toArray, List.set_cons_zero, List.set_cons_succ]
          refine held_one 13 (oi := { dst := some 171, op := Op.call { callee := Callee.value (Operand.func 38), args := #[Operand.tmp 170], argTypes := #[38] }, type := 74, pos := "law.go:275", after := #[{ on := 12, ground := Ground.data }, { on := 11, ground := Ground.chain }, { on := 11, ground := Ground.guard }], guard := some (11, true) }) (by kernel_rfl) rfl (fun K hK => ?_)
          go_simp
          first
            | (go_at_call 18
               refine (unhide LV).mono ?_
               rintro e V30 ⟨rfl, v5⟩
               have e0 := cell_later v5 d0
               have e1 := cell_later v5 d1
               have e2 := cell_later v5 d2
               have e3 := cell_later v5 d3
               have e4 := cell_later v5 d4
               have U30 := hide (show Below V29.heap.size V29 V30 from ⟨v5.os, v5.tape, v5.output, v5.size, v5.block⟩)
               clear v5)
            | (go_at_call 26
               refine (unhide SC _ (unhide U30)).mono ?_
               rintro e V31 ⟨sp5, k5, hs5, rfl, o5, v5⟩
               unfold stRow
               have f0 := cell_later v5 e0
               have f1 := cell_later v5 e1
               have f2 := cell_later v5 e2
               have f3 := cell_later v5 e3
               have f4 := cell_later v5 e4
               have U31 := hide ((unhide U30).trans (v5.mono (unhide U30).size))
               have SA := hide (sameState_any (k := k5) (k' := k9) V31 o5.ents ((unhide TA).later (unhide U31)).a2.en (unhide TA).a2.le (unhide TA).a2.le)
               unfold stRow at SA
               clear o5 v5)
            | (go_at_call 33
               refine (unhide SA).mono ?_
               rintro e V32 ⟨x6, rfl, hx6, v6⟩
               obtain rfl : x6 = true := by first | exact hx6 rfl | exact hx6 trivial
               have g0 := cell_later v6 f0
               have g1 := cell_later v6 f1
               have g2 := cell_later v6 f2
               have g3 := cell_later v6 f3
               have g4 := cell_later v6 f4
               have U32 := hide ((unhide U31).trans (v6.mono (unhide U31).size))
               clear v6 hx6)
            | (go_at_call 38
               refine (unhide NM _ (unhide U32)).mono ?_
               rintro e V33 ⟨np, nn, nc, rfl, hnn, _, v7⟩
               obtain rfl : nn = 1 := by simpa using hnn.symm
               have h0 := cell_later v7 g0
               have h1 := cell_later v7 g1
               have h2 := cell_later v7 g2
               have h3 := cell_later v7 g3
               have h4 := cell_later v7 g4
               have U33 := hide ((unhide U32).trans (v7.mono (unhide U32).size))
               clear v7 hnn)
            | (go_at_call 34
               refine (unhide FC _ (unhide U33)).mono ?_
               rintro e V34 ⟨rfl, v8⟩
               have i0 := cell_later v8 h0
               have i1 := cell_later v8 h1
               have i2 := cell_later v8 h2
               have i3 := cell_later v8 h3
               have i4 := cell_later v8 h4
               have U34 := hide ((unhide U33).trans (v8.mono (unhide U33).size))
               clear v8)
          go_wp2_with fail
          refine hK.out _ _ ?_ (fun hHeld => ?_)
          · try dsimp only
            first | exact ⟨d0, d1, d2, d3, d4⟩ | exact ⟨e0, e1, e2, e3, e4⟩ | exact ⟨f0, f1, f2, f3, f4⟩ | exact ⟨g0, g1, g2, g3, g4⟩ | exact ⟨h0, h1, h2, h3, h4⟩ | exact ⟨i0, i1, i2, i3, i4⟩
          clear hK K
          try simp only [Act.put, List.setIfInBounds_toArray, List.set_cons_zero, List.set_cons_succ]
          refine held_take 14 (oi := { dst := some 172, op := Op.call { callee := Callee.builtin Builtin.len, args := #[Operand.tmp 171], argTypes := #[74] }, type := 3, pos := "law.go:275", after := #[{ on := 13, ground := Ground.data }, { on := 11, ground := Ground.guard }], guard := some (11, true) }) (v := ?_) (by kernel_rfl) rfl (by rfl) (by kernel_rfl) (by kernel_rfl) (fun _ _ _ h => h) ?_ (by assumption) ?_
          rotate_left
          · (intro w hSw; (try dsimp only at hSw); go_simp; try with_reducible rfl)
          try simp only [Act.put, List.setIfInBounds_toArray, List.set_cons_zero, List.set_cons_succ]
          refine held_take 15 (oi := { dst := some 173, op := Op.binOp BinOp.eql 3 (Operand.tmp 172) (Operand.const (Value.int IntKind.i64 1)) 3, type := 4, pos := "law.go:275", after := #[{ on := 14, ground := Ground.data }, { on := 11, ground := Ground.guard }], guard := some (11, true) }) (v := ?_) (by kernel_rfl) rfl (by rfl) (by kernel_rfl) (by kernel_rfl) (fun _ _ _ h => h) ?_ (by assumption) ?_
          rotate_left
          · (intro w hSw; (try dsimp only at hSw); go_simp; try with_reducible rfl)
          try simp only [Act.put, List.setIfInBounds_toArray, List.set_cons_zero, List.set_cons_succ]
          refine held_take 16 (oi := { dst := some 174, op := Op.pick (Operand.tmp 169) (Operand.tmp 173) (Operand.const (Value.bool false)), type := 4, pos := "law.go:275", after := #[{ on := 11, ground := Ground.data }, { on := 15, ground := Ground.data }], guard := none }) (v := ?_) (by kernel_rfl) rfl (by rfl) (by kernel_rfl) (by kernel_rfl) (fun _ _ _ h => h) ?_ (by assumption) ?_
          rotate_left
          · (intro w hSw; (try dsimp only at hSw); go_simp; try with_reducible rfl)
          try simp only [Act.put, List.setIfInBounds_toArray, List.set_cons_zero, List.set_cons_succ]
          refine held_take 17 (oi := { dst := some 175, op := Op.move (Operand.tmp 174), type := 4, pos := "law.go:275", after := #[{ on := 16, ground := Ground.data }, { on := 13, ground := Ground.chain }], guard := none }) (v := ?_) (by kernel_rfl) rfl (by rfl) (by kernel_rfl) (by kernel_rfl) (fun _ _ _ h => h) ?_ (by assumption) ?_
          rotate_left
          · (intro w hSw; (try dsimp only at hSw); go_simp; try with_reducible rfl)
          try simp only [Act.put, List.setIfInBounds_toArray, List.set_cons_zero, List.set_cons_succ]
          refine held_take 18 (oi := { dst := some 176, op := Op.move (Operand.tmp 23), type := 39, pos := "law.go:275", after := #[{ on := 17, ground := Ground.guard }], guard := some (17, true) }) (v := ?_) (by kernel_rfl) rfl (by rfl) (by kernel_rfl) (by kernel_rfl) (fun _ _ _ h => h) ?_ (by assumption) ?_
          rotate_left
          · (intro w hSw; (try dsimp only at hSw); go_simp; try with_reducible rfl)
          try simp only [Act.put, List.setIfInBounds_toArray, List.set_cons_zero, List.set_cons_succ]
          refine held_take 20 (oi := { dst := some 178, op := Op.move (Operand.tmp 19), type := 9, pos := "law.go:275", after := #[{ on := 17, ground := Ground.guard }], guard := some (17, true) }) (v := ?_) (by kernel_rfl) rfl (by rfl) (by kernel_rfl) (by kernel_rfl) (fun _ _ _ h => h) ?_ (by assumption) ?_
          rotate_left
          · (intro w hSw; (try dsimp only at hSw); go_simp; try with_reducible rfl)
          try simp only [Act.put, List.setIfInBounds_toArray, List.set_cons_zero, List.set_cons_succ]
          refine held_one 19 (oi := { dst := some 177, op := Op.call { callee := Callee.value (Operand.func 34), args := #[Operand.tmp 176], argTypes := #[39] }, type := 9, pos := "law.go:275", after := #[{ on := 18, ground := Ground.data }, { on := 17, ground := Ground.chain }, { on := 17, ground := Ground.guard }], guard := some (17, true) }) (by kernel_rfl) rfl (fun K hK => ?_)
          go_simp
          first
            | (go_at_call 18
               refine (unhide LV).mono ?_
               rintro e V30 ⟨rfl, v5⟩
               have e0 := cell_later v5 d0
               have e1 := cell_later v5 d1
               have e2 := cell_later v5 d2
               have e3 := cell_later v5 d3
               have e4 := cell_later v5 d4
               have U30 := hide (show Below V29.heap.size V29 V30 from ⟨v5.os, v5.tape, v5.output, v5.size, v5.block⟩)
               clear v5)
            | (go_at_call 26
               refine (unhide SC _ (unhide U30)).mono ?_
               rintro e V31 ⟨sp5, k5, hs5, rfl, o5, v5⟩
               unfold stRow
               have f0 := cell_later v5 e0
               have f1 := cell_later v5 e1
               have f2 := cell_later v5 e2
               have f3 := cell_later v5 e3
               have f4 := cell_later v5 e4
               have U31 := hide ((unhide U30).trans (v5.mono (unhide U30).size))
               have SA := hide (sameState_any (k := k5) (k' := k9) V31 o5.ents ((unhide TA).later (unhide U31)).a2.en (unhide TA).a2.le (unhide TA).a2.le)
               unfold stRow at SA
               clear o5 v5)
            | (go_at_call 33
               refine (unhide SA).mono ?_
               rintro e V32 ⟨x6, rfl, hx6, v6⟩
               obtain rfl : x6 = true := by first | exact hx6 rfl | exact hx6 trivial
               have g0 := cell_later v6 f0
               have g1 := cell_later v6 f1
               have g2 := cell_later v6 f2
               have g3 := cell_later v6 f3
               have g4 := cell_later v6 f4
               have U32 := hide ((unhide U31).trans (v6.mono (unhide U31).size))
               clear v6 hx6)
            | (go_at_call 38
               refine (unhide NM _ (unhide U32)).mono ?_
               rintro e V33 ⟨np, nn, nc, rfl, hnn, _, v7⟩
               obtain rfl : nn = 1 := by simpa using hnn.symm
               have h0 := cell_later v7 g0
               have h1 := cell_later v7 g1
               have h2 := cell_later v7 g2
               have h3 := cell_later v7 g3
               have h4 := cell_later v7 g4
               have U33 := hide ((unhide U32).trans (v7.mono (unhide U32).size))
               clear v7 hnn)
            | (go_at_call 34
               refine (unhide FC _ (unhide U33)).mono ?_
               rintro e V34 ⟨rfl, v8⟩
               have i0 := cell_later v8 h0
               have i1 := cell_later v8 h1
               have i2 := cell_later v8 h2
               have i3 := cell_later v8 h3
               have i4 := cell_later v8 h4
               have U34 := hide ((unhide U33).trans (v8.mono (unhide U33).size))
               clear v8)
          go_wp2_with fail
          refine hK.out _ _ ?_ (fun hHeld => ?_)
          · try dsimp only
            first | exact ⟨d0, d1, d2, d3, d4⟩ | exact ⟨e0, e1, e2, e3, e4⟩ | exact ⟨f0, f1, f2, f3, f4⟩ | exact ⟨g0, g1, g2, g3, g4⟩ | exact ⟨h0, h1, h2, h3, h4⟩ | exact ⟨i0, i1, i2, i3, i4⟩
          clear hK K
          try simp only [Act.put, List.setIfInBounds_toArray, List.set_cons_zero, List.set_cons_succ]
          refine held_take 21 (oi := { dst := some 179, op := Op.binOp BinOp.eql 9 (Operand.tmp 177) (Operand.tmp 178) 9, type := 4, pos := "law.go:275", after := #[{ on := 19, ground := Ground.data }, { on := 20, ground := Ground.data }, { on := 17, ground := Ground.guard }], guard := some (17, true) }) (v := ?_) (by kernel_rfl) rfl (by rfl) (by kernel_rfl) (by kernel_rfl) (fun _ _ _ h => h) ?_ (by assumption) ?_
          rotate_left
          · (intro w hSw; (try dsimp only at hSw); go_simp; try with_reducible rfl)
          try simp only [Act.put, List.setIfInBounds_toArray, List.set_cons_zero, List.set_cons_succ]
          refine held_take 22 (oi := { dst := some 180, op := Op.pick (Operand.tmp 175) (Operand.tmp 179) (Operand.const (Value.bool false)), type := 4, pos := "law.go:275", after := #[{ on := 17, ground := Ground.data }, { on := 21, ground := Ground.data }], guard := none }) (v := ?_) (by kernel_rfl) rfl (by rfl) (by kernel_rfl) (by kernel_rfl) (fun _ _ _ h => h) ?_ (by assumption) ?_
          rotate_left
          · (intro w hSw; (try dsimp only at hSw); go_simp; try with_reducible rfl)
          try simp only [Act.put, List.setIfInBounds_toArray, List.set_cons_zero, List.set_cons_succ]
          refine held_take 23 (oi := { dst := some 6, op := Op.assign (Operand.tmp 180), type := 4, pos := "law.go:275", after := #[{ on := 22, ground := Ground.data }, { on := 19, ground := Ground.chain }, { on := 0, ground := Ground.phase }, { on := 1, ground := Ground.phase }, { on := 2, ground := Ground.phase }, { on := 3, ground := Ground.phase }, { on := 4, ground := Ground.phase }, { on := 5, ground := Ground.phase }, { on := 6, ground := Ground.phase }, { on := 7, ground := Ground.phase }, { on := 8, ground := Ground.phase }, { on := 9, ground := Ground.phase }, { on := 10, ground := Ground.phase }, { on := 11, ground := Ground.phase }, { on := 12, ground := Ground.phase }, { on := 13, ground := Ground.phase }, { on := 14, ground := Ground.phase }, { on := 15, ground := Ground.phase }, { on := 16, ground := Ground.phase }, { on := 17, ground := Ground.phase }, { on := 18, ground := Ground.phase }, { on := 19, ground := Ground.phase }, { on := 20, ground := Ground.phase }, { on := 21, ground := Ground.phase }, { on := 22, ground := Ground.phase }], guard := none }) (v := ?_) (by kernel_rfl) rfl (by rfl) (by kernel_rfl) (by kernel_rfl) (fun _ _ _ h => h) ?_ (by assumption) ?_
          rotate_left
          · (intro w hSw; (try dsimp only at hSw); go_simp; try with_reducible rfl)
          try simp only [Act.put, List.setIfInBounds_toArray, List.set_cons_zero, List.set_cons_succ]
          refine wpAnyH_done (by kernel_rfl) ?_ _
          have FE := hide ((unhide DB).trans (((unhide U29).trans ((unhide U34).mono (unhide U29).size)).mono (unhide DB).size))
          go_wp2
          go_ret
          exact ⟨rfl, unhide FE⟩
        · rw [hw] at CC
          have hr2 : ((r : Int) == 0) = false := by simp [hr]
          have hr1 : ¬ (r : Int) = 0 := by omega
          generalize (r : Int) = ri at *
          clear hw
          go_wp2_with fail
          go_at_call 30
          refine (unhide CC).mono ?_
          rintro e V8 ⟨rfl, ⟨ep8, ec8, hs8, z8⟩, a8⟩
          obtain ⟨st8, bx8⟩ := unhide KX V8 a8
          have A8 := hide st8
          have SC := hide (state_calls z8 (unhide LSY).ix)
          have x0 : V8.cell? ⟨E1, 0, none⟩ = some (.int .i64 (c.bi : Int)) := box_cell st8.row 0 _ rfl
          have D8 := hide ((unhide D7).trans a8.bel)
          clear st8 bx8 z8 a8 CC KX
          go_wp2_with fail
          clear x0
          go_at_call 26
          refine (unhide SC).mono ?_
          rintro e V9 ⟨sp9, k9, hs9, rfl, o9, v9⟩
          unfold stRow
          have U9 := hide ((Below.refl V9.heap.size V9).alloc (Nat.le_refl _) (.cells #[.int .i64 (c.bi : Int), .int .i64 (c.bt : Int), .int .i64 (c.ht : Int), .int .i64 (c.hv : Int), .slice sp9 c.es.length k9] 53))
          have X9 := hide (heap_new V9 (.cells #[.int .i64 (c.bi : Int), .int .i64 (c.bt : Int), .int .i64 (c.ht : Int), .int .i64 (c.hv : Int), .slice sp9 c.es.length k9] 53))
          have A9 := hide (show StAt (V9.alloc (.cells #[.int .i64 (c.bi : Int), .int .i64 (c.bt : Int), .int .i64 (c.ht : Int), .int .i64 (c.hv : Int), .slice sp9 c.es.length k9] 53)) V9.heap.size c sp9 k9 from ⟨unhide X9, (o9.later (unhide U9)).ents, ownL_le o9⟩)
          have B9 := hide (((unhide A8).later v9).later (unhide U9))
          have D9 := hide ((unhide D8).trans ((v9.trans ((unhide U9).mono v9.size)).mono (unhide D8).size))
          clear o9 v9 SC U9 X9 A8
          go_wp2_with fail
          generalize V9.alloc _ = W9 at *
          generalize V9.heap.size = E2 at *
          go_at_call 18
          refine (live6_calls _ ((unhide T0).later (unhide D9))).mono ?_
          rintro e W10 ⟨rfl, v10⟩
          have A10 := hide ((unhide A9).later v10)
          have B10 := hide ((unhide B9).later v10)
          have D10 := hide ((unhide D9).trans (v10.mono (unhide D9).size))
          have SA := hide (sameState_any (k := k9) (k' := k4) W10 (unhide A10).en (unhide B10).en (unhide LE) (unhide LE))
          unfold stRow at SA
          have x0 := box_cell (unhide A10).row 0 _ rfl
          have x1 := box_cell (unhide A10).row 1 _ rfl
          have x2 := box_cell (unhide A10).row 2 _ rfl
          have x3 := box_cell (unhide A10).row 3 _ rfl
          have x4 := box_cell (unhide A10).row 4 _ rfl
          have y0 := box_cell (unhide B10).row 0 _ rfl
          have y1 := box_cell (unhide B10).row 1 _ rfl
          have y2 := box_cell (unhide B10).row 2 _ rfl
          have y3 := box_cell (unhide B10).row 3 _ rfl
          have y4 := box_cell (unhide B10).row 4 _ rfl
          clear v10
          go_wp2_with fail
          clear x0 x1 x2 x3 x4 y0 y1 y2 y3 y4
          go_at_call 33
          refine (unhide SA).mono ?_
          rintro e V11 ⟨x11, rfl, hx11, v11⟩
          obtain rfl : x11 = true := by first | exact hx11 rfl | exact hx11 trivial
          have FE := hide ((unhide B0).trans (((unhide D10).trans (v11.mono (unhide D10).size)).mono (unhide BS)))
          clear v11 hx11
          go_wp2
          go_ret
          exact ⟨rfl, unhide FE⟩
        · rw [hw] at CC
          have hlt3 : decide ((c.bi : Int) < n1) = false := decide_eq_false hlt
          have hlt4 : n1 ≤ (c.bi : Int) := Int.not_lt.1 hlt
          clear hlt
          clear hw
          go_wp2_with fail
          go_at_call 30
          refine (unhide CC).mono ?_
          rintro e V8 ⟨rfl, ⟨ep8, ec8, hs8, z8⟩, a8⟩
          obtain ⟨st8, bx8⟩ := unhide KX V8 a8
          have A8 := hide st8
          have SC := hide (state_calls z8 (unhide LSY).ix)
          have x0 : V8.cell? ⟨E1, 0, none⟩ = some (.int .i64 (c.bi : Int)) := box_cell st8.row 0 _ rfl
          have D8 := hide ((unhide D7).trans a8.bel)
          clear st8 bx8 z8 a8 CC KX
          go_wp2_with fail
          clear x0
          go_at_call 26
          refine (unhide SC).mono ?_
          rintro e V9 ⟨sp9, k9, hs9, rfl, o9, v9⟩
          unfold stRow
          have U9 := hide ((Below.refl V9.heap.size V9).alloc (Nat.le_refl _) (.cells #[.int .i64 (c.bi : Int), .int .i64 (c.bt : Int), .int .i64 (c.ht : Int), .int .i64 (c.hv : Int), .slice sp9 c.es.length k9] 53))
          have X9 := hide (heap_new V9 (.cells #[.int .i64 (c.bi : Int), .int .i64 (c.bt : Int), .int .i64 (c.ht : Int), .int .i64 (c.hv : Int), .slice sp9 c.es.length k9] 53))
          have A9 := hide (show StAt (V9.alloc (.cells #[.int .i64 (c.bi : Int), .int .i64 (c.bt : Int), .int .i64 (c.ht : Int), .int .i64 (c.hv : Int), .slice sp9 c.es.length k9] 53)) V9.heap.size c sp9 k9 from ⟨unhide X9, (o9.later (unhide U9)).ents, ownL_le o9⟩)
          have B9 := hide (((unhide A8).later v9).later (unhide U9))
          have D9 := hide ((unhide D8).trans ((v9.trans ((unhide U9).mono v9.size)).mono (unhide D8).size))
          clear o9 v9 SC U9 X9 A8
          go_wp2_with fail
          generalize V9.alloc _ = W9 at *
          generalize V9.heap.size = E2 at *
          go_at_call 18
          refine (live6_calls _ ((unhide T0).later (unhide D9))).mono ?_
          rintro e W10 ⟨rfl, v10⟩
          have A10 := hide ((unhide A9).later v10)
          have B10 := hide ((unhide B9).later v10)
          have D10 := hide ((unhide D9).trans (v10.mono (unhide D9).size))
          have SA := hide (sameState_any (k := k9) (k' := k4) W10 (unhide A10).en (unhide B10).en (unhide LE) (unhide LE))
          unfold stRow at SA
          have x0 := box_cell (unhide A10).row 0 _ rfl
          have x1 := box_cell (unhide A10).row 1 _ rfl
          have x2 := box_cell (unhide A10).row 2 _ rfl
          have x3 := box_cell (unhide A10).row 3 _ rfl
          have x4 := box_cell (unhide A10).row 4 _ rfl
          have y0 := box_cell (unhide B10).row 0 _ rfl
          have y1 := box_cell (unhide B10).row 1 _ rfl
          have y2 := box_cell (unhide B10).row 2 _ rfl
          have y3 := box_cell (unhide B10).row 3 _ rfl
          have y4 := box_cell (unhide B10).row 4 _ rfl
          clear v10
          go_wp2_with fail
          clear x0 x1 x2 x3 x4 y0 y1 y2 y3 y4
          go_at_call 33
          refine (unhide SA).mono ?_
          rintro e V11 ⟨x11, rfl, hx11, v11⟩
          obtain rfl : x11 = true := by first | exact hx11 rfl | exact hx11 trivial
          have FE := hide ((unhide B0).trans (((unhide D10).trans (v11.mono (unhide D10).size)).mono (unhide BS)))
          clear v11 hx11
          go_wp2
          go_ret
          exact ⟨rfl, unhide FE⟩
end Go.Proofs.YtijcpmbfhfppmaaGreatDoor.walSwitches
