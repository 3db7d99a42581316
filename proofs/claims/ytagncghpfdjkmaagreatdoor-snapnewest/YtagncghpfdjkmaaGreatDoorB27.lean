/- Snapshots: SnapNewest's walk. -/
import Derived.Test.YtagncghpfdjkmaaGreatDoorB25
import Derived.Test.YtagncghpfdjkmaaGreatDoorB26
import Derived.Test.YtagncghpfdjkmaaGreatDoorB16
import Derived.Test.YtagncghpfdjkmaaGreatDoorB07
import Derived.Lib.SmallJoins
import Derived.Test.YtagncghpfdjkmaaGreatDoorB11
section
namespace Go.Proofs.YtagncghpfdjkmaaGreatDoor
open Go.ChangeShapes Go.WideShapes Go.ChangeAt Go.RowKit
set_option linter.unusedVariables false

structure U16At (w : World) (a : Option Addr) (l : List Nat) : Prop where
  bd : ∀ n ∈ l, n < 65536
  cell : ∀ i (hi : i < l.length), ∃ b off, a = some ⟨b, off, none⟩ ∧ w.cell? ⟨b, off + i, none⟩ = some (.int .u16 (l[i] : Int))
theorem U16At.later {w w' : World} {a : Option Addr} {l : List Nat} (h : U16At w a l) (hb : Below w.heap.size w w') : U16At w' a l :=
  ⟨h.bd, fun i hi => by obtain ⟨b, off, e, hc⟩ := h.cell i hi; exact ⟨b, off, e, cell_later hb hc⟩⟩
end Go.Proofs.YtagncghpfdjkmaaGreatDoor
namespace Go.Proofs.YtagncghpfdjkmaaGreatDoor.snapNewest
open Go.ChangeShapes Go.WideShapes Go.ChangeAt Go.RowKit
set_option linter.unusedVariables false
set_option maxRecDepth 20000 in
set_option maxHeartbeats 16000000 in
theorem walk0 (a0 : Option Addr) (c0 : Nat) (l0 : List Nat) (a1 : Option Addr) (c1 : Nat) (l1 : List Int) (w : World) (hx0 : l0.length ≤ maxLen) (hb0 : U16At w a0 l0) (hx1 : l1.length ≤ maxLen) (hb1 : IntsAt w a1 l1) (hTz : Tz w) :
    Calls Tryz.prog 10 #[.slice a0 l0.length c0, .slice a1 l1.length c1] w fun e w' => e = .returned (.bool true) ∧ Below w.heap.size w w' := by
  simp only [maxLen] at hx0 hx1
  have TZ := hide hTz
  have HB0 := hide hb0
  have HB1 := hide hb1
  have NC := hide (anew_calls w 65536)
  rw [show ((65536 : Int).toNat) = 65536 from rfl] at NC
  generalize hn0 : l0.length = n0 at *
  generalize hn1 : l1.length = n1 at *
  have N0 := hide hn0
  have N1 := hide hn1
  clear hb0 hb1 hTz hn0 hn1
  go_enter Tryz.func10, Tryz.ntmps10
  go_wp2_with fail
  go_at_call 22
  refine (unhide NC).mono ?_
  rintro e V1 ⟨d, M, rfl, h1, v1⟩
  have H1 := hide h1
  have B1 := hide v1
  generalize hK : w.heap.size = K at *
  clear h1 v1 NC
  go_wp2_with fail
  go_loopw [6, 7] (fun b i wr => ∃ (j : Nat) (ss : Ds), j ≤ 12 ∧ j ≤ n0 ∧ b = .int .i64 (bestUp l0 j : Int) ∧ i = .int .i64 (j : Int) ∧ Hid (DAt (fun _ => False) K wr d M 65536 j ss) ∧ Hid (Below K w wr) ∧ Hid (NwI l0 j ss)) (fun _ i _ => 12 - (intOf i).toNat)
  case atStart => exact ⟨0, [], by omega, by omega, rfl, rfl, unhide H1, unhide B1, NwI.zero l0⟩
  case round =>
    obtain ⟨j, ss, hj, hjn, rfl, rfl, hD, hB, hI⟩ := hrel
    have BW := hide (show Below w.heap.size w wr by rw [hK]; exact unhide hB)
    have bb := bestUp_le l0 (unhide HB0).bd j
    by_cases hjl : j < n0
    · by_cases hj12 : j < 12
      · have hjl' : j < l0.length := by rw [unhide N0]; exact hjl
        obtain ⟨b, off, rfl, p0⟩ := ((unhide HB0).later (unhide BW)).cell j hjl'
        have hx := (unhide HB0).bd _ (List.getElem_mem hjl')
        have EX := hide (show l0.getD j 0 = l0[j] by rw [List.getD_eq_getElem?_getD, List.getElem?_eq_getElem hjl']; rfl)
        generalize l0[j] = x at *
        have hj0 : (0 : Int) ≤ (j : Int) := by omega
        have hj1 : (j : Int) < (n0 : Int) := by omega
        have hj2 : (j : Int) < 12 := by omega
        have OC := hide (of_calls (x + 1) (by omega) wr)
        rw [show ((x + 1 : Nat) : Int) = (x : Int) + 1 from by omega] at OC
        go_wp2_with fail
        go_at_call 37
        refine (unhide OC).mono ?_
        rintro e V2 ⟨h2, rfl, s2, v2⟩
        unfold snRow ofS
        rw [show ((x + 1 : Nat) : Int) = (x : Int) + 1 from by omega]
        dsimp only [List.length_cons, List.length_nil]
        obtain ⟨ss', hsv, hI2⟩ := (unhide hI).step (unhide HB0).bd hj12 hjl'
        rw [unhide EX] at hsv
        have A3 : Below V2.heap.size V2 (V2.alloc (.cells #[.int .i64 ((x : Int) + 1), .int .i64 1, .slice h2.va 1 h2.vc, .slice h2.la 0 h2.lc, .slice (some ⟨V2.heap.size + 1, 0, none⟩) 1 1] 29)) := (Below.refl _ _).alloc (Nat.le_refl _) _
        have hs3 : (V2.alloc (.cells #[.int .i64 ((x : Int) + 1), .int .i64 1, .slice h2.va 1 h2.vc, .slice h2.la 0 h2.lc, .slice (some ⟨V2.heap.size + 1, 0, none⟩) 1 1] 29)).heap.size = V2.heap.size + 1 := by simp
        have A4 : Below (V2.alloc (.cells #[.int .i64 ((x : Int) + 1), .int .i64 1, .slice h2.va 1 h2.vc, .slice h2.la 0 h2.lc, .slice (some ⟨V2.heap.size + 1, 0, none⟩) 1 1] 29)).heap.size (V2.alloc (.cells #[.int .i64 ((x : Int) + 1), .int .i64 1, .slice h2.va 1 h2.vc, .slice h2.la 0 h2.lc, .slice (some ⟨V2.heap.size + 1, 0, none⟩) 1 1] 29)) ((V2.alloc (.cells #[.int .i64 ((x : Int) + 1), .int .i64 1, .slice h2.va 1 h2.vc, .slice h2.la 0 h2.lc, .slice (some ⟨V2.heap.size + 1, 0, none⟩) 1 1] 29)).alloc (.cells #[.int .u8 (j : Int)] 5)) := (Below.refl _ _).alloc (Nat.le_refl _) _
        have LB := lit_bytes (V2.alloc (.cells #[.int .i64 ((x : Int) + 1), .int .i64 1, .slice h2.va 1 h2.vc, .slice h2.la 0 h2.lc, .slice (some ⟨V2.heap.size + 1, 0, none⟩) 1 1] 29)) [j] (0, 0) (by simp; omega)
        rw [hs3] at LB
        have A5 := hide (A3.trans (A4.mono A3.size))
        have s3 := (s2.later A3).later A4
        have S3 := hide (show SnAt ((V2.alloc (.cells #[.int .i64 ((x : Int) + 1), .int .i64 1, .slice h2.va 1 h2.vc, .slice h2.la 0 h2.lc, .slice (some ⟨V2.heap.size + 1, 0, none⟩) 1 1] 29)).alloc (.cells #[.int .u8 (j : Int)] 5)) (nS (x + 1) j) ⟨h2.va, h2.vc, h2.la, h2.lc, some ⟨V2.heap.size + 1, 0, none⟩, 1⟩ from ⟨s3.bi, s3.bt, s3.v, s3.l, LB, s3.vn, s3.ln, by simp [nS], by simp [maxLen], fun h => by cases h⟩)
        have B5 := hide ((unhide hB).trans ((v2.trans ((unhide A5).mono v2.size)).mono (by have := (unhide hB).size; have := (unhide BW).size; omega)))
        have D5 := hide (((unhide hD).later v2).later (unhide A5))
        have SC := hide (save_calls (unhide D5) (by omega) ⟨w, hK, unhide TZ, unhide B5⟩ (nS (x + 1) j) _ (unhide S3))
        rw [hsv] at SC
        unfold snRow nS at SC
        rw [show ((x + 1 : Nat) : Int) = (x : Int) + 1 from by omega] at SC
        have I2 := hide hI2
        have BE := hide (show bestUp l0 (j + 1) = max (bestUp l0 j) (x + 1) by rw [bestUp, unhide EX])
        clear hI2 hsv LB s3 A3 A4 hs3 s2 v2 OC p0 D5 S3 A5
        go_wp2_with fail
        generalize (V2.alloc _).alloc _ = W3 at *
        generalize V2.heap.size = E2 at *
        go_at_call 24
        refine (unhide SC).mono ?_
        rintro e V4 ⟨rfl, h4, a4⟩
        dsimp only at h4 ⊢
        rw [show ((0 : Nat) : Int) = 0 from rfl]
        have H4 := hide h4
        have B4 := hide ((unhide B5).trans a4.bel)
        clear h4 a4 SC
        go_wp2
        exact ⟨⟨j + 1, ss', by omega, by omega, by rw [unhide BE, Value.int.injEq]; exact ⟨rfl, by omega⟩, by go_num, unhide H4, unhide B4, unhide I2⟩, by simp [intOf]; omega⟩
      · have hj2 : ¬ (j : Int) < 12 := by omega
        have hj1 : (j : Int) < (n0 : Int) := by omega
        have CR := hide (acrash_calls (unhide hD) a1 n1 c1 l1 (unhide N1) ((unhide HB1).later (unhide BW)) (fun b off e h0 => .inl (by
          obtain ⟨b', off', e', hc⟩ := (unhide HB1).cell 0 h0
          rw [e] at e'
          cases e'
          rw [← hK]
          exact cell_lt hc)))
        rw [(unhide hI).whole] at CR
        by_cases hk50 : 50 < n1
        · as_aux_lemma =>
          have hk : (50 : Int) < (n1 : Int) := by omega
          go_wp2_with fail
          go_at_call 17
          refine (live7_calls _ ((unhide TZ).later (unhide BW))).mono ?_
          rintro e V8 ⟨rfl, v8⟩
          have FF := hide ((unhide BW).trans (v8.mono (unhide BW).size))
          clear v8
          go_wp2
          go_ret
          exact ⟨rfl, by first | exact unhide FF | (rw [← hK]; exact unhide FF)⟩
        · have hk : ¬ (50 : Int) < (n1 : Int) := by omega
          go_wp2_with fail
          go_at_call 26
          refine (unhide CR).mono ?_
          rintro e V4 ⟨rfl, h4, a4⟩
          have H4 := hide h4
          have B4 := hide (show Below w.heap.size w V4 by rw [hK]; exact (unhide hB).trans a4.bel)
          have LC := hide (load_calls h4 ((unhide TZ).later (unhide B4)))
          clear h4 a4 CR hk
          rcases Nat.eq_zero_or_pos j with hj0 | hj0
          · as_aux_lemma =>
            first
            | exfalso; omega
            | skip
              subst hj0
              rw [(unhide hI).none] at LC
              rw [show bestUp l0 0 = 0 from rfl, show ((0 : Nat) : Int) = 0 from rfl]
              go_wp2_with fail
              go_at_call 30
              refine (unhide LC).mono ?_
              rintro e V5 ⟨h5, rfl, _, v5⟩
              unfold snRow
              rw [show (if (none : Option Sn).isSome = true then (0 : Int) else 8) = 8 from rfl]
              dsimp only [Option.getD_none]
              have A5 := hide (show Below V5.heap.size V5 (V5.alloc (.cells #[.int .i64 sn0.i, .int .i64 sn0.t, .slice h5.va sn0.v.length h5.vc, .slice h5.la sn0.l.length h5.lc, .slice h5.dp sn0.d.length h5.dc] 29)) from (Below.refl _ _).alloc (Nat.le_refl _) _)
              have B5 := hide ((unhide B4).trans ((v5.trans ((unhide A5).mono v5.size)).mono (unhide B4).size))
              clear v5 LC A5
              go_wp2_with fail
              generalize V5.alloc _ = W5 at *
              go_at_call 17
              refine (live7_calls _ ((unhide TZ).later (unhide B5))).mono ?_
              rintro e V8 ⟨rfl, v8⟩
              have FF := hide ((unhide B5).trans (v8.mono (unhide B5).size))
              clear v8
              go_wp2
              go_ret
              exact ⟨rfl, by first | exact unhide FF | (rw [← hK]; exact unhide FF)⟩
          · as_aux_lemma =>
            have hbp : 0 < bestUp l0 j := by
              obtain ⟨i, rfl⟩ : ∃ i, j = i + 1 := ⟨j - 1, by omega⟩
              exact bestUp_pos l0 i
            have LO := hide (show sLoad ss = some (nS (bestUp l0 j) (lastUp l0 (bestUp l0 j) j)) by
              obtain ⟨i, rfl⟩ : ∃ i, j = i + 1 := ⟨j - 1, by omega⟩
              exact (unhide hI).load (unhide HB0).bd)
            rw [unhide LO] at LC
            have LL := hide (lastUp_le l0 (bestUp l0 j) j)
            have LU := hide (show ∀ q, lastUp l0 (bestUp l0 j) (q + 1) = if l0.getD q 0 + 1 = bestUp l0 j then q else lastUp l0 (bestUp l0 j) q from fun q => rfl)
            have L0 := hide (show lastUp l0 (bestUp l0 j) 0 = 0 from rfl)
            have LQ := hide (fun q => lastUp_le l0 (bestUp l0 j) q)
            generalize bestUp l0 j = bst at *
            have hb1 : ¬ (bst : Int) = 0 := by omega
            have hb2 : ((bst : Int) == 0) = false := by simp; omega
            go_wp2_with fail
            go_at_call 30
            refine (unhide LC).mono ?_
            rintro e V5 ⟨h5, rfl, s5, v5⟩
            unfold snRow
            dsimp only [Option.getD_some, Option.isSome_some] at s5 ⊢
            have hla := unhide LL
            have LJ := hide (show lastUp l0 bst j = lastUp l0 bst j from rfl)
            generalize hlst : lastUp l0 bst j = lst at *
            have HLST := hide hlst
            unfold nS at s5 ⊢
            dsimp only [List.length_cons, List.length_nil] at s5 ⊢
            rw [if_pos rfl]
            have A5 := hide (show Below V5.heap.size V5 (V5.alloc (.cells #[.int .i64 (bst : Int), .int .i64 1, .slice h5.va 1 h5.vc, .slice h5.la 0 h5.lc, .slice h5.dp 1 h5.dc] 29)) from (Below.refl _ _).alloc (Nat.le_refl _) _)
            have X5 := hide (heap_new V5 (.cells #[.int .i64 (bst : Int), .int .i64 1, .slice h5.va 1 h5.vc, .slice h5.la 0 h5.lc, .slice h5.dp 1 h5.dc] 29))
            have S5 := hide (s5.later (unhide A5))
            have B5 := hide ((unhide B4).trans ((v5.trans ((unhide A5).mono v5.size)).mono (unhide B4).size))
            have HW := hide ((unhide HB0).later (unhide B5))
            clear v5 LC A5 s5 hlst LJ
            go_wp2_with fail
            clear hb1 hb2
            generalize V5.alloc _ = W5 at *
            generalize V5.heap.size = E5 at *
            go_loop [12, 13] (fun la i => ∃ q : Nat, q ≤ 12 ∧ q ≤ n0 ∧ la = .int .i64 (lastUp l0 bst q : Int) ∧ i = .int .i64 (q : Int)) (fun _ i => 12 - (intOf i).toNat)
            case atStart => exact ⟨0, by omega, by omega, by rw [unhide L0]; rfl, rfl⟩
            case round =>
              obtain ⟨q, hq, hqn, rfl, rfl⟩ := hrel
              have hlq := unhide LQ q
              by_cases hql : q < n0
              · by_cases hq12 : q < 12
                · have hql' : q < l0.length := by rw [unhide N0]; exact hql
                  obtain ⟨b, off, hab, p0⟩ := (unhide HW).cell q hql'
                  subst hab
                  have hx := (unhide HB0).bd _ (List.getElem_mem hql')
                  have EX := hide (show l0.getD q 0 = l0[q] by rw [List.getD_eq_getElem?_getD, List.getElem?_eq_getElem hql']; rfl)
                  generalize l0[q] = x at *
                  have hq0 : (0 : Int) ≤ (q : Int) := by omega
                  have hq1 : (q : Int) < (n0 : Int) := by omega
                  have hq2 : (q : Int) < 12 := by omega
                  by_cases hxb : x + 1 = bst
                  · have y1 : ((x : Int) + 1 == (bst : Int)) = true := by simp; omega
                    have y2 : (x : Int) + 1 = (bst : Int) := by omega
                    have ST := hide (show lastUp l0 bst (q + 1) = q by rw [unhide LU, unhide EX, if_pos hxb])
                    have Y2 := hide y2
                    clear y2 hxb
                    go_wp2
                    exact ⟨⟨q + 1, by omega, by omega, by rw [unhide ST], by go_num⟩, by simp [intOf]; omega⟩
                  · have y1 : ((x : Int) + 1 == (bst : Int)) = false := by simp; omega
                    have ST := hide (show lastUp l0 bst (q + 1) = lastUp l0 bst q by rw [unhide LU, unhide EX, if_neg hxb])
                    clear hxb
                    go_wp2
                    exact ⟨⟨q + 1, by omega, by omega, by rw [unhide ST], by go_num⟩, by simp [intOf]; omega⟩
                · have hq2 : ¬ (q : Int) < 12 := by omega
                  have hq1 : (q : Int) < (n0 : Int) := by omega
                  have QJ := hide (show q = j by omega)
                  first
                  | exfalso; omega
                  | skip
                    rw [unhide QJ, unhide HLST]
                    have QQ := unhide QJ
                    subst QQ
                    go_wp2_with fail
                    go_at_call 17
                    refine (live7_calls _ ((unhide TZ).later (unhide B5))).mono ?_
                    rintro e V8 ⟨rfl, v8⟩
                    have B8 := hide ((unhide B5).trans (v8.mono (unhide B5).size))
                    have X8 := hide (later_block v8 (unhide X5))
                    have x0 := box_cell (unhide X8) 0 _ rfl
                    have x4 := box_cell (unhide X8) 4 _ rfl
                    have k1 := run_string8 1 h5.dc rfl ((unhide S5).later v8).d
                    have A9 := hide (show Below V8.heap.size V8 (V8.alloc (.cells #[.int .u8 (lst : Int)] 5)) from (Below.refl _ _).alloc (Nat.le_refl _) _)
                    have k2 := run_string8 (w := V8.alloc (.cells #[.int .u8 (lst : Int)] 5)) 1 1 rfl (lit_bytes V8 [lst] (0, 0) (by simp; omega))
                    have FF := hide ((unhide B8).trans ((unhide A9).mono (unhide B8).size))
                    have q2 : ((strOf [lst]).toList == (strOf [lst]).toList) = true := by simp
                    have q3 : ((bst : Int) == (bst : Int)) = true := by simp
                    clear v8
                    dsimp only at k1
                    generalize strOf [lst] = sl at *
                    go_wp2
                    go_ret
                    exact ⟨by first | rfl | simp, by first | exact unhide FF | (rw [← hK]; exact unhide FF)⟩
              · have hq1 : ¬ (q : Int) < (n0 : Int) := by omega
                have QJ := hide (show q = j by omega)
                first
                | exfalso; omega
                | skip
                  rw [unhide QJ, unhide HLST]
                  have QQ := unhide QJ
                  subst QQ
                  go_wp2_with fail
                  go_at_call 17
                  refine (live7_calls _ ((unhide TZ).later (unhide B5))).mono ?_
                  rintro e V8 ⟨rfl, v8⟩
                  have B8 := hide ((unhide B5).trans (v8.mono (unhide B5).size))
                  have X8 := hide (later_block v8 (unhide X5))
                  have x0 := box_cell (unhide X8) 0 _ rfl
                  have x4 := box_cell (unhide X8) 4 _ rfl
                  have k1 := run_string8 1 h5.dc rfl ((unhide S5).later v8).d
                  have A9 := hide (show Below V8.heap.size V8 (V8.alloc (.cells #[.int .u8 (lst : Int)] 5)) from (Below.refl _ _).alloc (Nat.le_refl _) _)
                  have k2 := run_string8 (w := V8.alloc (.cells #[.int .u8 (lst : Int)] 5)) 1 1 rfl (lit_bytes V8 [lst] (0, 0) (by simp; omega))
                  have FF := hide ((unhide B8).trans ((unhide A9).mono (unhide B8).size))
                  have q2 : ((strOf [lst]).toList == (strOf [lst]).toList) = true := by simp
                  have q3 : ((bst : Int) == (bst : Int)) = true := by simp
                  clear v8
                  dsimp only at k1
                  generalize strOf [lst] = sl at *
                  go_wp2
                  go_ret
                  exact ⟨by first | rfl | simp, by first | exact unhide FF | (rw [← hK]; exact unhide FF)⟩
    · have hj1 : ¬ (j : Int) < (n0 : Int) := by omega
      have CR := hide (acrash_calls (unhide hD) a1 n1 c1 l1 (unhide N1) ((unhide HB1).later (unhide BW)) (fun b off e h0 => .inl (by
        obtain ⟨b', off', e', hc⟩ := (unhide HB1).cell 0 h0
        rw [e] at e'
        cases e'
        rw [← hK]
        exact cell_lt hc)))
      rw [(unhide hI).whole] at CR
      by_cases hk50 : 50 < n1
      · as_aux_lemma =>
        have hk : (50 : Int) < (n1 : Int) := by omega
        go_wp2_with fail
        go_at_call 17
        refine (live7_calls _ ((unhide TZ).later (unhide BW))).mono ?_
        rintro e V8 ⟨rfl, v8⟩
        have FF := hide ((unhide BW).trans (v8.mono (unhide BW).size))
        clear v8
        go_wp2
        go_ret
        exact ⟨rfl, by first | exact unhide FF | (rw [← hK]; exact unhide FF)⟩
      · have hk : ¬ (50 : Int) < (n1 : Int) := by omega
        go_wp2_with fail
        go_at_call 26
        refine (unhide CR).mono ?_
        rintro e V4 ⟨rfl, h4, a4⟩
        have H4 := hide h4
        have B4 := hide (show Below w.heap.size w V4 by rw [hK]; exact (unhide hB).trans a4.bel)
        have LC := hide (load_calls h4 ((unhide TZ).later (unhide B4)))
        clear h4 a4 CR hk
        rcases Nat.eq_zero_or_pos j with hj0 | hj0
        · as_aux_lemma =>
          first
          | exfalso; omega
          | skip
            subst hj0
            rw [(unhide hI).none] at LC
            rw [show bestUp l0 0 = 0 from rfl, show ((0 : Nat) : Int) = 0 from rfl]
            go_wp2_with fail
            go_at_call 30
            refine (unhide LC).mono ?_
            rintro e V5 ⟨h5, rfl, _, v5⟩
            unfold snRow
            rw [show (if (none : Option Sn).isSome = true then (0 : Int) else 8) = 8 from rfl]
            dsimp only [Option.getD_none]
            have A5 := hide (show Below V5.heap.size V5 (V5.alloc (.cells #[.int .i64 sn0.i, .int .i64 sn0.t, .slice h5.va sn0.v.length h5.vc, .slice h5.la sn0.l.length h5.lc, .slice h5.dp sn0.d.length h5.dc] 29)) from (Below.refl _ _).alloc (Nat.le_refl _) _)
            have B5 := hide ((unhide B4).trans ((v5.trans ((unhide A5).mono v5.size)).mono (unhide B4).size))
            clear v5 LC A5
            go_wp2_with fail
            generalize V5.alloc _ = W5 at *
            go_at_call 17
            refine (live7_calls _ ((unhide TZ).later (unhide B5))).mono ?_
            rintro e V8 ⟨rfl, v8⟩
            have FF := hide ((unhide B5).trans (v8.mono (unhide B5).size))
            clear v8
            go_wp2
            go_ret
            exact ⟨rfl, by first | exact unhide FF | (rw [← hK]; exact unhide FF)⟩
        · as_aux_lemma =>
          have hbp : 0 < bestUp l0 j := by
            obtain ⟨i, rfl⟩ : ∃ i, j = i + 1 := ⟨j - 1, by omega⟩
            exact bestUp_pos l0 i
          have LO := hide (show sLoad ss = some (nS (bestUp l0 j) (lastUp l0 (bestUp l0 j) j)) by
            obtain ⟨i, rfl⟩ : ∃ i, j = i + 1 := ⟨j - 1, by omega⟩
            exact (unhide hI).load (unhide HB0).bd)
          rw [unhide LO] at LC
          have LL := hide (lastUp_le l0 (bestUp l0 j) j)
          have LU := hide (show ∀ q, lastUp l0 (bestUp l0 j) (q + 1) = if l0.getD q 0 + 1 = bestUp l0 j then q else lastUp l0 (bestUp l0 j) q from fun q => rfl)
          have L0 := hide (show lastUp l0 (bestUp l0 j) 0 = 0 from rfl)
          have LQ := hide (fun q => lastUp_le l0 (bestUp l0 j) q)
          generalize bestUp l0 j = bst at *
          have hb1 : ¬ (bst : Int) = 0 := by omega
          have hb2 : ((bst : Int) == 0) = false := by simp; omega
          go_wp2_with fail
          go_at_call 30
          refine (unhide LC).mono ?_
          rintro e V5 ⟨h5, rfl, s5, v5⟩
          unfold snRow
          dsimp only [Option.getD_some, Option.isSome_some] at s5 ⊢
          have hla := unhide LL
          have LJ := hide (show lastUp l0 bst j = lastUp l0 bst j from rfl)
          generalize hlst : lastUp l0 bst j = lst at *
          have HLST := hide hlst
          unfold nS at s5 ⊢
          dsimp only [List.length_cons, List.length_nil] at s5 ⊢
          rw [if_pos rfl]
          have A5 := hide (show Below V5.heap.size V5 (V5.alloc (.cells #[.int .i64 (bst : Int), .int .i64 1, .slice h5.va 1 h5.vc, .slice h5.la 0 h5.lc, .slice h5.dp 1 h5.dc] 29)) from (Below.refl _ _).alloc (Nat.le_refl _) _)
          have X5 := hide (heap_new V5 (.cells #[.int .i64 (bst : Int), .int .i64 1, .slice h5.va 1 h5.vc, .slice h5.la 0 h5.lc, .slice h5.dp 1 h5.dc] 29))
          have S5 := hide (s5.later (unhide A5))
          have B5 := hide ((unhide B4).trans ((v5.trans ((unhide A5).mono v5.size)).mono (unhide B4).size))
          have HW := hide ((unhide HB0).later (unhide B5))
          clear v5 LC A5 s5 hlst LJ
          go_wp2_with fail
          clear hb1 hb2
          generalize V5.alloc _ = W5 at *
          generalize V5.heap.size = E5 at *
          go_loop [12, 13] (fun la i => ∃ q : Nat, q ≤ 12 ∧ q ≤ n0 ∧ la = .int .i64 (lastUp l0 bst q : Int) ∧ i = .int .i64 (q : Int)) (fun _ i => 12 - (intOf i).toNat)
          case atStart => exact ⟨0, by omega, by omega, by rw [unhide L0]; rfl, rfl⟩
          case round =>
            obtain ⟨q, hq, hqn, rfl, rfl⟩ := hrel
            have hlq := unhide LQ q
            by_cases hql : q < n0
            · by_cases hq12 : q < 12
              · have hql' : q < l0.length := by rw [unhide N0]; exact hql
                obtain ⟨b, off, hab, p0⟩ := (unhide HW).cell q hql'
                subst hab
                have hx := (unhide HB0).bd _ (List.getElem_mem hql')
                have EX := hide (show l0.getD q 0 = l0[q] by rw [List.getD_eq_getElem?_getD, List.getElem?_eq_getElem hql']; rfl)
                generalize l0[q] = x at *
                have hq0 : (0 : Int) ≤ (q : Int) := by omega
                have hq1 : (q : Int) < (n0 : Int) := by omega
                have hq2 : (q : Int) < 12 := by omega
                by_cases hxb : x + 1 = bst
                · have y1 : ((x : Int) + 1 == (bst : Int)) = true := by simp; omega
                  have y2 : (x : Int) + 1 = (bst : Int) := by omega
                  have ST := hide (show lastUp l0 bst (q + 1) = q by rw [unhide LU, unhide EX, if_pos hxb])
                  have Y2 := hide y2
                  clear y2 hxb
                  go_wp2
                  exact ⟨⟨q + 1, by omega, by omega, by rw [unhide ST], by go_num⟩, by simp [intOf]; omega⟩
                · have y1 : ((x : Int) + 1 == (bst : Int)) = false := by simp; omega
                  have ST := hide (show lastUp l0 bst (q + 1) = lastUp l0 bst q by rw [unhide LU, unhide EX, if_neg hxb])
                  clear hxb
                  go_wp2
                  exact ⟨⟨q + 1, by omega, by omega, by rw [unhide ST], by go_num⟩, by simp [intOf]; omega⟩
              · have hq2 : ¬ (q : Int) < 12 := by omega
                have hq1 : (q : Int) < (n0 : Int) := by omega
                have QJ := hide (show q = j by omega)
                first
                | exfalso; omega
                | skip
                  rw [unhide QJ, unhide HLST]
                  have QQ := unhide QJ
                  subst QQ
                  go_wp2_with fail
                  go_at_call 17
                  refine (live7_calls _ ((unhide TZ).later (unhide B5))).mono ?_
                  rintro e V8 ⟨rfl, v8⟩
                  have B8 := hide ((unhide B5).trans (v8.mono (unhide B5).size))
                  have X8 := hide (later_block v8 (unhide X5))
                  have x0 := box_cell (unhide X8) 0 _ rfl
                  have x4 := box_cell (unhide X8) 4 _ rfl
                  have k1 := run_string8 1 h5.dc rfl ((unhide S5).later v8).d
                  have A9 := hide (show Below V8.heap.size V8 (V8.alloc (.cells #[.int .u8 (lst : Int)] 5)) from (Below.refl _ _).alloc (Nat.le_refl _) _)
                  have k2 := run_string8 (w := V8.alloc (.cells #[.int .u8 (lst : Int)] 5)) 1 1 rfl (lit_bytes V8 [lst] (0, 0) (by simp; omega))
                  have FF := hide ((unhide B8).trans ((unhide A9).mono (unhide B8).size))
                  have q2 : ((strOf [lst]).toList == (strOf [lst]).toList) = true := by simp
                  have q3 : ((bst : Int) == (bst : Int)) = true := by simp
                  clear v8
                  dsimp only at k1
                  generalize strOf [lst] = sl at *
                  go_wp2
                  go_ret
                  exact ⟨by first | rfl | simp, by first | exact unhide FF | (rw [← hK]; exact unhide FF)⟩
            · have hq1 : ¬ (q : Int) < (n0 : Int) := by omega
              have QJ := hide (show q = j by omega)
              first
              | exfalso; omega
              | skip
                rw [unhide QJ, unhide HLST]
                have QQ := unhide QJ
                subst QQ
                go_wp2_with fail
                go_at_call 17
                refine (live7_calls _ ((unhide TZ).later (unhide B5))).mono ?_
                rintro e V8 ⟨rfl, v8⟩
                have B8 := hide ((unhide B5).trans (v8.mono (unhide B5).size))
                have X8 := hide (later_block v8 (unhide X5))
                have x0 := box_cell (unhide X8) 0 _ rfl
                have x4 := box_cell (unhide X8) 4 _ rfl
                have k1 := run_string8 1 h5.dc rfl ((unhide S5).later v8).d
                have A9 := hide (show Below V8.heap.size V8 (V8.alloc (.cells #[.int .u8 (lst : Int)] 5)) from (Below.refl _ _).alloc (Nat.le_refl _) _)
                have k2 := run_string8 (w := V8.alloc (.cells #[.int .u8 (lst : Int)] 5)) 1 1 rfl (lit_bytes V8 [lst] (0, 0) (by simp; omega))
                have FF := hide ((unhide B8).trans ((unhide A9).mono (unhide B8).size))
                have q2 : ((strOf [lst]).toList == (strOf [lst]).toList) = true := by simp
                have q3 : ((bst : Int) == (bst : Int)) = true := by simp
                clear v8
                dsimp only at k1
                generalize strOf [lst] = sl at *
                go_wp2
                go_ret
                exact ⟨by first | rfl | simp, by first | exact unhide FF | (rw [← hK]; exact unhide FF)⟩
end Go.Proofs.YtagncghpfdjkmaaGreatDoor.snapNewest
end
/- A snapshot that came in, opened. -/
section
namespace Go.Proofs.YtagncghpfdjkmaaGreatDoor
open Go.ChangeShapes Go.WideShapes Go.ChangeAt Go.RowKit
set_option linter.unusedVariables false

theorem list2s {α : Type} {l : List α} (h : l.length = 2) : ∃ c0 c1, l = [c0, c1] := by
  match l, h with
  | [c0, c1], _ => exact ⟨c0, c1, rfl⟩
theorem list3s {α : Type} {l : List α} (h : l.length = 3) : ∃ c0 c1 c2, l = [c0, c1, c2] := by
  match l, h with
  | [c0, c1, c2], _ => exact ⟨c0, c1, c2, rfl⟩
theorem list5s {α : Type} {l : Array α} (h : l.size = 5) : ∃ c0 c1 c2 c3 c4, l = #[c0, c1, c2, c3, c4] := by
  match l, h with
  | ⟨[c0, c1, c2, c3, c4]⟩, _ => exact ⟨c0, c1, c2, c3, c4, rfl⟩
set_option maxRecDepth 20000 in
theorem snap_open {H : Type} {enc : TypeId × Value → H} {W : World} {n : Nat} {v0 v1 v2 v3 v4 : Value} {y : DataW H × List MemPlace}
    (h2 : DataW.trod enc Tryz.prog W 0 (fun _ => true) true n 29 [v0, v1, v2, v3, v4] = some y) :
    ∃ (s : Sn) (h : SnH), v0 = .int .i64 s.i ∧ v1 = .int .i64 s.t ∧ v2 = .slice h.va s.v.length h.vc ∧ v3 = .slice h.la s.l.length h.lc ∧ v4 = .slice h.dp s.d.length h.dc ∧ SnAt W s h := by
  obtain ⟨xs, n', _, _, _, hx, hfs⟩ := DataW.trod_struct Tryz.underlying29 h2
  obtain ⟨y0, y1, y2, rfl⟩ := list3s (show xs.length = 3 from hx)
  have tm : DataW.trod enc Tryz.prog W 0 (fun _ => true) true n' 23 [v0, v1] = some y0 := hfs 0 _ rfl
  have tb : DataW.trod enc Tryz.prog W 0 (fun _ => true) true n' 26 [v2, v3] = some y1 := hfs 1 _ rfl
  have t4 : DataW.trod enc Tryz.prog W 0 (fun _ => true) true n' 27 [v4] = some y2 := hfs 2 _ rfl
  obtain ⟨xs, n1, _, _, _, hx, hfm⟩ := DataW.trod_struct Tryz.underlying23 tm
  obtain ⟨z0, z1, rfl⟩ := list2s (show xs.length = 2 from hx)
  obtain ⟨k, e0, _, w0⟩ := DataW.trod_int Tryz.underlying3 (show DataW.trod enc Tryz.prog W 0 (fun _ => true) true n1 3 [v0] = some z0 from hfm 0 _ rfl)
  obtain ⟨j, e1, _, w1⟩ := DataW.trod_int Tryz.underlying3 (show DataW.trod enc Tryz.prog W 0 (fun _ => true) true n1 3 [v1] = some z1 from hfm 1 _ rfl)
  obtain ⟨xs, n2, _, _, _, hx, hfb⟩ := DataW.trod_struct Tryz.underlying26 tb
  obtain ⟨b0, b1, rfl⟩ := list2s (show xs.length = 2 from hx)
  have t2 : DataW.trod enc Tryz.prog W 0 (fun _ => true) true n2 24 [v2] = some b0 := hfb 0 _ rfl
  have t3 : DataW.trod enc Tryz.prog W 0 (fun _ => true) true n2 24 [v3] = some b1 := hfb 1 _ rfl
  obtain ⟨va, vl, vc, e2⟩ := Joins.slice_form Tryz.underlying24 t2
  obtain ⟨la, ll, lc, e3⟩ := Joins.slice_form Tryz.underlying24 t3
  obtain ⟨dp, dl, dc, e4⟩ := Joins.slice_form Tryz.underlying27 t4
  simp only [List.cons.injEq, and_true] at e0 e1 e2 e3 e4
  subst e0 e1 e2 e3 e4
  obtain ⟨vs, rfl, hv1, hv2⟩ := row64 (show DataW.Trod enc Tryz.prog W 0 (fun _ => true) true 24 (.slice va vl vc) b0.1 b0.2 from ⟨n2, t2⟩)
  obtain ⟨ls, rfl, hl1, hl2⟩ := row64 (show DataW.Trod enc Tryz.prog W 0 (fun _ => true) true 24 (.slice la ll lc) b1.1 b1.2 from ⟨n2, t3⟩)
  obtain ⟨ds, rfl, hc4, hx4, hb, hz, _⟩ := row8 (show DataW.Trod enc Tryz.prog W 0 (fun _ => true) true 27 (.slice dp dl dc) y2.1 y2.2 from ⟨n', t4⟩)
  exact ⟨⟨k, j, vs, ls, ds⟩, ⟨va, vc, la, lc, dp, dc⟩, rfl, rfl, rfl, rfl, rfl, i64_bounds w0, i64_bounds w1, hv2, hl2, hb, hv1, hl1, hc4, hx4, hz⟩
set_option maxRecDepth 20000 in
theorem open_snap {H : Type} {enc : TypeId × Value → H} {W : World} {r : Reach} {b0 : Nat} {v : Value} {d : DataW H} {p : List MemPlace} (hv : Value.okWide Tryz.prog W r b0 29 v)
    (h : DataW.Trod enc Tryz.prog W 0 (fun _ => true) true 29 v d p) : ∃ (e : Sn) (q : SnH), v = .agg (snRow e q) ∧ SnAt W e q := by
  obtain ⟨cs, rfl, hsz⟩ := okWide_struct Tryz.underlying29 hv
  have c5 : Tryz.prog.cellsOf 29 = 5 := by kernel_rfl
  obtain ⟨v0, v1, v2, v3, v4, rfl⟩ := list5s (hsz.trans c5)
  obtain ⟨fuel, hf⟩ := h
  obtain ⟨e, q, rfl, rfl, rfl, rfl, rfl, hd⟩ := snap_open (show DataW.trod enc Tryz.prog W 0 (fun _ => true) true fuel 29 [v0, v1, v2, v3, v4] = some (d, p) from hf)
  exact ⟨e, q, rfl, hd⟩
end Go.Proofs.YtagncghpfdjkmaaGreatDoor
end
/- Snapshots that are the same. -/
section
namespace Go.Proofs.YtagncghpfdjkmaaGreatDoor
open Go.ChangeShapes Go.WideShapes Go.ChangeAt Go.RowKit
set_option linter.unusedVariables false

set_option maxRecDepth 20000 in
set_option maxHeartbeats 8000000 in
theorem sameS_yes (s : Sn) (h h' : SnH) (w : World) (z : SnAt w s h) (z' : SnAt w s h') : Calls Tryz.prog 18 #[.agg (snRow s h), .agg (snRow s h')] w fun e w' => e = .returned (.bool true) ∧ Below w.heap.size w w' := by
  unfold snRow
  have A1 : Below w.heap.size w (w.alloc (.cells #[.int .i64 s.i, .int .i64 s.t, .slice h.va s.v.length h.vc, .slice h.la s.l.length h.lc, .slice h.dp s.d.length h.dc] 29)) := (Below.refl _ _).alloc (Nat.le_refl _) _
  have A2 : Below (w.alloc (.cells #[.int .i64 s.i, .int .i64 s.t, .slice h.va s.v.length h.vc, .slice h.la s.l.length h.lc, .slice h.dp s.d.length h.dc] 29)).heap.size (w.alloc (.cells #[.int .i64 s.i, .int .i64 s.t, .slice h.va s.v.length h.vc, .slice h.la s.l.length h.lc, .slice h.dp s.d.length h.dc] 29)) ((w.alloc (.cells #[.int .i64 s.i, .int .i64 s.t, .slice h.va s.v.length h.vc, .slice h.la s.l.length h.lc, .slice h.dp s.d.length h.dc] 29)).alloc (.cells #[.int .i64 s.i, .int .i64 s.t, .slice h'.va s.v.length h'.vc, .slice h'.la s.l.length h'.lc, .slice h'.dp s.d.length h'.dc] 29)) := (Below.refl _ _).alloc (Nat.le_refl _) _
  have hs1 : (w.alloc (.cells #[.int .i64 s.i, .int .i64 s.t, .slice h.va s.v.length h.vc, .slice h.la s.l.length h.lc, .slice h.dp s.d.length h.dc] 29)).heap.size = w.heap.size + 1 := by simp
  have X1 := hide (later_block A2 (heap_new w (.cells #[.int .i64 s.i, .int .i64 s.t, .slice h.va s.v.length h.vc, .slice h.la s.l.length h.lc, .slice h.dp s.d.length h.dc] 29)))
  have X2 := hide (heap_new (w.alloc (.cells #[.int .i64 s.i, .int .i64 s.t, .slice h.va s.v.length h.vc, .slice h.la s.l.length h.lc, .slice h.dp s.d.length h.dc] 29)) (.cells #[.int .i64 s.i, .int .i64 s.t, .slice h'.va s.v.length h'.vc, .slice h'.la s.l.length h'.lc, .slice h'.dp s.d.length h'.dc] 29))
  rw [hs1] at X2
  have B2 := hide (A1.trans (A2.mono A1.size))
  have Z := hide (z.later (unhide B2))
  have Z' := hide (z'.later (unhide B2))
  clear A1 A2 hs1 z z'
  have x0 := box_cell (unhide X1) 0 _ rfl
  have x1 := box_cell (unhide X1) 1 _ rfl
  have x2 := box_cell (unhide X1) 2 _ rfl
  have x3 := box_cell (unhide X1) 3 _ rfl
  have y0 := box_cell (unhide X2) 0 _ rfl
  have y1 := box_cell (unhide X2) 1 _ rfl
  have y2 := box_cell (unhide X2) 2 _ rfl
  have y3 := box_cell (unhide X2) 3 _ rfl
  have q0 : (s.i == s.i) = true := by simp
  have q1 : (s.t == s.t) = true := by simp
  have SC := hide (same_calls (vc := h.vc) (lc := h.lc) (vc' := h'.vc) (lc' := h'.lc) (unhide Z).v (unhide Z).l (unhide Z').v (unhide Z').l s.v.length s.l.length s.v.length s.l.length rfl rfl rfl rfl (unhide Z).vn (unhide Z).ln (unhide Z').vn (unhide Z').ln)
  rw [show (decide (s.v = s.v) && decide (s.l = s.l)) = true by simp] at SC
  go_enter Tryz.func18, Tryz.ntmps18
  go_wp2_with fail
  clear x0 x1 x2 x3 y0 y1 y2 y3
  generalize (w.alloc (.cells #[.int .i64 s.i, .int .i64 s.t, .slice h.va s.v.length h.vc, .slice h.la s.l.length h.lc, .slice h.dp s.d.length h.dc] 29)).alloc (.cells #[.int .i64 s.i, .int .i64 s.t, .slice h'.va s.v.length h'.vc, .slice h'.la s.l.length h'.lc, .slice h'.dp s.d.length h'.dc] 29) = W2 at *
  go_at_call 57
  refine (unhide SC).mono ?_
  rintro e V ⟨rfl, v1⟩
  have x4 : V.cell? ⟨w.heap.size, 4, none⟩ = some (.slice h.dp s.d.length h.dc) := box_cell (later_block v1 (unhide X1)) 4 _ rfl
  have y4 : V.cell? ⟨w.heap.size + 1, 4, none⟩ = some (.slice h'.dp s.d.length h'.dc) := box_cell (later_block v1 (unhide X2)) 4 _ rfl
  have k1 := run_string8 s.d.length h.dc rfl ((unhide Z).later v1).d
  have k2 := run_string8 s.d.length h'.dc rfl ((unhide Z').later v1).d
  have q2 : ((strOf s.d).toList == (strOf s.d).toList) = true := by simp
  have FF := hide ((unhide B2).trans (v1.mono (unhide B2).size))
  clear v1 SC Z Z' X1 X2
  generalize strOf s.d = sd at *
  go_wp2
  go_ret
  exact ⟨by first | rfl | simp, unhide FF⟩
end Go.Proofs.YtagncghpfdjkmaaGreatDoor
end
