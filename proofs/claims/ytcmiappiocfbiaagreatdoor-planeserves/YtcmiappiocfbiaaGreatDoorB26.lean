/- The document's heads: Parse. Written by wip/mkhr9.py. -/
import Derived.Test.YtcmiappiocfbiaaGreatDoorB25
namespace Go.Proofs.YtcmiappiocfbiaaGreatDoor
open Go.ChangeShapes Go.WideShapes Go.ChangeAt Go.RowKit
set_option linter.unusedVariables false

theorem fieldR_is (line : Tx) : fieldL line = if (cutL [58] line).2.isSome && isTokenL (cutL [58] line).1 && isValueL (trimB (behindL [58] line)) then some ⟨lowL (cutL [58] line).1, trimB (behindL [58] line)⟩ else none := rfl
theorem host_eqS (t : Tx) : ((stS t).toList == [104, 111, 115, 116]) = (t == hostName) := by rw [ByteArray.toList_eq, stS_list]; rfl
theorem fieldsOf_mem : ∀ (t : List Tx) (fs : List Fd), fieldsOf t = some fs → ∀ f ∈ fs, ∃ y ∈ t, fieldL y = some f
  | [], fs, h, f, hf => by cases h; cases hf
  | y :: t, fs, h, f, hf => by
    rw [fieldsOf] at h
    cases hy : fieldL y with
    | none => rw [hy] at h; cases h
    | some g =>
      rw [hy] at h
      simp only at h
      cases hr : fieldsOf t with
      | none => rw [hr] at h; cases h
      | some gs =>
        rw [hr] at h
        cases h
        rcases List.mem_cons.1 hf with rfl | hf
        · exact ⟨y, by simp, hy⟩
        · obtain ⟨z, hz, h2⟩ := fieldsOf_mem t gs hr f hf
          exact ⟨z, List.mem_cons_of_mem _ hz, h2⟩
/-- What the loop over lines holds. -/
structure LJ (W1 : World) (t0 : List Tx) (m p q x : Tx) (wr : World) (j : Nat) (fs : List Fd) (fsp : Option Addr) (fc : Nat) : Prop where
  sf : SoFar t0 j fs
  rc : RC W1.heap.size W1 W1.heap.size 58 #[.string (stS m), .string (stS p), .string (stS q), .string (stS (curH x fs)), .slice fsp j fc] wr
  ow : OwnFd (W1.heap.size + 1) wr fsp fc fs
set_option maxRecDepth 20000 in
set_option maxHeartbeats 32000000 in
theorem parseR_calls (a : Option Addr) (n c : Nat) (l : List Nat) (w : World) (hn : l.length = n) (hc : n ≤ c) (hm : n ≤ 140737488355328) (hb : BytesAt w a l) :
    Calls Tryz.prog 21 #[.slice a n c] w fun e w' => ParseRes (txN l) e w' ∧ Below w.heap.size w w' := by
  have R0 := hide (RC.new w 58 #[.string ⟨#[]⟩, .string ⟨#[]⟩, .string ⟨#[]⟩, .string ⟨#[]⟩, .slice none 0 0])
  have HB := hide hb
  have HN := hide hn
  have HT := hide (show (txN l).length = n by rw [txN_len, hn])
  have HTX := hide hb.lt
  clear hb hn
  go_enter Tryz.func21, Tryz.ntmps21
  go_wp2
  have B0 := hide (unhide R0).bel
  have hWA : (w.alloc (.cells #[.string ⟨#[]⟩, .string ⟨#[]⟩, .string ⟨#[]⟩, .string ⟨#[]⟩, .slice none 0 0] 58)).heap.size = w.heap.size + 1 := by simp
  generalize w.alloc (.cells #[.string ⟨#[]⟩, .string ⟨#[]⟩, .string ⟨#[]⟩, .string ⟨#[]⟩, .slice none 0 0] 58) = WA at *
  go_loopw [5, 6] (fun e i wr => ∃ (j : Nat) (v : Int), j ≤ n + 1 ∧ e = .int .i64 v ∧ i = .int .i64 (j : Int) ∧ Hid (EndIs ((txN l).take 2048) j v) ∧ Hid (wr = WA)) (fun _ i _ => n + 2 - (intOf i).toNat)
  case atStart => exact ⟨0, -1, by omega, rfl, rfl, hide (.inl ⟨rfl, fun p hp => by omega⟩), hide rfl⟩
  case round =>
    obtain ⟨j, v, hj, rfl, rfl, HE, HW⟩ := hrel
    obtain rfl := unhide HW
    clear HW
    have hw4 : IntKind.i64.wrap ((j : Int) + 4) = (j : Int) + 4 := by rw [IntKind.wrap_i64]; omega
    have hw1 : IntKind.i64.wrap ((j : Int) + 1) = (j : Int) + 1 := by rw [IntKind.wrap_i64]; omega
    rcases unhide HE with ⟨rfl, hno⟩ | ⟨k, rfl, hkj, hno, hyes⟩
    · by_cases hc1 : j + 4 ≤ n ∧ j + 4 ≤ 2048
      · obtain ⟨hc1, hc2⟩ := hc1
        have q1 : (j : Int) + 4 ≤ (n : Int) := by omega
        have q2 : (j : Int) + 4 ≤ 2048 := by omega
        have hw2 : IntKind.i64.wrap ((j : Int) + 2) = (j : Int) + 2 := by rw [IntKind.wrap_i64]; omega
        have hw3 : IntKind.i64.wrap ((j : Int) + 3) = (j : Int) + 3 := by rw [IntKind.wrap_i64]; omega
        have r0 : (j : Int) < (n : Int) := by omega
        have r1 : (j : Int) + 1 < (n : Int) := by omega
        have r2 : (j : Int) + 2 < (n : Int) := by omega
        have r3 : (j : Int) + 3 < (n : Int) := by omega
        have s1 : (0 : Int) ≤ (j : Int) + 1 := by omega
        have s2 : (0 : Int) ≤ (j : Int) + 2 := by omega
        have s3 : (0 : Int) ≤ (j : Int) + 3 := by omega
        have t1 : ((j : Int) + 1).toNat = j + 1 := by omega
        have t2 : ((j : Int) + 2).toNat = j + 2 := by omega
        have t3 : ((j : Int) + 3).toNat = j + 3 := by omega
        obtain ⟨bb, off, rfl, c0, c1, c2, c3⟩ := four_cells (unhide HB) j (by rw [unhide HN]; exact hc1)
        have d0 := cell_later (unhide B0) c0
        have d1 := cell_later (unhide B0) c1
        have d2 := cell_later (unhide B0) c2
        have d3 := cell_later (unhide B0) c3
        have SP := hide (sep4_is l (unhide HTX) j (by rw [unhide HN]; exact hc1) hc2)
        clear c0 c1 c2 c3
        generalize l.getD j 0 = x0 at *
        generalize l.getD (j + 1) 0 = x1 at *
        generalize l.getD (j + 2) 0 = x2 at *
        generalize l.getD (j + 3) 0 = x3 at *
        have GO := hide (show sepAt sep4 ((txN l).take 2048) j = false → EndIs ((txN l).take 2048) (j + 1) (-1) from fun e => .inl ⟨rfl, fun p hp => by
          by_cases hpj : p < j
          · exact hno p hpj
          · obtain rfl : p = j := by omega
            exact e⟩)
        have FD := hide (show sepAt sep4 ((txN l).take 2048) j = true → EndIs ((txN l).take 2048) (j + 1) (j : Int) from fun e => .inr ⟨j, rfl, by omega, hno, e⟩)
        clear hno HE
        cases h0 : decide ((x0 : Int) = 13) with
        | false =>
          have hq0 : ((x0 : Int) == 13) = false := by rw [beq_eq_false_iff_ne]; exact of_decide_eq_false h0
          rw [h0] at SP
          have G2 := hide (unhide GO (by rw [unhide SP]; simp))
          clear h0 GO FD SP
          go_wp2
          go_roundw
          case rel => exact ⟨j + 1, -1, by omega, rfl, by first | rfl | (rw [hw1]; rfl), G2, hide trivial⟩
          case measure => simp [intOf]; omega
        | true =>
          have hq0 : ((x0 : Int) == 13) = true := by rw [beq_iff_eq]; exact of_decide_eq_true h0
          rw [h0] at SP
          clear h0
          cases h1 : decide ((x1 : Int) = 10) with
          | false =>
            have hq1 : ((x1 : Int) == 10) = false := by rw [beq_eq_false_iff_ne]; exact of_decide_eq_false h1
            rw [h1] at SP
            have G2 := hide (unhide GO (by rw [unhide SP]; simp))
            clear h1 GO FD SP
            go_wp2
            go_roundw
            case rel => exact ⟨j + 1, -1, by omega, rfl, by first | rfl | (rw [hw1]; rfl), G2, hide trivial⟩
            case measure => simp [intOf]; omega
          | true =>
            have hq1 : ((x1 : Int) == 10) = true := by rw [beq_iff_eq]; exact of_decide_eq_true h1
            rw [h1] at SP
            clear h1
            cases h2 : decide ((x2 : Int) = 13) with
            | false =>
              have hq2 : ((x2 : Int) == 13) = false := by rw [beq_eq_false_iff_ne]; exact of_decide_eq_false h2
              rw [h2] at SP
              have G2 := hide (unhide GO (by rw [unhide SP]; simp))
              clear h2 GO FD SP
              go_wp2
              go_roundw
              case rel => exact ⟨j + 1, -1, by omega, rfl, by first | rfl | (rw [hw1]; rfl), G2, hide trivial⟩
              case measure => simp [intOf]; omega
            | true =>
              have hq2 : ((x2 : Int) == 13) = true := by rw [beq_iff_eq]; exact of_decide_eq_true h2
              rw [h2] at SP
              clear h2
              cases h3 : decide ((x3 : Int) = 10) with
              | false =>
                have hq3 : ((x3 : Int) == 10) = false := by rw [beq_eq_false_iff_ne]; exact of_decide_eq_false h3
                rw [h3] at SP
                have G2 := hide (unhide GO (by rw [unhide SP]; simp))
                clear h3 GO FD SP
                go_wp2
                go_roundw
                case rel => exact ⟨j + 1, -1, by omega, rfl, by first | rfl | (rw [hw1]; rfl), G2, hide trivial⟩
                case measure => simp [intOf]; omega
              | true =>
                have hq3 : ((x3 : Int) == 10) = true := by rw [beq_iff_eq]; exact of_decide_eq_true h3
                rw [h3] at SP
                clear h3
                have G2 := hide (unhide FD (by rw [unhide SP]; rfl))
                clear GO FD SP
                go_wp2
                go_roundw
                case rel => exact ⟨j + 1, j, by omega, rfl, by first | rfl | (rw [hw1]; rfl), G2, hide trivial⟩
                case measure => simp [intOf]; omega
      · have CN := hide (end_none (t := (txN l).take 2048) (fun p => by
          by_cases hp : p < j
          · exact hno p hp
          · exact sep4_short l p (fun hh => hc1 (by rw [unhide HN] at hh; omega))))
        clear hno HE
        by_cases hs : n < 2048
        · have EP := hide (parse_none1 (unhide CN) (by rw [unhide HT]; exact hs))
          have hs1 : (n : Int) < 2048 := by omega
          obtain ⟨z0, z1, z2, z3, z4, f0, f1, f2, f3, f4⟩ := (unhide R0).five
          by_cases h1 : j + 4 ≤ n
          · exact absurd ⟨h1, by omega⟩ hc1
          · have q1 : ¬ (j : Int) + 4 ≤ (n : Int) := by omega
            go_wp2
            have R9 := (unhide R0).set5 (.string ⟨#[]⟩) (.string ⟨#[]⟩) (.string ⟨#[]⟩) (.string ⟨#[]⟩) (.slice none 0 0)
            have g0 := R9.cell 0 (.string ⟨#[]⟩) rfl
            have g1 := R9.cell 1 (.string ⟨#[]⟩) rfl
            have g2 := R9.cell 2 (.string ⟨#[]⟩) rfl
            have g3 := R9.cell 3 (.string ⟨#[]⟩) rfl
            have g4 := R9.cell 4 (.slice none 0 0) rfl
            refine bodyPost_ret (v := .tuple #[.agg #[.string ⟨#[]⟩, .string ⟨#[]⟩, .string ⟨#[]⟩, .string ⟨#[]⟩, .slice none 0 0], .int .i64 0, .int .i64 3]) ?_ rfl ⟨parse_bad (n := 3) (unhide EP), R9.bel⟩
            rw [results_cell_tmp2 rfl]
            go_simp
            try rfl
        · have EP := hide (parse_none2 (unhide CN) (by rw [unhide HT]; exact hs))
          have hs1 : ¬ (n : Int) < 2048 := by omega
          obtain ⟨z0, z1, z2, z3, z4, f0, f1, f2, f3, f4⟩ := (unhide R0).five
          by_cases h1 : j + 4 ≤ n
          · have q1 : (j : Int) + 4 ≤ (n : Int) := by omega
            have q2 : ¬ (j : Int) + 4 ≤ 2048 := by omega
            go_wp2
            have R9 := (unhide R0).set5 (.string ⟨#[]⟩) (.string ⟨#[]⟩) (.string ⟨#[]⟩) (.string ⟨#[]⟩) (.slice none 0 0)
            have g0 := R9.cell 0 (.string ⟨#[]⟩) rfl
            have g1 := R9.cell 1 (.string ⟨#[]⟩) rfl
            have g2 := R9.cell 2 (.string ⟨#[]⟩) rfl
            have g3 := R9.cell 3 (.string ⟨#[]⟩) rfl
            have g4 := R9.cell 4 (.slice none 0 0) rfl
            refine bodyPost_ret (v := .tuple #[.agg #[.string ⟨#[]⟩, .string ⟨#[]⟩, .string ⟨#[]⟩, .string ⟨#[]⟩, .slice none 0 0], .int .i64 0, .int .i64 6]) ?_ rfl ⟨parse_bad (n := 6) (unhide EP), R9.bel⟩
            rw [results_cell_tmp2 rfl]
            go_simp
            try rfl
          · have q1 : ¬ (j : Int) + 4 ≤ (n : Int) := by omega
            go_wp2
            have R9 := (unhide R0).set5 (.string ⟨#[]⟩) (.string ⟨#[]⟩) (.string ⟨#[]⟩) (.string ⟨#[]⟩) (.slice none 0 0)
            have g0 := R9.cell 0 (.string ⟨#[]⟩) rfl
            have g1 := R9.cell 1 (.string ⟨#[]⟩) rfl
            have g2 := R9.cell 2 (.string ⟨#[]⟩) rfl
            have g3 := R9.cell 3 (.string ⟨#[]⟩) rfl
            have g4 := R9.cell 4 (.slice none 0 0) rfl
            refine bodyPost_ret (v := .tuple #[.agg #[.string ⟨#[]⟩, .string ⟨#[]⟩, .string ⟨#[]⟩, .string ⟨#[]⟩, .slice none 0 0], .int .i64 0, .int .i64 6]) ?_ rfl ⟨parse_bad (n := 6) (unhide EP), R9.bel⟩
            rw [results_cell_tmp2 rfl]
            go_simp
            try rfl
    · have CS := end_some hno hyes
      have hkl : k + 4 ≤ n ∧ k + 4 ≤ 2048 := by
        rcases sepAt_len hyes with h1 | h1
        · cases h1
        · rw [List.length_take, unhide HT] at h1
          have : sep4.length = 4 := rfl
          omega
      obtain ⟨hk1, hk2⟩ := hkl
      have hA : ((txN l).take 2048).take k = (txN l).take k := by rw [List.take_take, Nat.min_eq_left (by omega)]
      rw [hA] at CS
      have PS := hide (show parseL (txN l) = match readLs (linesL ((txN l).take k)) with
        | none => .bad 4
        | some hd => if 32 < hd.fields.length then .bad 6 else .ok hd (k + 4) by
        have hlk : ((txN l).take k).length = k := by rw [List.length_take, unhide HT]; omega
        rw [parse_some (b := ((txN l).take 2048).drop (k + 4)) (by rw [CS]), CS, read_lines, hlk]
        cases readLs (linesL ((txN l).take k)) <;> rfl)
      have hlk : ((txN l).take k).length = k := by rw [List.length_take, unhide HT]; omega
      have LC := hide (show ∀ U, Calls Tryz.prog 33 #[.string (stS ((txN l).take k))] U fun e w' => LinesEnd (linesL ((txN l).take k)) e w' ∧ Below U.heap.size U w' from fun U => by
        have := lines_calls (stS ((txN l).take k)) (by rw [stS_size, hlk]; omega) U
        rwa [stS_list] at this)
      have hss := run_slice_h8 a n c k (by omega)
      have BK := hide (((unhide HB).later (unhide B0)).head c k (by rw [unhide HN]; exact hc))
      have hst : (convert 29 9 (.slice (slp a 0 c) k c)).run Tryz.prog wr = .ok (.string (stS ((txN l).take k))) wr := by
        have := run_string8 (w := wr) k c (l := l.take k) (by rw [List.length_take, unhide HN]; omega) (unhide BK)
        rwa [strOf_tx, txN_take] at this
      have LL := hide (lines_len ((txN l).take k).length ((txN l).take k))
      obtain ⟨a0, t0, hls⟩ := lines_ne ((txN l).take k)
      have hll1 : t0.length ≤ 2048 := by
        have h1 := (unhide LL).1
        rw [show linesN ((txN l).take k).length ((txN l).take k) = a0 :: t0 from hls, List.length_cons] at h1
        omega
      have LB := hide (show ∀ y ∈ a0 :: t0, y.length ≤ 2048 from fun y hy => by
        have h1 := (unhide LL).2 y (by rw [show linesN ((txN l).take k).length ((txN l).take k) = a0 :: t0 from hls]; exact hy)
        omega)
      rw [hls] at PS LC
      have kz0 : (k : Int) ≤ (n : Int) := by omega
      have kz1 : ¬ (k : Int) < 0 := by omega
      have kz2 : (k : Int) ≤ (c : Int) := by omega
      have kw : IntKind.i64.wrap ((k : Int) + 4) = (k : Int) + 4 := by rw [IntKind.wrap_i64]; omega
      generalize stS ((txN l).take k) = sA at *
      generalize slp a 0 c = pp at *
      clear CS hA hno hyes HE hlk LL hls
      have FC := hide (show ∀ U H, U.heap[H]? = some (.cells #[.string ⟨#[]⟩, .string ⟨#[]⟩, .string ⟨#[]⟩, .string ⟨#[]⟩, .slice none 0 0] 58 (0, 0)) → Calls Tryz.prog 34 #[.string (stS a0), .pointer (some ⟨H, 0, none⟩)] U fun e w' => FirstEnd (requestL a0) H e w' ∧ Below H U w' from fun U H hu => by
        have h1 := unhide LB a0 (by simp)
        have := firstR_calls (stS a0) (by rw [stS_size]; omega) H U hu
        rwa [stS_list] at this)
      have RN := hide (show requestL a0 = none → parseL (txN l) = .bad 4 from fun e => by rw [unhide PS]; unfold readLs; simp only; rw [read_none a0 t0 e])
      have RS := hide (show ∀ r, readLines a0 t0 = r → parseL (txN l) = match r with
        | none => .bad 4
        | some hd => if 32 < hd.fields.length then .bad 6 else .ok hd (k + 4) from fun r e => by rw [unhide PS]; unfold readLs; simp only; rw [e])
      clear PS
      generalize hnt : t0.length = nt at *
      have HNT := hide hnt
      clear hnt
      have e3 : (([] : List Nat).length) = 0 := rfl
      by_cases h1 : j + 4 ≤ n
      focus
        by_cases h2 : j + 4 ≤ 2048
        focus
          have q1 : (j : Int) + 4 ≤ (n : Int) := by omega
          have q2 : (j : Int) + 4 ≤ 2048 := by omega
          clear h1 h2
          go_wp2_with fail
        rotate_left
        focus
          have q1 : (j : Int) + 4 ≤ (n : Int) := by omega
          have q2 : ¬ (j : Int) + 4 ≤ 2048 := by omega
          clear h1 h2
          go_wp2_with fail
      rotate_left 2
      focus
        have q1 : ¬ (j : Int) + 4 ≤ (n : Int) := by omega
        clear h1
        go_wp2_with fail
      all_goals
        refine (unhide LC _).mono ?_
        rintro e W1 ⟨⟨lsp, lc, rfl, htx⟩, hb1⟩
        have R1 := hide ((unhide R0).later hb1)
        have HX := hide htx
        have hH1 : w.heap.size < W1.heap.size := Nat.lt_of_lt_of_le (by omega) hb1.size
        rw [List.length_cons, unhide HNT]
        have X1 := hide (heap_new W1 (.cells #[.string ⟨#[]⟩, .string ⟨#[]⟩, .string ⟨#[]⟩, .string ⟨#[]⟩, .slice none 0 0] 58))
        have FC2 := hide (unhide FC _ _ (unhide X1))
        have RH0 := hide (RC.new W1 58 #[.string ⟨#[]⟩, .string ⟨#[]⟩, .string ⟨#[]⟩, .string ⟨#[]⟩, .slice none 0 0])
        obtain ⟨lb, lo, rfl, hl0⟩ := htx 0 (by simp)
        have hl0b := cell_later (unhide RH0).bel hl0
        rw [List.getElem_cons_zero, Nat.add_zero] at hl0b
        clear htx hl0 FC hb1 X1
        have n1 : (0 : Int) < ((nt + 1 : Nat) : Int) := by omega
        cases hrq : requestL a0 with
        | none =>
          have EP := hide (unhide RN hrq)
          rw [hrq] at FC2
          clear hrq RN RS
          go_wp2_with (first
            | (go_at_call 34; refine (unhide FC2).mono ?_; rintro e W2 ⟨he2, hb2⟩; obtain rfl : e = _ := he2
               have R2 := hide ((unhide R1).far ((unhide RH0).bel.trans hb2) hH1 (Nat.le_of_lt hH1))
               obtain ⟨z0, z1, z2, z3, z4, f0, f1, f2, f3, f4⟩ := (unhide R2).five))
          have R9 := (unhide R2).set5 (.string ⟨#[]⟩) (.string ⟨#[]⟩) (.string ⟨#[]⟩) (.string ⟨#[]⟩) (.slice none 0 0)
          have g0 := R9.cell 0 (.string ⟨#[]⟩) rfl
          have g1 := R9.cell 1 (.string ⟨#[]⟩) rfl
          have g2 := R9.cell 2 (.string ⟨#[]⟩) rfl
          have g3 := R9.cell 3 (.string ⟨#[]⟩) rfl
          have g4 := R9.cell 4 (.slice none 0 0) rfl
          refine bodyPost_ret (v := .tuple #[.agg #[.string ⟨#[]⟩, .string ⟨#[]⟩, .string ⟨#[]⟩, .string ⟨#[]⟩, .slice none 0 0], .int .i64 0, .int .i64 4]) ?_ rfl ⟨parse_bad (n := 4) (unhide EP), R9.bel⟩
          rw [results_cell_tmp2 rfl]
          go_simp
          try rfl
        | some r =>
          obtain ⟨m, p, q, x⟩ := r
          rw [hrq] at FC2
          have DN := hide (show ∀ fs, SoFar t0 nt fs → (hostsOf fs).length = 1 → parseL (txN l) = if 32 < fs.length then .bad 6 else .ok ⟨m, p, q, curH x fs, fs⟩ (k + 4) from fun fs hs h1 => unhide RS (some ⟨m, p, q, curH x fs, fs⟩) (by rw [hs.done (by rw [unhide HNT]; omega) a0 m p q x hrq, if_pos h1]))
          have DB := hide (show ∀ fs, SoFar t0 nt fs → ¬ (hostsOf fs).length = 1 → parseL (txN l) = .bad 4 from fun fs hs h1 => unhide RS none (by rw [hs.done (by rw [unhide HNT]; omega) a0 m p q x hrq, if_neg h1]))
          have BF := hide (show fieldsOf t0 = none → parseL (txN l) = .bad 4 from fun e => unhide RS none (read_bad a0 m p q x t0 hrq e))
          have BR := hide (show ∀ j fs f (hj : j < t0.length), SoFar t0 j fs → fieldL t0[j] = some f → (∀ r, hostOfL (fs ++ f :: r) = none) → parseL (txN l) = .bad 4 from fun j fs f hj hs hf hb => unhide RS none (hs.rest hj hf hb a0 m p q x hrq))
          have LT := hide (show ∀ j (hj : j < t0.length), ∀ U, Below W1.heap.size W1 U → U.cell? ⟨lb, lo + (j + 1), none⟩ = some (.string (stS t0[j])) from fun j hj U hu => by
            obtain ⟨b2, o2, e2, h2⟩ := unhide HX (j + 1) (by simp; exact hj)
            cases e2
            have := cell_later hu h2
            rwa [List.getElem_cons_succ] at this)
          have LB2 := hide (show ∀ j (hj : j < t0.length), t0[j].length ≤ 2048 from fun j hj => unhide LB _ (List.mem_cons_of_mem _ (List.getElem_mem hj)))
          have FE := hide (show ∀ e W, FirstEnd (some (m, p, q, x)) W1.heap.size e W → e = .returned (.bool true) ∧ W.heap[W1.heap.size]? = some (.cells #[.string (stS m), .string (stS p), .string (stS q), .string (stS x), .slice none 0 0] 58 (0, 0)) from fun e W h => h)
          have LB3 := hide (show ∀ y ∈ t0, y.length ≤ 2048 from fun y hy => unhide LB _ (List.mem_cons_of_mem _ hy))
          have hxl : (stS x).size ≤ 9223372036854775807 := by have := requestL_len hrq; rw [stS_size]; omega
          clear hrq RN RS HX LB
          go_wp2_with (first
            | (go_at_call 34; refine (unhide FC2).mono ?_; rintro e W2 ⟨he2, hb2⟩
               obtain ⟨rfl, hr2⟩ := unhide FE _ _ he2
               have J0 := hide (show LJ W1 t0 m p q x W2 0 [] none 0 from ⟨soFar0 t0, ⟨hr2, Nat.le_refl _, Nat.le_refl _, (unhide RH0).bel.trans hb2⟩, OwnFd.ofNil _ _⟩)
               clear he2 hr2 hb2))
          clear FE FC2 hl0b n1
          go_loopw [9, 10] (fun hc i wr => ∃ (j : Nat) (fs : List Fd) (fsp : Option Addr) (fc : Nat), j ≤ nt ∧ hc = .int .i64 ((hostsOf fs).length : Int) ∧ i = .int .i64 ((j + 1 : Nat) : Int) ∧ Hid (LJ W1 t0 m p q x wr j fs fsp fc)) (fun _ i _ => nt + 2 - (intOf i).toNat)
          case atStart => exact ⟨0, [], none, 0, by omega, rfl, rfl, J0⟩
          case round =>
            obtain ⟨i, fs, fsp, fc, hi, rfl, rfl, J⟩ := hrel
            have hho : (hostsOf fs).length ≤ 1 := by rcases (unhide J).sf.one with h0 | ⟨f, y, h1, _⟩ <;> simp [*]
            by_cases hin : i < nt
            · have hit : i < t0.length := by rw [unhide HNT]; exact hin
              have y1 : ((i + 1 : Nat) : Int) < ((nt + 1 : Nat) : Int) := by omega
              have y0 : (0 : Int) ≤ ((i + 1 : Nat) : Int) := by omega
              have yw : IntKind.i64.wrap (((i + 1 : Nat) : Int) + 1) = ((i + 1 + 1 : Nat) : Int) := by rw [IntKind.wrap_i64]; omega
              have hlc := unhide LT i hit wr (unhide J).rc.bel
              have hlb := unhide LB2 i hit
              have FI := hide (fieldR_is t0[i])
              have BAD1 := hide (show fieldL t0[i] = none → parseL (txN l) = .bad 4 from fun e => unhide BF ((unhide J).sf.bad hit e))
              have BAD2 := hide (show ∀ f, fieldL t0[i] = some f → (∀ r, hostOfL (fs ++ f :: r) = none) → parseL (txN l) = .bad 4 from fun f hf hb => unhide BR i fs f hit (unhide J).sf hf hb)
              have SP1 := hide (show ∀ f, fieldL t0[i] = some f → ¬ f.name = hostName → SoFar t0 (i + 1) (fs ++ [f]) ∧ curH x (fs ++ [f]) = curH x fs ∧ hostsOf (fs ++ [f]) = hostsOf fs from fun f hf hn => (unhide J).sf.plain hit hf hn x)
              have SP2 := hide (show ∀ f y, fieldL t0[i] = some f → f.name = hostName → hostsOf fs = [] → hostL f.value = some y → SoFar t0 (i + 1) (fs ++ [f]) ∧ curH x (fs ++ [f]) = (if x = [] then y else x) ∧ curH x fs = x ∧ hostsOf (fs ++ [f]) = [f] from fun f y hf hn h0 hx => (unhide J).sf.host hit hf hn h0 hx x)
              have C1 := hide (fun W => cutR_calls (stS t0[i]) 58 (by rw [stS_size]; omega) W)
              rw [stS_list] at C1
              unfold cutV1 at C1
              have l1 := cutL_len (sep := [58]) (l := t0[i])
              have l2 := behindL_len (sep := [58]) (l := t0[i])
              have JR := hide (unhide J).rc
              have JO := hide (unhide J).ow
              have JL := hide (unhide J).sf.len
              generalize t0[i] = line at *
              generalize (cutL [58] line).1 = nm at *
              generalize (cutL [58] line).2.isSome = ok at *
              generalize behindL [58] line = vv at *
              have TM := hide (fun W => trimR_calls (stS vv) (by rw [stS_size]; omega) W)
              rw [stS_list] at TM
              have l3 : (trimB vv).length ≤ vv.length := trimS_len _ _
              generalize trimB vv = tv at *
              have TK := hide (fun W => tokenR_calls (stS nm) (by rw [stS_size]; simp only [maxLen]; omega) W)
              have VL := hide (fun W => valueR_calls (stS tv) (by rw [stS_size]; simp only [maxLen]; omega) W)
              rw [stS_list] at TK VL
              have RF := hide (show ∀ W, Below W1.heap.size W1 W → RC w.heap.size w w.heap.size 58 #[.string ⟨#[]⟩, .string ⟨#[]⟩, .string ⟨#[]⟩, .string ⟨#[]⟩, .slice none 0 0] W from fun W hW => (unhide R1).far hW hH1 (Nat.le_of_lt hH1))
              have CF := hide (show ∀ W, Below wr.heap.size wr W → RC w.heap.size w w.heap.size 58 #[.string ⟨#[]⟩, .string ⟨#[]⟩, .string ⟨#[]⟩, .string ⟨#[]⟩, .slice none 0 0] W from fun W hW => unhide RF W ((unhide JR).later hW).bel)
              cases ok with
              | false =>
                have EP := hide (unhide BAD1 (by rw [unhide FI]; rfl))
                clear BAD1 BAD2 SP1 SP2 FI BF BR DN DB
                go_wp2_with (first
                  | (go_at_call 35; refine (unhide C1 _).mono ?_; rintro e V1 ⟨rfl, v1⟩; have RX := hide (unhide CF _ v1); have V1B := hide v1; clear v1
                     obtain ⟨z0, z1, z2, z3, z4, f0, f1, f2, f3, f4⟩ := (unhide RX).five)
                  | (go_at_call 36; refine (unhide TM _).mono ?_; rintro e V2 ⟨rfl, v2⟩; rw [v2]; clear v2))
                have R9 := (unhide RX).set5 (.string ⟨#[]⟩) (.string ⟨#[]⟩) (.string ⟨#[]⟩) (.string ⟨#[]⟩) (.slice none 0 0)
                have g0 := R9.cell 0 (.string ⟨#[]⟩) rfl
                have g1 := R9.cell 1 (.string ⟨#[]⟩) rfl
                have g2 := R9.cell 2 (.string ⟨#[]⟩) rfl
                have g3 := R9.cell 3 (.string ⟨#[]⟩) rfl
                have g4 := R9.cell 4 (.slice none 0 0) rfl
                refine bodyPost_ret (v := .tuple #[.agg #[.string ⟨#[]⟩, .string ⟨#[]⟩, .string ⟨#[]⟩, .string ⟨#[]⟩, .slice none 0 0], .int .i64 0, .int .i64 4]) ?_ rfl ⟨parse_bad (n := 4) (unhide EP), R9.bel⟩
                rw [results_cell_tmp2 rfl]
                go_simp
                try rfl
              | true =>
              cases htk : isTokenL nm with
              | false =>
                have EP := hide (unhide BAD1 (by rw [unhide FI, htk]; rfl))
                rw [htk] at TK
                clear htk BAD1 BAD2 SP1 SP2 FI BF BR DN DB
                go_wp2_with (first
                  | (go_at_call 35; refine (unhide C1 _).mono ?_; rintro e V1 ⟨rfl, v1⟩; have RX := hide (unhide CF _ v1); have V1B := hide v1; clear v1
                     obtain ⟨z0, z1, z2, z3, z4, f0, f1, f2, f3, f4⟩ := (unhide RX).five)
                  | (go_at_call 36; refine (unhide TM _).mono ?_; rintro e V2 ⟨rfl, v2⟩; rw [v2]; clear v2)
                  | (go_at_call 37; refine (unhide TK _).mono ?_; rintro e V3 ⟨rfl, v3⟩; rw [v3]; clear v3))
                have R9 := (unhide RX).set5 (.string ⟨#[]⟩) (.string ⟨#[]⟩) (.string ⟨#[]⟩) (.string ⟨#[]⟩) (.slice none 0 0)
                have g0 := R9.cell 0 (.string ⟨#[]⟩) rfl
                have g1 := R9.cell 1 (.string ⟨#[]⟩) rfl
                have g2 := R9.cell 2 (.string ⟨#[]⟩) rfl
                have g3 := R9.cell 3 (.string ⟨#[]⟩) rfl
                have g4 := R9.cell 4 (.slice none 0 0) rfl
                refine bodyPost_ret (v := .tuple #[.agg #[.string ⟨#[]⟩, .string ⟨#[]⟩, .string ⟨#[]⟩, .string ⟨#[]⟩, .slice none 0 0], .int .i64 0, .int .i64 4]) ?_ rfl ⟨parse_bad (n := 4) (unhide EP), R9.bel⟩
                rw [results_cell_tmp2 rfl]
                go_simp
                try rfl
              | true =>
              rw [htk] at TK
              cases hvl : isValueL tv with
              | false =>
                have EP := hide (unhide BAD1 (by rw [unhide FI, htk, hvl]; rfl))
                rw [hvl] at VL
                clear htk hvl BAD1 BAD2 SP1 SP2 FI BF BR DN DB
                go_wp2_with (first
                  | (go_at_call 35; refine (unhide C1 _).mono ?_; rintro e V1 ⟨rfl, v1⟩; have RX := hide (unhide CF _ v1); have V1B := hide v1; clear v1
                     obtain ⟨z0, z1, z2, z3, z4, f0, f1, f2, f3, f4⟩ := (unhide RX).five)
                  | (go_at_call 36; refine (unhide TM _).mono ?_; rintro e V2 ⟨rfl, v2⟩; rw [v2]; clear v2)
                  | (go_at_call 37; refine (unhide TK _).mono ?_; rintro e V3 ⟨rfl, v3⟩; rw [v3]; clear v3)
                  | (go_at_call 38; refine (unhide VL _).mono ?_; rintro e V4 ⟨rfl, v4⟩; rw [v4]; clear v4))
                have R9 := (unhide RX).set5 (.string ⟨#[]⟩) (.string ⟨#[]⟩) (.string ⟨#[]⟩) (.string ⟨#[]⟩) (.slice none 0 0)
                have g0 := R9.cell 0 (.string ⟨#[]⟩) rfl
                have g1 := R9.cell 1 (.string ⟨#[]⟩) rfl
                have g2 := R9.cell 2 (.string ⟨#[]⟩) rfl
                have g3 := R9.cell 3 (.string ⟨#[]⟩) rfl
                have g4 := R9.cell 4 (.slice none 0 0) rfl
                refine bodyPost_ret (v := .tuple #[.agg #[.string ⟨#[]⟩, .string ⟨#[]⟩, .string ⟨#[]⟩, .string ⟨#[]⟩, .slice none 0 0], .int .i64 0, .int .i64 4]) ?_ rfl ⟨parse_bad (n := 4) (unhide EP), R9.bel⟩
                rw [results_cell_tmp2 rfl]
                go_simp
                try rfl
              | true =>
              rw [hvl] at VL
              have hfl : fieldL line = some ⟨lowL nm, tv⟩ := by rw [unhide FI, htk, hvl]; rfl
              have LW := hide (fun W => lowerR_calls (stS nm) (by rw [stS_size]; omega) W)
              rw [stS_list] at LW
              have l4 := low_len nm
              have hhe := host_eqS (lowL nm)
              have hez : (stS (lowL nm)).size ≤ 9223372036854775807 := by rw [stS_size]; omega
              have B2 := hide (fun h => unhide BAD2 ⟨lowL nm, tv⟩ hfl h)
              have P1 := hide (unhide SP1 ⟨lowL nm, tv⟩ hfl)
              have P2 := hide (fun y => unhide SP2 ⟨lowL nm, tv⟩ y hfl)
              clear htk hvl BAD1 BAD2 SP1 SP2 FI hfl BF BR
              generalize lowL nm = ln at *
              have HSV := hide (fun W => hostR_calls (stS tv) (by rw [stS_size]; omega) W)
              rw [stS_list] at HSV
              have HV0 := hide (show hostL tv = none → hostV tv = .tuple #[.string ⟨#[]⟩, .bool false] from fun e => by unfold hostV; rw [e])
              have HV1 := hide (show ∀ y, hostL tv = some y → hostV tv = .tuple #[.string (stS y), .bool true] from fun y e => by unfold hostV; rw [e])
              have hsz2 : (i + 1) * 32 ≤ 140737488355328 := by omega
              cases hhn : (ln == hostName) with
              | false =>
                rw [hhn] at hhe
                have PF := unhide P1 (fun e => by rw [show ln = hostName from e] at hhn; cases hhn)
                have PS1 := hide PF.1
                have PS2 := hide PF.2.1
                have PS3 := hide PF.2.2
                clear hhn PF B2 P1 P2 HV0 HV1 HSV DN DB
                go_wp2_with (first
                  | (go_at_call 35; refine (unhide C1 _).mono ?_; rintro e V1 ⟨rfl, v1⟩; have RX := hide (unhide CF _ v1); have V1B := hide v1; clear v1
                     obtain ⟨z0, z1, z2, z3, z4, f0, f1, f2, f3, f4⟩ := (unhide RX).five)
                  | (go_at_call 36; refine (unhide TM _).mono ?_; rintro e V2 ⟨rfl, v2⟩; rw [v2]; clear v2)
                  | (go_at_call 37; refine (unhide TK _).mono ?_; rintro e V3 ⟨rfl, v3⟩; rw [v3]; clear v3)
                  | (go_at_call 38; refine (unhide VL _).mono ?_; rintro e V4 ⟨rfl, v4⟩; rw [v4]; clear v4)
                  | (go_at_call 39; refine (unhide LW _).mono ?_; rintro e V5 ⟨rfl, v5⟩
                     have v6 := (unhide V1B).trans (v5.mono (unhide V1B).size)
                     have RL := hide ((unhide JR).later v6)
                     have OL := hide ((unhide JO).below v6)
                     have k4 := (unhide RL).cell 4 (.slice fsp i fc) rfl
                     have BB := hide (show Below V5.heap.size V5 (V5.alloc (.cells #[.string (stS ln), .string (stS tv)] 86)) from (Below.refl _ _).alloc (Nat.le_refl _) _)
                     have OM := hide ((unhide OL).below (unhide BB))
                     have RM := hide ((unhide RL).later (unhide BB))
                     have XM := hide (heap_new V5 (.cells #[.string (stS ln), .string (stS tv)] 86))
                     have QM := hide (show W1.heap.size + 1 ≤ (V5.alloc (.cells #[.string (stS ln), .string (stS tv)] 86)).heap.size by
                       have h1 := (Array.getElem?_eq_some_iff.1 (unhide RL).row).1
                       have h2 := (unhide BB).size
                       omega)
                     clear v5 v6)
                  | (at_builtin; have hV : QM = QM := rfl; clear hV; refine wpList_appendFd rfl (.tmp 118) (.tmp 122) rfl (W1.heap.size + 1) fsp i fc fs rfl (unhide JL) (by exact unhide OM) V5.heap.size [⟨ln, tv⟩] 1 rfl rfl (by exact unhide XM) hsz2 (by exact unhide QM) ?_; intro sp6 c6 V6 ho6 hb6
                     have RN6 := hide ((unhide RM).far hb6 (Nat.lt_succ_self _) (Nat.le_succ _))
                     have u4 := (unhide RN6).cell 4 (.slice fsp i fc) rfl
                     have uf := (unhide RN6).froz 4
                     have RN7 := hide (show RC W1.heap.size W1 W1.heap.size 58 #[.string (stS m), .string (stS p), .string (stS q), .string (stS (curH x fs)), .slice sp6 (i + 1) c6] (V6.setCell ⟨W1.heap.size, 4, none⟩ (.slice sp6 (i + 1) c6)) from (unhide RN6).set 4 (.slice sp6 (i + 1) c6))
                     have ON7 := hide (show OwnFd (W1.heap.size + 1) (V6.setCell ⟨W1.heap.size, 4, none⟩ (.slice sp6 (i + 1) c6)) sp6 c6 (fs ++ [⟨ln, tv⟩]) from ho6.same (fun g h1 h2 => setO V6 W1.heap.size 4 g _ (by omega)))
                     clear ho6 hb6 QM z0 z1 z2 z3 z4 f0 f1 f2 f3 f4))
                go_roundw
                case rel => exact ⟨i + 1, fs ++ [⟨ln, tv⟩], sp6, c6, by omega, by rw [unhide PS3], by first | rfl | (rw [yw]), hide ⟨unhide PS1, by rw [unhide PS2]; exact unhide RN7, unhide ON7⟩⟩
                case measure => simp [intOf]; omega
              | true =>
              have hnm : ln = hostName := eq_of_beq hhn
              rw [hhn] at hhe
              have hnw : IntKind.i64.wrap (((hostsOf fs).length : Int) + 1) = ((hostsOf fs).length : Int) + 1 := by rw [IntKind.wrap_i64]; omega
              cases hvh : hostL tv with
              | none =>
                have EP := hide (unhide B2 (fun r => hostOf_bad1 fs r ⟨ln, tv⟩ hnm hvh))
                have HS2 := hide (show ∀ W, Calls Tryz.prog 40 #[.string (stS tv)] W fun e w' => e = .returned (.tuple #[.string ⟨#[]⟩, .bool false]) ∧ Below W.heap.size W w' from fun W => by have := unhide HSV W; rwa [unhide HV0 hvh] at this)
                clear hhn hnm hvh B2 P1 P2 HV0 HV1 HSV DN DB
                generalize (hostsOf fs).length = nh at *
                go_wp2_with (first
                  | (go_at_call 35; refine (unhide C1 _).mono ?_; rintro e V1 ⟨rfl, v1⟩; have RX := hide (unhide CF _ v1); have V1B := hide v1; clear v1
                     obtain ⟨z0, z1, z2, z3, z4, f0, f1, f2, f3, f4⟩ := (unhide RX).five)
                  | (go_at_call 36; refine (unhide TM _).mono ?_; rintro e V2 ⟨rfl, v2⟩; rw [v2]; clear v2)
                  | (go_at_call 37; refine (unhide TK _).mono ?_; rintro e V3 ⟨rfl, v3⟩; rw [v3]; clear v3)
                  | (go_at_call 38; refine (unhide VL _).mono ?_; rintro e V4 ⟨rfl, v4⟩; rw [v4]; clear v4)
                  | (go_at_call 39; refine (unhide LW _).mono ?_; rintro e V5 ⟨rfl, v5⟩
                     have v6 := (unhide V1B).trans (v5.mono (unhide V1B).size)
                     have RL := hide ((unhide JR).later v6)
                     have OL := hide ((unhide JO).below v6)
                     have k4 := (unhide RL).cell 4 (.slice fsp i fc) rfl
                     have BB := hide (show Below V5.heap.size V5 (V5.alloc (.cells #[.string (stS ln), .string (stS tv)] 86)) from (Below.refl _ _).alloc (Nat.le_refl _) _)
                     have OM := hide ((unhide OL).below (unhide BB))
                     have RM := hide ((unhide RL).later (unhide BB))
                     have XM := hide (heap_new V5 (.cells #[.string (stS ln), .string (stS tv)] 86))
                     have QM := hide (show W1.heap.size + 1 ≤ (V5.alloc (.cells #[.string (stS ln), .string (stS tv)] 86)).heap.size by
                       have h1 := (Array.getElem?_eq_some_iff.1 (unhide RL).row).1
                       have h2 := (unhide BB).size
                       omega)
                     clear v5 v6)
                  | (at_builtin; have hV : QM = QM := rfl; clear hV; refine wpList_appendFd rfl (.tmp 118) (.tmp 122) rfl (W1.heap.size + 1) fsp i fc fs rfl (unhide JL) (by exact unhide OM) V5.heap.size [⟨ln, tv⟩] 1 rfl rfl (by exact unhide XM) hsz2 (by exact unhide QM) ?_; intro sp6 c6 V6 ho6 hb6
                     have RN6 := hide ((unhide RM).far hb6 (Nat.lt_succ_self _) (Nat.le_succ _))
                     have u4 := (unhide RN6).cell 4 (.slice fsp i fc) rfl
                     have uf := (unhide RN6).froz 4
                     have RN7 := hide (show RC W1.heap.size W1 W1.heap.size 58 #[.string (stS m), .string (stS p), .string (stS q), .string (stS (curH x fs)), .slice sp6 (i + 1) c6] (V6.setCell ⟨W1.heap.size, 4, none⟩ (.slice sp6 (i + 1) c6)) from (unhide RN6).set 4 (.slice sp6 (i + 1) c6))
                     have ON7 := hide (show OwnFd (W1.heap.size + 1) (V6.setCell ⟨W1.heap.size, 4, none⟩ (.slice sp6 (i + 1) c6)) sp6 c6 (fs ++ [⟨ln, tv⟩]) from ho6.same (fun g h1 h2 => setO V6 W1.heap.size 4 g _ (by omega)))
                     clear ho6 hb6 QM z0 z1 z2 z3 z4 f0 f1 f2 f3 f4)
                  | (go_at_call 40; refine (unhide HS2 _).mono ?_; rintro e V8 ⟨rfl, v8⟩
                     have RP := hide ((unhide RN7).later v8)
                     have OP := hide ((unhide ON7).below v8)
                     have RZ := hide (unhide RF _ (unhide RP).bel)
                     obtain ⟨z0, z1, z2, z3, z4, f0, f1, f2, f3, f4⟩ := (unhide RZ).five
                     clear v8))
                have R9 := (unhide RZ).set5 (.string ⟨#[]⟩) (.string ⟨#[]⟩) (.string ⟨#[]⟩) (.string ⟨#[]⟩) (.slice none 0 0)
                have g0 := R9.cell 0 (.string ⟨#[]⟩) rfl
                have g1 := R9.cell 1 (.string ⟨#[]⟩) rfl
                have g2 := R9.cell 2 (.string ⟨#[]⟩) rfl
                have g3 := R9.cell 3 (.string ⟨#[]⟩) rfl
                have g4 := R9.cell 4 (.slice none 0 0) rfl
                refine bodyPost_ret (v := .tuple #[.agg #[.string ⟨#[]⟩, .string ⟨#[]⟩, .string ⟨#[]⟩, .string ⟨#[]⟩, .slice none 0 0], .int .i64 0, .int .i64 4]) ?_ rfl ⟨parse_bad (n := 4) (unhide EP), R9.bel⟩
                rw [results_cell_tmp2 rfl]
                go_simp
                try rfl
              | some y =>
              have HS2 := hide (show ∀ W, Calls Tryz.prog 40 #[.string (stS tv)] W fun e w' => e = .returned (.tuple #[.string (stS y), .bool true]) ∧ Below W.heap.size W w' from fun W => by have := unhide HSV W; rwa [unhide HV1 y hvh] at this)
              by_cases h00 : hostsOf fs = []
              · have PF := unhide P2 y hnm h00 hvh
                have PS1 := hide PF.1
                have PS2 := hide PF.2.1
                have PS3 := hide PF.2.2.1
                have PS4 := hide PF.2.2.2
                have hn0 : (hostsOf fs).length = 0 := by rw [h00]; rfl
                rw [hn0] at hnw
                rw [hn0]
                clear hhn hnm hvh B2 P1 P2 HV0 HV1 HSV PF h00 hn0 DN DB hho
                have hxe := str_nil (stS x)
                rw [stS_list] at hxe
                have hnil : (⟨#[]⟩ : ByteArray).toList = [] := by rw [ByteArray.toList_eq]
                have hxz : (stS x).size ≤ 9223372036854775807 := hxl
                cases hxem : x.isEmpty with
                | true =>
                  rw [hxem] at hxe
                  have PS5 := hide (show curH x (fs ++ [⟨ln, tv⟩]) = y by rw [unhide PS2, if_pos (List.isEmpty_iff.1 hxem)])
                  clear hxem
                  go_wp2_with (first
                    | (go_at_call 35; refine (unhide C1 _).mono ?_; rintro e V1 ⟨rfl, v1⟩; have RX := hide (unhide CF _ v1); have V1B := hide v1; clear v1
                       obtain ⟨z0, z1, z2, z3, z4, f0, f1, f2, f3, f4⟩ := (unhide RX).five)
                    | (go_at_call 36; refine (unhide TM _).mono ?_; rintro e V2 ⟨rfl, v2⟩; rw [v2]; clear v2)
                    | (go_at_call 37; refine (unhide TK _).mono ?_; rintro e V3 ⟨rfl, v3⟩; rw [v3]; clear v3)
                    | (go_at_call 38; refine (unhide VL _).mono ?_; rintro e V4 ⟨rfl, v4⟩; rw [v4]; clear v4)
                    | (go_at_call 39; refine (unhide LW _).mono ?_; rintro e V5 ⟨rfl, v5⟩
                       have v6 := (unhide V1B).trans (v5.mono (unhide V1B).size)
                       have RL := hide ((unhide JR).later v6)
                       have OL := hide ((unhide JO).below v6)
                       have k4 := (unhide RL).cell 4 (.slice fsp i fc) rfl
                       have BB := hide (show Below V5.heap.size V5 (V5.alloc (.cells #[.string (stS ln), .string (stS tv)] 86)) from (Below.refl _ _).alloc (Nat.le_refl _) _)
                       have OM := hide ((unhide OL).below (unhide BB))
                       have RM := hide ((unhide RL).later (unhide BB))
                       have XM := hide (heap_new V5 (.cells #[.string (stS ln), .string (stS tv)] 86))
                       have QM := hide (show W1.heap.size + 1 ≤ (V5.alloc (.cells #[.string (stS ln), .string (stS tv)] 86)).heap.size by
                         have h1 := (Array.getElem?_eq_some_iff.1 (unhide RL).row).1
                         have h2 := (unhide BB).size
                         omega)
                       clear v5 v6)
                    | (at_builtin; have hV : QM = QM := rfl; clear hV; refine wpList_appendFd rfl (.tmp 118) (.tmp 122) rfl (W1.heap.size + 1) fsp i fc fs rfl (unhide JL) (by exact unhide OM) V5.heap.size [⟨ln, tv⟩] 1 rfl rfl (by exact unhide XM) hsz2 (by exact unhide QM) ?_; intro sp6 c6 V6 ho6 hb6
                       have RN6 := hide ((unhide RM).far hb6 (Nat.lt_succ_self _) (Nat.le_succ _))
                       have u4 := (unhide RN6).cell 4 (.slice fsp i fc) rfl
                       have uf := (unhide RN6).froz 4
                       have RN7 := hide (show RC W1.heap.size W1 W1.heap.size 58 #[.string (stS m), .string (stS p), .string (stS q), .string (stS (curH x fs)), .slice sp6 (i + 1) c6] (V6.setCell ⟨W1.heap.size, 4, none⟩ (.slice sp6 (i + 1) c6)) from (unhide RN6).set 4 (.slice sp6 (i + 1) c6))
                       have ON7 := hide (show OwnFd (W1.heap.size + 1) (V6.setCell ⟨W1.heap.size, 4, none⟩ (.slice sp6 (i + 1) c6)) sp6 c6 (fs ++ [⟨ln, tv⟩]) from ho6.same (fun g h1 h2 => setO V6 W1.heap.size 4 g _ (by omega)))
                       clear ho6 hb6 QM z0 z1 z2 z3 z4 f0 f1 f2 f3 f4)
                    | (go_at_call 40; refine (unhide HS2 _).mono ?_; rintro e V8 ⟨rfl, v8⟩
                       have RP := hide ((unhide RN7).later v8)
                       have OP := hide ((unhide ON7).below v8)
                       have w3 := (unhide RP).cell 3 (.string (stS (curH x fs))) rfl
                       rw [unhide PS3] at w3
                       have wf := (unhide RP).froz 3
                       have RQ := hide (show RC W1.heap.size W1 W1.heap.size 58 #[.string (stS m), .string (stS p), .string (stS q), .string (stS y), .slice sp6 (i + 1) c6] (V8.setCell ⟨W1.heap.size, 3, none⟩ (.string (stS y))) from (unhide RP).set 3 (.string (stS y)))
                       have OQ := hide (show OwnFd (W1.heap.size + 1) (V8.setCell ⟨W1.heap.size, 3, none⟩ (.string (stS y))) sp6 c6 (fs ++ [⟨ln, tv⟩]) from (unhide OP).same (fun g h1 h2 => setO V8 W1.heap.size 3 g _ (by omega)))
                       clear v8))
                  go_roundw
                  case rel => exact ⟨i + 1, fs ++ [⟨ln, tv⟩], sp6, c6, by omega, by rw [unhide PS4]; rfl, by first | rfl | (rw [yw]), hide ⟨unhide PS1, by rw [unhide PS5]; exact unhide RQ, unhide OQ⟩⟩
                  case measure => simp [intOf]; omega
                | false =>
                  rw [hxem] at hxe
                  have PS5 := hide (show curH x (fs ++ [⟨ln, tv⟩]) = curH x fs by rw [unhide PS2, unhide PS3, if_neg (fun e => by rw [e] at hxem; cases hxem)])
                  clear hxem
                  go_wp2_with (first
                    | (go_at_call 35; refine (unhide C1 _).mono ?_; rintro e V1 ⟨rfl, v1⟩; have RX := hide (unhide CF _ v1); have V1B := hide v1; clear v1
                       obtain ⟨z0, z1, z2, z3, z4, f0, f1, f2, f3, f4⟩ := (unhide RX).five)
                    | (go_at_call 36; refine (unhide TM _).mono ?_; rintro e V2 ⟨rfl, v2⟩; rw [v2]; clear v2)
                    | (go_at_call 37; refine (unhide TK _).mono ?_; rintro e V3 ⟨rfl, v3⟩; rw [v3]; clear v3)
                    | (go_at_call 38; refine (unhide VL _).mono ?_; rintro e V4 ⟨rfl, v4⟩; rw [v4]; clear v4)
                    | (go_at_call 39; refine (unhide LW _).mono ?_; rintro e V5 ⟨rfl, v5⟩
                       have v6 := (unhide V1B).trans (v5.mono (unhide V1B).size)
                       have RL := hide ((unhide JR).later v6)
                       have OL := hide ((unhide JO).below v6)
                       have k4 := (unhide RL).cell 4 (.slice fsp i fc) rfl
                       have BB := hide (show Below V5.heap.size V5 (V5.alloc (.cells #[.string (stS ln), .string (stS tv)] 86)) from (Below.refl _ _).alloc (Nat.le_refl _) _)
                       have OM := hide ((unhide OL).below (unhide BB))
                       have RM := hide ((unhide RL).later (unhide BB))
                       have XM := hide (heap_new V5 (.cells #[.string (stS ln), .string (stS tv)] 86))
                       have QM := hide (show W1.heap.size + 1 ≤ (V5.alloc (.cells #[.string (stS ln), .string (stS tv)] 86)).heap.size by
                         have h1 := (Array.getElem?_eq_some_iff.1 (unhide RL).row).1
                         have h2 := (unhide BB).size
                         omega)
                       clear v5 v6)
                    | (at_builtin; have hV : QM = QM := rfl; clear hV; refine wpList_appendFd rfl (.tmp 118) (.tmp 122) rfl (W1.heap.size + 1) fsp i fc fs rfl (unhide JL) (by exact unhide OM) V5.heap.size [⟨ln, tv⟩] 1 rfl rfl (by exact unhide XM) hsz2 (by exact unhide QM) ?_; intro sp6 c6 V6 ho6 hb6
                       have RN6 := hide ((unhide RM).far hb6 (Nat.lt_succ_self _) (Nat.le_succ _))
                       have u4 := (unhide RN6).cell 4 (.slice fsp i fc) rfl
                       have uf := (unhide RN6).froz 4
                       have RN7 := hide (show RC W1.heap.size W1 W1.heap.size 58 #[.string (stS m), .string (stS p), .string (stS q), .string (stS (curH x fs)), .slice sp6 (i + 1) c6] (V6.setCell ⟨W1.heap.size, 4, none⟩ (.slice sp6 (i + 1) c6)) from (unhide RN6).set 4 (.slice sp6 (i + 1) c6))
                       have ON7 := hide (show OwnFd (W1.heap.size + 1) (V6.setCell ⟨W1.heap.size, 4, none⟩ (.slice sp6 (i + 1) c6)) sp6 c6 (fs ++ [⟨ln, tv⟩]) from ho6.same (fun g h1 h2 => setO V6 W1.heap.size 4 g _ (by omega)))
                       clear ho6 hb6 QM z0 z1 z2 z3 z4 f0 f1 f2 f3 f4)
                    | (go_at_call 40; refine (unhide HS2 _).mono ?_; rintro e V8 ⟨rfl, v8⟩
                       have RP := hide ((unhide RN7).later v8)
                       have OP := hide ((unhide ON7).below v8)
                       have w3 := (unhide RP).cell 3 (.string (stS (curH x fs))) rfl
                       rw [unhide PS3] at w3
                       clear v8))
                  go_roundw
                  case rel => exact ⟨i + 1, fs ++ [⟨ln, tv⟩], sp6, c6, by omega, by rw [unhide PS4]; rfl, by first | rfl | (rw [yw]), hide ⟨unhide PS1, by rw [unhide PS5]; exact unhide RP, unhide OP⟩⟩
                  case measure => simp [intOf]; omega
              · have EP := hide (unhide B2 (fun r => hostOf_bad2 fs r ⟨ln, tv⟩ hnm h00))
                have hn1 : (1 : Int) < ((hostsOf fs).length : Int) + 1 := by
                  have : 0 < (hostsOf fs).length := List.length_pos_iff.2 h00
                  omega
                clear hhn hnm hvh B2 P1 P2 HV0 HV1 HSV h00 DN DB
                generalize (hostsOf fs).length = nh at *
                go_wp2_with (first
                  | (go_at_call 35; refine (unhide C1 _).mono ?_; rintro e V1 ⟨rfl, v1⟩; have RX := hide (unhide CF _ v1); have V1B := hide v1; clear v1
                     obtain ⟨z0, z1, z2, z3, z4, f0, f1, f2, f3, f4⟩ := (unhide RX).five)
                  | (go_at_call 36; refine (unhide TM _).mono ?_; rintro e V2 ⟨rfl, v2⟩; rw [v2]; clear v2)
                  | (go_at_call 37; refine (unhide TK _).mono ?_; rintro e V3 ⟨rfl, v3⟩; rw [v3]; clear v3)
                  | (go_at_call 38; refine (unhide VL _).mono ?_; rintro e V4 ⟨rfl, v4⟩; rw [v4]; clear v4)
                  | (go_at_call 39; refine (unhide LW _).mono ?_; rintro e V5 ⟨rfl, v5⟩
                     have v6 := (unhide V1B).trans (v5.mono (unhide V1B).size)
                     have RL := hide ((unhide JR).later v6)
                     have OL := hide ((unhide JO).below v6)
                     have k4 := (unhide RL).cell 4 (.slice fsp i fc) rfl
                     have BB := hide (show Below V5.heap.size V5 (V5.alloc (.cells #[.string (stS ln), .string (stS tv)] 86)) from (Below.refl _ _).alloc (Nat.le_refl _) _)
                     have OM := hide ((unhide OL).below (unhide BB))
                     have RM := hide ((unhide RL).later (unhide BB))
                     have XM := hide (heap_new V5 (.cells #[.string (stS ln), .string (stS tv)] 86))
                     have QM := hide (show W1.heap.size + 1 ≤ (V5.alloc (.cells #[.string (stS ln), .string (stS tv)] 86)).heap.size by
                       have h1 := (Array.getElem?_eq_some_iff.1 (unhide RL).row).1
                       have h2 := (unhide BB).size
                       omega)
                     clear v5 v6)
                  | (at_builtin; have hV : QM = QM := rfl; clear hV; refine wpList_appendFd rfl (.tmp 118) (.tmp 122) rfl (W1.heap.size + 1) fsp i fc fs rfl (unhide JL) (by exact unhide OM) V5.heap.size [⟨ln, tv⟩] 1 rfl rfl (by exact unhide XM) hsz2 (by exact unhide QM) ?_; intro sp6 c6 V6 ho6 hb6
                     have RN6 := hide ((unhide RM).far hb6 (Nat.lt_succ_self _) (Nat.le_succ _))
                     have u4 := (unhide RN6).cell 4 (.slice fsp i fc) rfl
                     have uf := (unhide RN6).froz 4
                     have RN7 := hide (show RC W1.heap.size W1 W1.heap.size 58 #[.string (stS m), .string (stS p), .string (stS q), .string (stS (curH x fs)), .slice sp6 (i + 1) c6] (V6.setCell ⟨W1.heap.size, 4, none⟩ (.slice sp6 (i + 1) c6)) from (unhide RN6).set 4 (.slice sp6 (i + 1) c6))
                     have ON7 := hide (show OwnFd (W1.heap.size + 1) (V6.setCell ⟨W1.heap.size, 4, none⟩ (.slice sp6 (i + 1) c6)) sp6 c6 (fs ++ [⟨ln, tv⟩]) from ho6.same (fun g h1 h2 => setO V6 W1.heap.size 4 g _ (by omega)))
                     clear ho6 hb6 QM z0 z1 z2 z3 z4 f0 f1 f2 f3 f4)
                  | (go_at_call 40; refine (unhide HS2 _).mono ?_; rintro e V8 ⟨rfl, v8⟩
                     have RP := hide ((unhide RN7).later v8)
                     have OP := hide ((unhide ON7).below v8)
                     have RZ := hide (unhide RF _ (unhide RP).bel)
                     obtain ⟨z0, z1, z2, z3, z4, f0, f1, f2, f3, f4⟩ := (unhide RZ).five
                     clear v8))
                have R9 := (unhide RZ).set5 (.string ⟨#[]⟩) (.string ⟨#[]⟩) (.string ⟨#[]⟩) (.string ⟨#[]⟩) (.slice none 0 0)
                have g0 := R9.cell 0 (.string ⟨#[]⟩) rfl
                have g1 := R9.cell 1 (.string ⟨#[]⟩) rfl
                have g2 := R9.cell 2 (.string ⟨#[]⟩) rfl
                have g3 := R9.cell 3 (.string ⟨#[]⟩) rfl
                have g4 := R9.cell 4 (.slice none 0 0) rfl
                refine bodyPost_ret (v := .tuple #[.agg #[.string ⟨#[]⟩, .string ⟨#[]⟩, .string ⟨#[]⟩, .string ⟨#[]⟩, .slice none 0 0], .int .i64 0, .int .i64 4]) ?_ rfl ⟨parse_bad (n := 4) (unhide EP), R9.bel⟩
                rw [results_cell_tmp2 rfl]
                go_simp
                try rfl
            · obtain rfl : i = nt := by omega
              have y1 : ¬ ((i + 1 : Nat) : Int) < ((i + 1 : Nat) : Int) := by omega
              have RX := hide ((unhide R1).far (unhide J).rc.bel hH1 (Nat.le_of_lt hH1))
              obtain ⟨z0, z1, z2, z3, z4, f0, f1, f2, f3, f4⟩ := (unhide RX).five
              obtain ⟨k0, k1, k2, k3, k4, _⟩ := (unhide J).rc.five
              by_cases hone : (hostsOf fs).length = 1
              · have DN2 := hide (unhide DN fs (unhide J).sf hone)
                rw [(unhide J).sf.len] at DN2
                have hnh : (((hostsOf fs).length : Int) == 1) = true := by rw [hone]; rfl
                by_cases h32 : 32 < i
                · have EP := hide (show parseL (txN l) = .bad 6 by rw [unhide DN2, if_pos h32])
                  have h32i : (32 : Int) < (i : Int) := by omega
                  clear hone DN2 DN DB
                  generalize (hostsOf fs).length = nh at *
                  go_wp2
                  have R9 := (unhide RX).set5 (.string ⟨#[]⟩) (.string ⟨#[]⟩) (.string ⟨#[]⟩) (.string ⟨#[]⟩) (.slice none 0 0)
                  have g0 := R9.cell 0 (.string ⟨#[]⟩) rfl
                  have g1 := R9.cell 1 (.string ⟨#[]⟩) rfl
                  have g2 := R9.cell 2 (.string ⟨#[]⟩) rfl
                  have g3 := R9.cell 3 (.string ⟨#[]⟩) rfl
                  have g4 := R9.cell 4 (.slice none 0 0) rfl
                  refine bodyPost_ret (v := .tuple #[.agg #[.string ⟨#[]⟩, .string ⟨#[]⟩, .string ⟨#[]⟩, .string ⟨#[]⟩, .slice none 0 0], .int .i64 0, .int .i64 6]) ?_ rfl ⟨parse_bad (n := 6) (unhide EP), R9.bel⟩
                  rw [results_cell_tmp2 rfl]
                  go_simp
                  try rfl
                · have EP := hide (show parseL (txN l) = .ok ⟨m, p, q, curH x fs, fs⟩ (k + 4) by rw [unhide DN2, if_neg h32])
                  have h32i : ¬ (32 : Int) < (i : Int) := by omega
                  have FA := hide (unhide J).ow.at_
                  have FL := hide (unhide J).ow.low
                  have FZ := hide (show ∀ f ∈ fs, f.name.length ≤ 4096 ∧ f.value.length ≤ 4096 from fun f hf => by
                    have hg := (unhide J).sf.got
                    rw [List.take_of_length_le (by rw [unhide HNT]; exact Nat.le_refl _)] at hg
                    obtain ⟨y, hy, hy2⟩ := fieldsOf_mem t0 fs hg f hf
                    have h1 := unhide LB3 y hy
                    have h2 := fieldL_len hy2
                    omega)
                  have OKV := hide (show ∀ (W : World) (e : Ending), parseL (txN l) = .ok ⟨m, p, q, curH x fs, fs⟩ (k + 4) → (∃ sp cc, e = .returned (.tuple #[.agg #[.string (stS m), .string (stS p), .string (stS q), .string (stS (curH x fs)), .slice sp fs.length cc], .int .i64 ((k + 4 : Nat) : Int), .int .i64 0]) ∧ FdsAt W sp fs ∧ fs.length ≤ 32 ∧ ∀ f ∈ fs, f.name.length ≤ 4096 ∧ f.value.length ≤ 4096) → ParseRes (txN l) e W from fun W e h1 h2 => by unfold ParseRes; rw [h1]; exact h2)
                  have JL := hide (unhide J).sf.len
                  rw [unhide JL] at OKV
                  clear hone DN2 DN DB
                  generalize (hostsOf fs).length = nh at *
                  generalize stS (curH x fs) = sh at *
                  go_wp2
                  have R9 := (unhide RX).set5 (.string (stS m)) (.string (stS p)) (.string (stS q)) (.string sh) (.slice fsp i fc)
                  have g0 := R9.cell 0 (.string (stS m)) rfl
                  have g1 := R9.cell 1 (.string (stS p)) rfl
                  have g2 := R9.cell 2 (.string (stS q)) rfl
                  have g3 := R9.cell 3 (.string sh) rfl
                  have g4 := R9.cell 4 (.slice fsp i fc) rfl
                  refine bodyPost_ret (v := .tuple #[.agg #[.string (stS m), .string (stS p), .string (stS q), .string sh, .slice fsp i fc], .int .i64 ((k : Int) + 4), .int .i64 0]) ?_ rfl ⟨unhide OKV _ _ (unhide EP) ⟨fsp, fc, rfl, ?_, by omega, unhide FZ⟩, R9.bel⟩
                  · rw [results_cell_tmp2 rfl]
                    go_simp
                    try rfl
                  · have hne : ∀ z, fsp = some z → z.block ≠ w.heap.size := fun z hz => by have := unhide FL z hz; omega
                    exact (((((unhide FA).set _ _ _ hne).set _ _ _ hne).set _ _ _ hne).set _ _ _ hne).set _ _ _ hne
              · have EP := hide (unhide DB fs (unhide J).sf hone)
                have hnh : (((hostsOf fs).length : Int) == 1) = false := by rw [beq_eq_false_iff_ne]; omega
                clear hone DN DB
                generalize (hostsOf fs).length = nh at *
                go_wp2
                have R9 := (unhide RX).set5 (.string ⟨#[]⟩) (.string ⟨#[]⟩) (.string ⟨#[]⟩) (.string ⟨#[]⟩) (.slice none 0 0)
                have g0 := R9.cell 0 (.string ⟨#[]⟩) rfl
                have g1 := R9.cell 1 (.string ⟨#[]⟩) rfl
                have g2 := R9.cell 2 (.string ⟨#[]⟩) rfl
                have g3 := R9.cell 3 (.string ⟨#[]⟩) rfl
                have g4 := R9.cell 4 (.slice none 0 0) rfl
                refine bodyPost_ret (v := .tuple #[.agg #[.string ⟨#[]⟩, .string ⟨#[]⟩, .string ⟨#[]⟩, .string ⟨#[]⟩, .slice none 0 0], .int .i64 0, .int .i64 4]) ?_ rfl ⟨parse_bad (n := 4) (unhide EP), R9.bel⟩
                rw [results_cell_tmp2 rfl]
                go_simp
                try rfl
end Go.Proofs.YtcmiappiocfbiaaGreatDoor
