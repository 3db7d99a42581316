/- Proved: an entry that is added takes away what stood from its index on, and Last, Term and Entries tell so, for every terms, place and further terms; no condition beyond the tables that the row lists (tz_of). -/
import Derived.Test.YtijcpmbfhfppmaaGreatDoorB26
import Derived.Test.YtijcpmbfhfppmaaGreatDoorB30
import Derived.Deep.CutBlock
import Derived.Deep.DeepCutAuto
import Derived.Test.YtijcpmbfhfppmaaGreatDoorTie
import Derived.Test.YtijcpmbfhfppmaaGreatDoorCards
import Derived.Lay
import Derived.MakeChecks
import Derived.SevenTiedAt
import Derived.Stop.Joined
namespace Go.Proofs.YtijcpmbfhfppmaaGreatDoor.walOverwrites
open Go.ChangeShapes Go.WideShapes Go.ChangeAt Go.RowKit
set_option linter.unusedVariables false

theorem own : ownKnob Tryz.prog.godebug = none := by kernel_rfl
theorem laidOut : laidOutB Tryz.prog = true := by kernel_rfl

set_option maxRecDepth 20000 in
set_option maxHeartbeats 16000000 in
theorem walk (a0 : Option Addr) (c0 : Nat) (l0 : List Nat) (a1 : Option Addr) (c1 : Nat) (l1 : List Nat) (n2 : Nat) (w : World) (hc0 : l0.length ≤ c0) (hm0 : c0 ≤ 140737488355328) (hb0 : BytesAt w a0 l0) (hz0 : a0 = none → c0 = 0) (hc1 : l1.length ≤ c1) (hm1 : c1 ≤ 140737488355328) (hb1 : BytesAt w a1 l1) (hz1 : a1 = none → c1 = 0) (hn2 : n2 < 256) (hTz : Tz w) :
    Calls Tryz.prog 9 #[.slice a0 l0.length c0, .slice a1 l1.length c1, .int .u8 (n2 : Int)] w fun e w' => e = .returned (.bool true) ∧ Below w.heap.size w w' := by
  have TZ := hide hTz
  have HB0 := hide hb0
  have HB1 := hide hb1
  have NC := hide (anew_calls w 262144)
  rw [show ((262144 : Int).toNat) = 262144 from rfl] at NC
  generalize hq0 : l0.length = m0 at *
  generalize hq1 : l1.length = m1 at *
  have Q0 := hide hq0
  have Q1 := hide hq1
  clear hTz hb0 hb1 hz0 hz1 hq0 hq1
  go_enter Tryz.func9, Tryz.ntmps9
  go_wp2_with fail
  go_at_call 24
  refine (unhide NC).mono ?_
  rintro e V1 ⟨d, M, rfl, h1, v1⟩
  have TT := hide (show ∃ w0 : World, w0.heap.size = w.heap.size ∧ Tz w0 ∧ Below w.heap.size w0 V1 from ⟨w, rfl, unhide TZ, v1⟩)
  have OC := hide (open_calls h1 (unhide TT) (by omega))
  rw [(LS.begin (show 22 ≤ 262144 by omega)).1] at OC
  have A1 := hide v1
  clear h1 v1 NC
  go_wp2_with fail
  go_at_call 25
  refine (unhide OC).mono ?_
  rintro e V2 ⟨a2, L, ep, ec, hs, rfl, z2, _⟩
  have I2 := hide (show Ov w.heap.size w V2 L d M none 0 ([] : List Nat) 0 from ⟨_, _, _, _, _, _, _, _, z2, (LS.begin (by omega)).2, by
    have hb : (allB wc0).length = 22 := by decide +kernel
    rw [List.append_nil, cat_allR, hb]; omega, by omega, OwnI.ofNil _ _, (fun g hg => by cases (show (none : Option Nat) = some g from hg)), (unhide A1).trans a2.bel⟩)
  clear a2 z2 OC TT A1
  go_upto_block 0 with fail
  go_cut [10, 11] (fun v q wc => ∃ (j : Nat) (sp : Option Addr) (k : Nat), j ≤ m0 ∧ j ≤ 40 ∧ q = .int .i64 (j : Int) ∧ v = .slice sp j k ∧ Hid (Ov w.heap.size w wc L d M sp k ((l0.take j).map (· + 1)) j))
  case first =>
    go_wp2_with fail
    go_loopw [10, 11] (fun v q wr => ∃ (j : Nat) (sp : Option Addr) (k : Nat), j ≤ m0 ∧ j ≤ 40 ∧ q = .int .i64 (j : Int) ∧ v = .slice sp j k ∧ Hid (Ov w.heap.size w wr L d M sp k ((l0.take j).map (· + 1)) j)) (fun _ q _ => 40 - (intOf q).toNat)
    case atStart => exact ⟨0, none, 0, by omega, by omega, rfl, rfl, I2⟩
    case round =>
      obtain ⟨j, sp, k, hj, hj4, rfl, rfl, I3⟩ := hrel
      by_cases hj1 : j < m0
      · have y1 : (j : Int) < (m0 : Int) := by omega
        by_cases hj2 : j < 40
        · have y0 : (0 : Int) ≤ (j : Int) := by omega
          have y2 : (j : Int) < 40 := by omega
          have hjl : j < l0.length := by rw [unhide Q0]; exact hj1
          have BW := hide (show Below w.heap.size w wr by
            obtain ⟨_, _, _, _, _, _, _, _, _, _, _, _, _, _, hb⟩ := unhide I3
            exact hb)
          obtain ⟨b', off, rfl, p0⟩ := ((unhide HB0).later (unhide BW)).cell j hjl
          have hx := (unhide HB0).lt (l0.getD j 0) (by rw [List.getD_eq_getElem?_getD, List.getElem?_eq_getElem hjl]; exact List.getElem_mem _)
          have AS := hide (adds_is l0 j hjl)
          have TL := hide (show ((l0.take j).map (· + 1)).length = j by rw [List.length_map, List.length_take]; omega)
          have TU := hide (show ∀ u ∈ (l0.take j).map (· + 1), 1 ≤ u ∧ u ≤ 256 from fun u hu => by
            obtain ⟨y, hy, rfl⟩ := List.mem_map.1 hu
            have := (unhide HB0).lt y (List.mem_of_mem_take hy)
            omega)
          generalize hxj : l0.getD j 0 = x at *
          have HX := hide hxj
          generalize hts : (l0.take j).map (· + 1) = ts at *
          have HTS := hide hts
          clear hxj hts
          have U1 := hide ((Below.refl wr.heap.size wr).alloc (Nat.le_refl _) (.cells #[.int .i64 ((x : Int) + 1)] 3))
          have X1 := hide (heap_new wr (.cells #[.int .i64 ((x : Int) + 1)] 3))
          have OI := hide (show OwnI w.heap.size wr sp k (ts.map Int.ofNat) by
            obtain ⟨_, _, _, _, _, _, _, _, _, _, _, _, o, _, _⟩ := unhide I3
            exact o)
          go_wp2_with (at_builtin; refine unhide ?_)
          generalize wr.alloc _ = W1 at *
          refine hide ?_
          refine wpList_appendI rfl (.tmp 39) (.tmp 46) rfl w.heap.size sp j k (ts.map Int.ofNat) rfl (by rw [List.length_map]; exact unhide TL) ((unhide OI).later (unhide U1)) (some ⟨wr.heap.size, 0, none⟩) 1 1 rfl [(x : Int) + 1] rfl (ints_one (unhide X1) (by omega)) (fun h => by cases h) (by rw [List.length_map, unhide TL]; omega) (Nat.le_trans (unhide BW).size (unhide U1).size) ?_
          intro sp2 n5 k2 W2 hn5 ho2 hg2
          have hm2 : ts.map Int.ofNat ++ [(x : Int) + 1] = (ts ++ [x + 1]).map Int.ofNat := by simp
          rw [hm2] at ho2
          have hn6 : n5 = j + 1 := by
            have h := unhide hn5
            rw [List.length_append, List.length_map, unhide TL] at h
            exact h.symm
          subst hn6
          obtain ⟨Av, N, ss, r1, r2, ep3, ec3, hs3, z3, ls3, sz3, N3, o3, ha3, bb3⟩ := Ov.want (unhide I3) (unhide U1) hg2 ho2
          obtain ⟨b2, off2, e2, p2⟩ := ((unhide HB0).later bb3).cell j hjl
          cases e2
          rw [unhide HX] at p2
          have U3 := hide ((Below.refl W2.heap.size W2).alloc (Nat.le_refl _) (.cells #[.int .i64 1, .int .i64 ((x : Int) + 1), .int .i64 ((j : Int) + 1), .slice none 0 0] 60))
          have X3 := hide (heap_new W2 (.cells #[.int .i64 1, .int .i64 ((x : Int) + 1), .int .i64 ((j : Int) + 1), .slice none 0 0] 60))
          have z4 := z3.more (unhide U3)
          have S3 := hide (show W2.heap.size < (W2.alloc (.cells #[.int .i64 1, .int .i64 ((x : Int) + 1), .int .i64 ((j : Int) + 1), .slice none 0 0] 60)).heap.size from (Array.getElem?_eq_some_iff.1 (unhide X3)).1)
          have hlen : (cW ts).es.length = j := by rw [show (cW ts).es = nops 0 ts from rfl, nops_len]; exact unhide TL
          have AC := hide (append_calls z4 (by omega) (some ⟨W2.heap.size, 0, none⟩) 1 1 [(1, (x : Int) + 1, (j : Int) + 1, [])] rfl (one_inG (unhide X3) (.inr (.inr ⟨Nat.le_refl _, unhide S3⟩))) (by rw [hlen]; omega))
          obtain ⟨ss4, e4, r2', ls4, sz4⟩ := ow_step ls3 (k := j) (us := [x + 1]) (by rw [unhide TL]; exact Nat.le_refl _) (by simp) (fun u hu => by rw [List.mem_singleton.1 hu]; omega) (by simp only [List.length_singleton]; omega) (by simp only [List.length_singleton]; omega)
          rw [show (nops j [x + 1]).map toI = [(1, (x : Int) + 1, (j : Int) + 1, [])] by simp [nops, toI], List.take_of_length_le (by rw [unhide TL]; exact Nat.le_refl _)] at e4
          rw [List.take_of_length_le (by rw [unhide TL]; exact Nat.le_refl _)] at ls4
          rw [e4] at AC
          have I4 := hide (show ∀ V, (∃ ep ec hs, WAt (fun g => Av g ∨ (W2.heap.size ≤ g ∧ g < (W2.alloc (.cells #[.int .i64 1, .int .i64 ((x : Int) + 1), .int .i64 ((j : Int) + 1), .slice none 0 0] 60)).heap.size)) w.heap.size V L d M 262144 (N + 2) ss4 (cW (ts ++ [x + 1])) 1 ep ec hs) → Asd (fun g => Av g ∨ (W2.heap.size ≤ g ∧ g < (W2.alloc (.cells #[.int .i64 1, .int .i64 ((x : Int) + 1), .int .i64 ((j : Int) + 1), .slice none 0 0] 60)).heap.size)) w.heap.size (W2.alloc (.cells #[.int .i64 1, .int .i64 ((x : Int) + 1), .int .i64 ((j : Int) + 1), .slice none 0 0] 60)) V → Ov w.heap.size w V L d M sp2 k2 (ts ++ [x + 1]) (j + 1) from fun V hz ha => by
            obtain ⟨ep5, ec5, hs5, z5⟩ := hz
            exact ⟨_, _, _, _, _, _, _, _, z5, ls4, by simp only [List.length_singleton] at sz4; omega, by omega, (o3.later (unhide U3)).asd ha (fun g hg => .inl (ha3 g hg)), fun g hg => .inl (ha3 g hg), (bb3.trans ((unhide U3).mono bb3.size)).trans ha.bel⟩)
          clear z3 ls3 sz3 o3 ha3 z4 hlen e4 ls4 sz4 hn5 ho2 hg2 hm2 I3 OI
          go_wp2_with fail
          generalize W2.alloc _ = W3 at *
          go_at_call 27
          refine (unhide AC).mono ?_
          rintro e V4 ⟨rfl, z5, a5⟩
          have I5 := hide (unhide I4 V4 z5 a5)
          clear z5 a5 AC I4
          rw [show ((0 : Nat) : Int) = 0 from rfl]
          go_wp2
          exact ⟨⟨j + 1, sp2, k2, by omega, by omega, by go_num, rfl, by rw [unhide AS]; exact I5⟩, by simp [intOf]; omega⟩
        · have y2 : ¬ (j : Int) < 40 := by omega
          go_wp2_with fail
          go_meet
          case rel => exact ⟨j, sp, k, hj, hj4, rfl, rfl, I3⟩
      · have y1 : ¬ (j : Int) < (m0 : Int) := by omega
        go_wp2_with fail
        go_meet
        case rel => exact ⟨j, sp, k, hj, hj4, rfl, rfl, I3⟩
  case rest =>
    obtain ⟨j, sp, k, hj, hj4, rfl, rfl, I3⟩ := hcut
    have hrem : (n2 : Int).tmod ((j : Int) + 1) = ((n2 % (j + 1) : Nat) : Int) := by
      rw [Int.tmod_eq_emod_of_nonneg (by omega)]
      norm_cast
    have hkk : n2 % (j + 1) ≤ j := Nat.le_of_lt_succ (Nat.mod_lt _ (by omega))
    have hnz : ¬ ((j : Int) + 1 = 0) := by omega
    generalize n2 % (j + 1) = kk at *
    have TL := hide (show ((l0.take j).map (· + 1)).length = j by rw [List.length_map, List.length_take, unhide Q0]; omega)
    generalize (l0.take j).map (· + 1) = ts at *
    go_upto_block 2 with fail
    go_cut [13, 14] (fun v q wc => ∃ (i : Nat) (lp : Option Addr) (lk : Nat), i ≤ m1 ∧ i ≤ 40 ∧ q = .int .i64 (i : Int) ∧ v = .slice lp i lk ∧ Hid (Ow w.heap.size w wc L d M sp k ts ts j lp lk kk ((l1.take i).map (· + 1))))
    case first =>
      go_wp2_with fail
      go_loopw [13, 14] (fun v q wr => ∃ (i : Nat) (lp : Option Addr) (lk : Nat), i ≤ m1 ∧ i ≤ 40 ∧ q = .int .i64 (i : Int) ∧ v = .slice lp i lk ∧ Hid (Ow w.heap.size w wr L d M sp k ts ts j lp lk kk ((l1.take i).map (· + 1)))) (fun _ q _ => 40 - (intOf q).toNat)
      case atStart => exact ⟨0, none, 0, by omega, by omega, rfl, rfl, hide (Ow.start (unhide I3))⟩
      case round =>
        obtain ⟨i, lp, lk, hi, hi4, rfl, rfl, I4⟩ := hrel
        by_cases hi1 : i < m1
        · have y1 : (i : Int) < (m1 : Int) := by omega
          by_cases hi2 : i < 40
          · have y0 : (0 : Int) ≤ (i : Int) := by omega
            have y2 : (i : Int) < 40 := by omega
            have hil : i < l1.length := by rw [unhide Q1]; exact hi1
            have BW := hide (unhide I4).bel
            obtain ⟨b', off, rfl, p0⟩ := ((unhide HB1).later (unhide BW)).cell i hil
            have hx := (unhide HB1).lt (l1.getD i 0) (by rw [List.getD_eq_getElem?_getD, List.getElem?_eq_getElem hil]; exact List.getElem_mem _)
            have AS := hide (adds_is l1 i hil)
            have UL := hide (show ((l1.take i).map (· + 1)).length = i by rw [List.length_map, List.length_take]; omega)
            generalize l1.getD i 0 = x at *
            generalize (l1.take i).map (· + 1) = us at *
            have U1 := hide ((Below.refl wr.heap.size wr).alloc (Nat.le_refl _) (.cells #[.int .i64 1, .int .i64 ((x : Int) + 1), .int .i64 ((kk : Int) + (i : Int) + 1), .slice none 0 0] 60))
            have X1 := hide (heap_new wr (.cells #[.int .i64 1, .int .i64 ((x : Int) + 1), .int .i64 ((kk : Int) + (i : Int) + 1), .slice none 0 0] 60))
            go_wp2_with (at_builtin; refine unhide ?_)
            generalize wr.alloc _ = W1 at *
            refine hide ?_
            obtain ⟨hs4, o4, f4⟩ := (unhide I4).ents
            refine wpList_appendL2 rfl (.tmp 77) (.tmp 89) rfl w.heap.size lp i lk (nops kk us) hs4 rfl (by rw [nops_len]; exact unhide UL) (o4.later (unhide U1)) wr.heap.size (1, x + 1, kk + i + 1, []) (none, 0) rfl (by exact unhide X1) (Bx.ofNil _ _) (by rw [nops_len, unhide UL]; omega) (Nat.le_trans (unhide BW).size (unhide U1).size) ?_
            intro lp2 lk2 W2 ho2 hg2 hl2
            have I5 := hide ((unhide I4).more (unhide U1) (unhide UL) f4 ho2 hg2 hl2)
            clear ho2 hg2 hl2 o4 f4
            go_wp2
            exact ⟨⟨i + 1, lp2, lk2, by omega, by omega, by go_num, rfl, by rw [unhide AS]; exact I5⟩, by simp [intOf]; omega⟩
          · have y2 : ¬ (i : Int) < 40 := by omega
            go_wp2_with fail
            go_meet
            case rel => exact ⟨i, lp, lk, hi, hi4, rfl, rfl, I4⟩
        · have y1 : ¬ (i : Int) < (m1 : Int) := by omega
          go_wp2_with fail
          go_meet
          case rel => exact ⟨i, lp, lk, hi, hi4, rfl, rfl, I4⟩
    case rest =>
      obtain ⟨i, lp, lk, hi, hi4, rfl, rfl, I4⟩ := hcut
      have UL := hide (show ((l1.take i).map (· + 1)).length = i by rw [List.length_map, List.length_take, unhide Q1]; omega)
      have UU := hide (show ∀ u ∈ (l1.take i).map (· + 1), 1 ≤ u ∧ u ≤ 256 from fun u hu => by
        obtain ⟨y, hy, rfl⟩ := List.mem_map.1 hu
        have := (unhide HB1).lt y (List.mem_of_mem_take hy)
        omega)
      generalize (l1.take i).map (· + 1) = us at *
      go_upto_if 93 with fail
      go_cut [10, 15] (fun v q wc => ∃ (m : Nat) (sp : Option Addr) (k : Nat), Hid ((owL kk ts us).length = m) ∧ v = .slice sp m k ∧ Hid (Ow w.heap.size w wc L d M sp k (owL kk ts us) ts j lp lk kk us))
      case first =>
        by_cases hi0 : i = 0
        · subst hi0
          have OE := hide (show owL kk ts us = ts by unfold owL; rw [if_pos (List.eq_nil_of_length_eq_zero (unhide UL))])
          go_wp2_with fail
          go_meet
          case rel => exact ⟨j, sp, k, by rw [unhide OE]; exact TL, rfl, by rw [unhide OE]; exact I4⟩
        · have y0 : (0 : Int) < (i : Int) := by omega
          have OE := hide (show owL kk ts us = ts.take kk ++ us by unfold owL; rw [if_neg (fun e => hi0 (by rw [← unhide UL, e]; rfl))])
          have hkc : kk ≤ k := Nat.le_trans hkk (by have := (unhide I4).ints.cap.1; rw [List.length_map, unhide TL] at this; exact this)
          have RS := run_slice_hI sp j k kk (unhide I4).ints.root hkc wc
          have I5 := hide ((unhide I4).cut kk (by rw [unhide TL]; exact hkk))
          have KL := hide (show (ts.take kk).length = kk by rw [List.length_take, unhide TL]; omega)
          clear hi0
          rw [show decide (0 < i) = true from decide_eq_true (by omega)]
          go_wp2_with fail
          go_loopw [10, 15] (fun v q wr => ∃ (y : Nat) (sp : Option Addr) (k m : Nat), y ≤ i ∧ q = .int .i64 (y : Int) ∧ v = .slice sp m k ∧ Hid ((ts.take kk ++ us.take y).length = m) ∧ Hid (Ow w.heap.size w wr L d M sp k (ts.take kk ++ us.take y) ts j lp lk kk us)) (fun _ q _ => i - (intOf q).toNat)
          case atStart => exact ⟨0, sp, k, kk, by omega, rfl, rfl, by rw [List.take_zero, List.append_nil]; exact KL, by rw [List.take_zero, List.append_nil]; exact I5⟩
          case round =>
            clear RS I5
            obtain ⟨y, sp, k, m, hy, rfl, rfl, HM, I6⟩ := hrel
            by_cases hyi : y < i
            · have z0 : (0 : Int) ≤ (y : Int) := by omega
              have z1 : (y : Int) < (i : Int) := by omega
              have hyl : y < us.length := by rw [unhide UL]; exact hyi
              obtain ⟨hs4, o4, f4⟩ := (unhide I6).ents
              obtain ⟨b, off, dp, dc, rfl, _, p1, _, _, _, _⟩ := o4.ents.cell y (by rw [List.length_map, nops_len]; exact hyl)
              rw [List.getElem_map, nops_at] at p1
              simp only [toI] at p1
              have hx := unhide UU us[y] (List.getElem_mem _)
              have TK := hide (show us.take (y + 1) = us.take y ++ [us[y]] from List.take_succ_eq_append_getElem hyl)
              generalize us[y] = x at *
              have ML := hide (show m ≤ 80 by
                have h := unhide HM
                rw [List.length_append, unhide KL, List.length_take] at h
                omega)
              have U1 := hide ((Below.refl wr.heap.size wr).alloc (Nat.le_refl _) (.cells #[.int .i64 (x : Int)] 3))
              have X1 := hide (heap_new wr (.cells #[.int .i64 (x : Int)] 3))
              have BS := hide (show w.heap.size ≤ wr.heap.size from (unhide I6).bel.size)
              clear o4 f4
              go_wp2_with (at_builtin; refine unhide ?_)
              generalize wr.alloc _ = W1 at *
              refine hide ?_
              refine wpList_appendI rfl (.tmp 103) (.tmp 109) rfl w.heap.size sp m k ((ts.take kk ++ us.take y).map Int.ofNat) rfl (by rw [List.length_map]; exact unhide HM) ((unhide I6).ints.later (unhide U1)) (some ⟨wr.heap.size, 0, none⟩) 1 1 rfl [(x : Int)] rfl (ints_one (unhide X1) (by omega)) (fun h => by cases h) (by rw [List.length_map, unhide HM]; have := unhide ML; omega) (Nat.le_trans (unhide BS) (unhide U1).size) ?_
              intro sp2 n5 k2 W2 hn5 ho2 hg2
              have hm2 : (ts.take kk ++ us.take y).map Int.ofNat ++ [(x : Int)] = (ts.take kk ++ us.take (y + 1)).map Int.ofNat := by rw [unhide TK]; simp
              rw [hm2] at ho2 hn5
              rw [List.length_map] at hn5
              have I7 := hide ((unhide I6).want (unhide U1) hg2 ho2)
              clear ho2 hg2 hm2
              go_wp2
              exact ⟨⟨y + 1, sp2, k2, n5, by omega, by go_num, rfl, hn5, I7⟩, by simp [intOf]; omega⟩
            · have z1 : ¬ (y : Int) < (i : Int) := by omega
              obtain rfl : y = i := by omega
              have US := hide (show us.take y = us by rw [← unhide UL, List.take_length])
              rw [unhide US, ← unhide OE] at HM I6
              go_wp2_with fail
              go_meet
              case rel => exact ⟨m, sp, k, HM, rfl, I6⟩
      case rest =>
        obtain ⟨m, sp3, k3, HM, rfl, I6⟩ := hcut
        obtain ⟨⟨Av, N, ss, r1, r2, ep7, ec7, hs7, z7, ls7, q1, q2, o7, ha7, hs8, o8, hn8, hf8⟩, hb7⟩ := unhide I6
        obtain ⟨ss8, e8⟩ := ow_any ls7 (k := kk) (us := us) (by rw [unhide TL]; exact hkk) (unhide UU) (by rw [unhide UL]; omega) (by rw [unhide UL]; omega)
        have ML := hide (show m ≤ 80 by
          have h := unhide HM
          unfold owL at h
          split at h
          · rw [unhide TL] at h; omega
          · rw [List.length_append, List.length_take, unhide TL, unhide UL] at h; omega)
        have hm80 : m ≤ 80 := unhide ML
        have AC := hide (append_calls z7 (by omega) lp i lk ((nops kk us).map toI) (by rw [List.length_map, nops_len]; exact unhide UL) (o8.in_ (fun g hg => .inr (hf8 g hg))) (by rw [show (cW ts).es.length = j from (nops_len 0 ts).trans (unhide TL)]; omega))
        rw [e8] at AC
        have BB := hide hb7
        have O7 := hide o7
        have HA := hide ha7
        clear e8 z7 ls7 q1 q2 o7 ha7 o8 hn8 hf8 hb7 I6 I4 I3 I2
        go_wp2_with fail
        go_at_call 27
        refine (unhide AC).mono ?_
        rintro e V4 ⟨rfl, ⟨ep8, ec8, hs9, z8⟩, a8⟩
        have O8 := hide ((unhide O7).asd a8 (unhide HA))
        have B8 := hide ((unhide BB).trans a8.bel)
        have Z8 := hide z8
        have LC := hide (wlast_calls z8)
        rw [show (((cW (owL kk ts us)).bi + (cW (owL kk ts us)).es.length : Nat) : Int) = (m : Int) by rw [show (cW (owL kk ts us)).bi = 0 from rfl, show (cW (owL kk ts us)).es.length = m from (nops_len 0 _).trans (unhide HM)]; omega] at LC
        clear z8 a8 AC
        rw [show ((0 : Nat) : Int) = 0 from rfl]
        go_wp2_with fail
        go_at_call 39
        refine (unhide LC).mono ?_
        rintro e V5 ⟨rfl, v5⟩
        have Z9 := hide ((unhide Z8).later v5)
        have O9 := hide ((unhide O8).later v5)
        have B9 := hide ((unhide B8).trans (v5.mono (unhide Z8).dk.le))
        clear v5 LC Z8 O8 B8 O7 BB
        generalize owL kk ts us = vs at *
        go_wp2_with fail
        go_loopw [16, 17, 18] (fun q _ _ wr => ∃ (y : Nat), y ≤ m ∧ q = .int .i64 (y : Int) ∧ Hid (Below V5.heap.size V5 wr)) (fun q _ _ _ => m - (intOf q).toNat)
        case atStart => exact ⟨0, by omega, rfl, hide (Below.refl _ _)⟩
        case round =>
          obtain ⟨y, hy, rfl, F⟩ := hrel
          by_cases hym : y < m
          · have z0 : (0 : Int) ≤ (y : Int) := by omega
            have z1 : (y : Int) < (m : Int) := by omega
            have hyl : y < vs.length := by rw [unhide HM]; exact hym
            have TC := hide (wterm_calls ((unhide Z9).later (unhide F)) ((y : Int) + 1) (by have := unhide ML; omega))
            rw [term_cW vs y hyl] at TC
            have II := hide (unhide O9).ints
            have hgd : (vs.map Int.ofNat)[y]'(by rw [List.length_map]; exact hyl) = ((vs.getD y 0 : Nat) : Int) := by
              rw [List.getElem_map, List.getD_eq_getElem?_getD, List.getElem?_eq_getElem hyl]
              rfl
            have GD := hide hgd
            generalize vs.getD y 0 = x at *
            clear hgd
            go_wp2_with fail
            go_at_call 19
            refine (unhide TC).mono ?_
            rintro e V6 ⟨rfl, v6⟩
            have F6 := hide ((unhide F).trans (v6.mono (unhide F).size))
            obtain ⟨b, off, rfl, p0⟩ := ((unhide II).later (unhide F6)).cell y (by rw [List.length_map]; exact hyl)
            rw [unhide GD] at p0
            clear v6 TC
            go_wp2
            exact ⟨⟨y + 1, by omega, by go_num, F6⟩, by simp [intOf]; omega⟩
          · have z1 : ¬ (y : Int) < (m : Int) := by omega
            obtain rfl : y = m := by omega
            have Z10 := hide ((unhide Z9).later (unhide F))
            have B10 := hide ((unhide B9).trans ((unhide F).mono (unhide B9).size))
            have TC := hide (wterm_calls (unhide Z10) ((y : Int) + 1) (by have := unhide ML; omega))
            rw [show ((y : Int) + 1) = ((vs.length : Int) + 1) by rw [unhide HM], term_cW_no vs, unhide HM] at TC
            have TW := hide (show ∀ W, Below wr.heap.size wr W → Tz W from fun W u => ((unhide Z10).later u).tzw)
            have EC := hide (fun W (u : Below wr.heap.size wr W) => entries_calls ((unhide Z10).later u) 1 (y : Int))
            rw [fromTo_all (cW_ix vs) (by simp only [cW]; omega) (by rw [show (cW vs).es.length = y from (nops_len 0 vs).trans (unhide HM)]; simp only [cW]; omega)] at EC
            have CL := hide (show (cW vs).es.length = y from (nops_len 0 vs).trans (unhide HM))
            generalize (cW vs).es = ce at *
            go_wp2_with fail
            go_at_call 19
            refine (unhide TC).mono ?_
            rintro e V6 ⟨rfl, v6⟩
            have F6 := hide v6
            clear v6 TC
            go_wp2_with fail
            go_at_call 18
            refine (live6_calls _ (unhide TW _ (unhide F6))).mono ?_
            rintro e V7 ⟨rfl, v7⟩
            have F7 := hide ((unhide F6).trans (v7.mono (unhide F6).size))
            clear v7
            go_wp2_with fail
            go_at_call 22
            refine (unhide EC _ (unhide F7)).mono ?_
            rintro e V8 ⟨sp8, m8, k8, hs8, rfl, hm8, o8, v8⟩
            have F8 := hide ((unhide F7).trans (v8.mono (unhide F7).size))
            have hm9 : m8 = y := by rw [← hm8]; exact unhide CL
            subst hm9
            have FE := hide ((unhide B10).trans ((unhide F8).mono (unhide B10).size))
            clear hm8 o8 v8 EC
            go_wp2
            go_ret
            exact ⟨rfl, unhide FE⟩

set_option maxRecDepth 100000 in
theorem lifted (os : Os) (started : os.Started) (H : Type) (enc : TypeId × Value → H) :
    ReturnsInHanded {} Tryz.checked os 9 .any (fun w args => (Rows.walOverwritesSpec.pre enc Tryz.prog Tryz.f9 Rows.walOverwritesRow.domain false w args ∧ laidMetH Tryz.prog Rows.walOverwritesRow.laid w) ∧ sizedMet enc Tryz.prog Tryz.f9 (OpenSpec.ofChange Rows.walOverwritesSpec) false w args)
      (Rows.walOverwritesSpec.post enc Tryz.prog Tryz.f9 false true false false) := by
  refine returnsInHanded_of_change_and (C := Tryz.checked) (X := fun w _ => laidMetH Tryz.prog Rows.walOverwritesRow.laid w) (fun _ _ _ hh h => h.of_heap hh) own started (by kernel_rfl) Tryz.func9
    (ChangeSpec.witness_shaped (enc := enc) (C := Tryz.checked) (os := os) (X := fun w _ => laidMetH Tryz.prog Rows.walOverwritesRow.laid w) false (World.laidAll Tryz.prog os Rows.walOverwritesRow.laid) #[.slice none 0 0, .slice none 0 0, .int .u8 0] 8 (World.laidAll_os _ _ _)
      (World.shaped_of_ZipB (by kernel_rfl) (by kernel_rfl)) (by kernel_rfl) (by kernel_rfl) (by kernel_rfl)
      (by rw [MakeChecks.laidMetH_plain _ _ _ (by kernel_rfl)]; exact laidMet_laidAll _ (by kernel_rfl) (by kernel_rfl))) ?_
  intro W base args ds gs before hval0 hW hcnd hsz hL _
  have hTz : Tz W := tz_of (by rw [MakeChecks.laidMetH_plain _ _ _ (by kernel_rfl)] at hL; exact hL)
  have hval : ∀ (j : Nat) t v, Tryz.f9.params[j]? = some t → args[j]? = some v → Value.okWide Tryz.prog W .any base t v := hval0
  have hW' := hW
  obtain ⟨p, q, hA0, hV, rfl, hfz, hnd⟩ := hW
  have hA : DataW.TrodAll enc Tryz.prog W 0 (fun _ => true) true Tryz.f9.params.toList args.toList ds p := hA0
  rw [Tryz.params9] at hA hval
  obtain ⟨v0, vs0, d0, ds0, p0, q0, hargs, rfl, rfl, h0, r0⟩ := trodAll_cons hA
  obtain ⟨v1, vs1, d1, ds1, p1, q1, rfl, rfl, rfl, h1, r1⟩ := trodAll_cons r0
  obtain ⟨v2, vs2, d2, ds2, p2, q2, rfl, rfl, rfl, h2, r2⟩ := trodAll_cons r1
  obtain ⟨rfl, rfl, rfl⟩ := trodAll_nil r2
  obtain rfl : args = #[v0, v1, v2] := by cases args; simp_all
  obtain ⟨rfl, rfl⟩ := trodVars_none hV
  obtain ⟨a0, len0, c0, rfl⟩ := okWide_slice Tryz.underlying58 (hval 0 58 v0 rfl rfl)
  have k0 := h0
  have lt0 : ∀ x ∈ p0, x.block < W.heap.size := by obtain ⟨m, hm⟩ := k0; exact DataW.trod_lt m _ _ _ hm
  obtain ⟨l0, rfl, hc0, hx0, hb0, hz0, hr0⟩ := row8 h0
  obtain ⟨a1, len1, c1, rfl⟩ := okWide_slice Tryz.underlying58 (hval 1 58 v1 rfl rfl)
  have k1 := h1
  have lt1 : ∀ x ∈ p1, x.block < W.heap.size := by obtain ⟨m, hm⟩ := k1; exact DataW.trod_lt m _ _ _ hm
  obtain ⟨l1, rfl, hc1, hx1, hb1, hz1, hr1⟩ := row8 h1
  obtain ⟨n2, rfl, rfl, rfl, w2⟩ := open_int Tryz.underlying5 (hval 2 5 v2 rfl rfl) h2
  obtain ⟨n2, rfl, hn2⟩ := u8_nat w2
  clear hA0 hval0
  have hm0 : c0 ≤ 140737488355328 := reach8 hsz (j := 0) (d := d0) rfl rfl hr0
  have hm1 : c1 ≤ 140737488355328 := reach8 hsz (j := 1) (d := d1) rfl rfl hr1
  refine (walk a0 c0 l0 a1 c1 l1 n2 W hc0 hm0 hb0 hz0 hc1 hm1 hb1 hz1 hn2 hTz).mono fun e W' ⟨he, bel⟩ => ?_
  subst he
  exact ⟨_, rfl, _, _, _, [], _, [], hW', trodAll_mk1 (shut_bool Tryz.underlying4 _), (trodAll_cons_mk (Below.trod laidOut (by kernel_rfl) (of_decide_eq_true (by kernel_rfl)) k0 bel lt0) (trodAll_cons_mk (Below.trod laidOut (by kernel_rfl) (of_decide_eq_true (by kernel_rfl)) k1 bel lt1) (trodAll_cons_mk (shut_int Tryz.underlying5 w2) trodAll_mk0))), rfl, bel.frame _, fun h => by cases h⟩

theorem proved : Rows.WalOverwritesSaid :=
  OpenClaim.holds_of_wide 9 Tryz.f9 rfl rfl rfl rfl rfl rfl rfl ⟨rfl, rfl, rfl, rfl, rfl⟩ rfl rfl rfl rfl rfl (by kernel_rfl) Tryz.func9 (by kernel_rfl)
    (of_decide_eq_true (by kernel_rfl)) (by unfold Func.isWrapper; first | (rw [if_pos (by decide +kernel)]; kernel_rfl) | (rw [if_neg (by decide +kernel)]; exact ⟨rfl, rfl⟩))
    (fun os started H enc _ => lifted os started H enc)
theorem card : Rows.WalOverwritesCardSaid :=
  Claim7.holds_tied_plain_at .later [] [.data, .data, .data, .sentinel, .sentinel] true (true, "88ca12b5e2985bf86c8c037a77f67510c0f31dea6bd67df2758923acb4652b36") true proved (fun _ h => by cases h) (by kernel_rfl) (fun _ h => by cases h) walOverwrites_row_tie rfl ⟨rfl, rfl⟩ (by kernel_rfl) rfl
    (fun f fn hf hfn => by
      obtain rfl : f = 9 := Option.some.inj ((show Tryz.prog.funcNamed "tollgate/tollgatelaw06.WalOverwrites" = some 9 by kernel_rfl).symm.trans hf) |>.symm
      obtain rfl : fn = Tryz.f9 := (Option.some.inj (Tryz.func9.symm.trans hfn)).symm
      exact ⟨by kernel_rfl, fun j t ht => by
        rw [Tryz.params9] at ht
        have hm : t ∈ [58, 58, 5] := by simpa using Array.mem_of_getElem? ht
        have hall : ([58, 58, 5].all fun u => !Tryz.prog.wantsStandIn u) = true := by kernel_rfl
        exact (show Tryz.prog.wantsStandIn t = false by simpa using List.all_eq_true.1 hall t hm)⟩)
    (by kernel_rfl)
end Go.Proofs.YtijcpmbfhfppmaaGreatDoor.walOverwrites
namespace Go.Proofs.YtijcpmbfhfppmaaGreatDoor
theorem walOverwrites_holds : Rows.WalOverwritesCardSaid := walOverwrites.card
#print axioms walOverwrites_holds
end Go.Proofs.YtijcpmbfhfppmaaGreatDoor
