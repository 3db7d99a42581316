/- Snapshots: the document's Load (written by wip/mksrl.py). -/
import Derived.Test.YtagncghpfdjkmaaGreatDoorB37
import Derived.Test.YtagncghpfdjkmaaGreatDoorB09
import Derived.Deep.QuietTactic
import Derived.BigQuiet
section
namespace Go.Proofs.YtagncghpfdjkmaaGreatDoor
open Go.ChangeShapes Go.WideShapes Go.ChangeAt Go.RowKit
set_option linter.unusedVariables false

theorem goodS_none {x : Nm} {ss : Ds} {q : Nat} (hq : numS x = q) (h : q = 0 ∨ snX (snL (nowL x ss)) ≠ 0 ∨ (snOf (snL (nowL x ss))).i ≠ (q : Int)) : goodS x ss = none := by
  unfold goodS
  rw [hq]
  by_cases h0 : 0 < q
  · rw [if_pos h0]
    cases hl : snL (nowL x ss) with
    | error e => rfl
    | ok t =>
      rw [hl] at h
      dsimp only [snX, snOf] at h ⊢
      rcases h with h | h | h
      · omega
      · exact absurd rfl h
      · rw [if_neg h]
  · rw [if_neg h0]
theorem goodS_some {x : Nm} {ss : Ds} {q : Nat} (hq : numS x = q) (h0 : 0 < q) (h1 : snX (snL (nowL x ss)) = 0) (h2 : (snOf (snL (nowL x ss))).i = (q : Int)) : goodS x ss = some (snOf (snL (nowL x ss))) := by
  unfold goodS
  rw [hq, if_pos h0]
  cases hl : snL (nowL x ss) with
  | error e =>
    rw [hl] at h1
    exact absurd h1 (snL_pos hl)
  | ok t =>
    rw [hl] at h2
    dsimp only [snOf] at h2 ⊢
    rw [if_pos h2]
set_option maxRecDepth 20000 in
set_option maxHeartbeats 16000000 in
theorem rload_calls {Fv : Nat → Prop} {w0 w : World} {R room : Nat} {ss : Ds} (h : RSo Fv w0 w R room ss) (hnm : NmOk ss) :
    Calls Tryz.prog 31 #[.pointer (some ⟨R, 0, none⟩)] w (LoadEnd (sLoad ss) w) := by
  have A1 : Below w.heap.size w (w.alloc (.cells #[.int .i64 0, .int .i64 0, .slice none 0 0, .slice none 0 0, .slice none 0 0] 29)) := (Below.refl _ _).alloc (Nat.le_refl _) _
  have A2 : Below (w.alloc (.cells #[.int .i64 0, .int .i64 0, .slice none 0 0, .slice none 0 0, .slice none 0 0] 29)).heap.size (w.alloc (.cells #[.int .i64 0, .int .i64 0, .slice none 0 0, .slice none 0 0, .slice none 0 0] 29)) ((w.alloc (.cells #[.int .i64 0, .int .i64 0, .slice none 0 0, .slice none 0 0, .slice none 0 0] 29)).alloc (.cells #[.int .i64 0, .int .i64 0, .slice none 0 0, .slice none 0 0, .slice none 0 0] 29)) := (Below.refl _ _).alloc (Nat.le_refl _) _
  have hs1 : (w.alloc (.cells #[.int .i64 0, .int .i64 0, .slice none 0 0, .slice none 0 0, .slice none 0 0] 29)).heap.size = w.heap.size + 1 := by simp
  have X1 := hide (later_block A2 (heap_new w (.cells #[.int .i64 0, .int .i64 0, .slice none 0 0, .slice none 0 0, .slice none 0 0] 29)))
  have Y1 := hide (heap_new (w.alloc (.cells #[.int .i64 0, .int .i64 0, .slice none 0 0, .slice none 0 0, .slice none 0 0] 29)) (.cells #[.int .i64 0, .int .i64 0, .slice none 0 0, .slice none 0 0, .slice none 0 0] 29))
  rw [hs1] at Y1
  have B2 := hide (A1.trans (A2.mono A1.size))
  have SZ := hide (show ((w.alloc (.cells #[.int .i64 0, .int .i64 0, .slice none 0 0, .slice none 0 0, .slice none 0 0] 29)).alloc (.cells #[.int .i64 0, .int .i64 0, .slice none 0 0, .slice none 0 0, .slice none 0 0] 29)).heap.size = w.heap.size + 2 by simp)
  have HB := hide (fun V (u : Below w.heap.size w V) => h.below u)
  have NM := hide hnm
  have LEN := hide h.at_.len
  have LS := hide (load_same ss)
  clear A1 A2 hs1 h hnm
  go_enter Tryz.func31, Tryz.ntmps31
  go_wp2_with fail
  generalize (w.alloc (.cells #[.int .i64 0, .int .i64 0, .slice none 0 0, .slice none 0 0, .slice none 0 0] 29)).alloc (.cells #[.int .i64 0, .int .i64 0, .slice none 0 0, .slice none 0 0, .slice none 0 0] 29) = W2 at *
  have LSX := hide (show ∀ V, Below w.heap.size w V → w.heap.size ≤ V.heap.size from fun V u => u.size)
  have NC := hide (snames_calls (unhide HB W2 (unhide B2)))
  go_at_call 34
  refine (unhide NC).mono ?_
  rintro e V3 ⟨np, m, nc, rfl, hm, ho, _, v3⟩
  have ON := hide ho
  have X3 := hide (later_block v3 (unhide X1))
  have Y3 := hide (later_block v3 (unhide Y1))
  have B3 := hide ((unhide B2).trans (v3.mono (unhide B2).size))
  have W2L := hide (show W2.heap.size ≤ V3.heap.size from v3.size)
  have LN := hide (show (ss.map (·.1)).length = m by rw [List.length_map]; exact hm)
  have NL := hide (show ∀ x ∈ ss.map (·.1), x.length ≤ 64 from fun x hx => by
    obtain ⟨y, hy, rfl⟩ := List.mem_map.1 hx
    exact unhide NM y hy)
  have hm16 : m ≤ 16 := by have := unhide LEN; omega
  clear ho v3 NC X1 Y1 B2 hm
  generalize ss.map (·.1) = nms at *
  generalize hBE : bestR ss nms sn0 = BE at *
  generalize hD : w.heap.size = D at *
  have HD := hide hD
  clear hD
  go_wp2_with fail
  go_loopw [6] (fun i wr => ∃ (j : Nat) (b : Sn) (hb : SnH), j ≤ m ∧ i = .int .i64 (j : Int) ∧ Hid (SnAt wr b hb) ∧ Hid (wr.heap[D + 1]? = some (.cells #[.int .i64 b.i, .int .i64 b.t, .slice hb.va b.v.length hb.vc, .slice hb.la b.l.length hb.lc, .slice hb.dp b.d.length hb.dc] 29 (0, 0))) ∧ Hid (wr.heap[D]? = some (.cells #[.int .i64 0, .int .i64 0, .slice none 0 0, .slice none 0 0, .slice none 0 0] 29 (0, 0))) ∧ Hid (OwnN W2.heap.size wr np nc nms) ∧ Hid (bestR ss (nms.drop j) b = BE) ∧ Hid (Below D w wr) ∧ Hid (V3.heap.size ≤ wr.heap.size) ∧ Hid (∀ ad, hb.va = some ad ∨ hb.la = some ad ∨ hb.dp = some ad → D + 2 ≤ ad.block)) (fun i _ => m - (intOf i).toNat)
  case atStart => exact ⟨0, sn0, ⟨none, 0, none, 0, none, 0⟩, by omega, rfl, snAt0 _, Y3, X3, ON, hBE, B3, Nat.le_refl _, fun ad e => by rcases e with e | e | e <;> cases e⟩
  case round =>
    obtain ⟨j, b, hb, hj, rfl, hS, hY, hX, hO, hE, hB, hL, hF⟩ := hrel
    clear ON X3 Y3 B3 hBE
    by_cases hjm : j < m
    · have y0 : (0 : Int) ≤ (j : Int) := by omega
      have y1 : (j : Int) < (m : Int) := by omega
      have hjl : j < nms.length := by rw [unhide LN]; exact hjm
      obtain ⟨g, rfl, q0⟩ := (unhide hO).cell j hjl
      have DJ := hide (show nms.drop j = nms[j] :: nms.drop (j + 1) from List.drop_eq_getElem_cons hjl)
      have NC := hide (numbered_calls snapW nms[j] (by decide) (unhide NL _ (List.getElem_mem hjl)) wr)
      rw [numRw_snap] at NC
      rw [unhide DJ, bestR] at hE
      have CLJ := hide (show ∀ V, Below wr.heap.size wr V → V.cell? ⟨g, j, none⟩ = some (.string (str nms[j])) from fun V u => cell_later u q0)
      generalize nms[j] = nj at *
      have hnk := numS_le nj
      obtain ⟨q, hq⟩ : ∃ q, numS nj = q := ⟨_, rfl⟩
      rw [hq] at hnk NC
      have HQ := hide hq
      clear hq
      go_wp2_with fail
      go_at_call 76
      refine (unhide NC).mono ?_
      rintro e V4 ⟨rfl, v4⟩
      have q4 := unhide CLJ V4 v4
      have U4 := hide v4
      have B4 := hide ((unhide hB).trans (v4.mono (by have := unhide LSX wr (unhide hB); omega)))
      have RC := hide (sread_calls (unhide HB V4 (unhide B4)) (str nj))
      rw [str_list] at RC
      clear v4 NC q0
      go_wp2_with fail
      go_at_call 89
      refine (unhide RC).mono ?_
      rintro e V5 ⟨bp, bn, bc, bx, rfl, hbn, hb8, hbx, _, v5⟩
      have U5 := hide ((unhide U4).trans (v5.mono (unhide U4).size))
      have GC := hide (rgetS_calls bp bn bc (nowL nj ss) V5 hbn (by have := hbx.cap.1; omega) (by omega) hbx.nil0 hbx.bytes)
      generalize hll : nowL nj ss = ll at *
      have HLL := hide hll
      clear hbn hbx hb8 v5 RC q4 hll
      go_wp2_with fail
      go_at_call 20
      refine (unhide GC).mono ?_
      rintro e V6 ⟨h6, rfl, s6, v6, fr6⟩
      obtain ⟨t, ht⟩ : ∃ t, snOf (snL ll) = t := ⟨_, rfl⟩
      obtain ⟨x, hx⟩ : ∃ x : Nat, snX (snL ll) = x := ⟨_, rfl⟩
      rw [ht] at s6
      rw [ht, hx]
      have HT := hide ht
      have HX := hide hx
      clear ht hx
      unfold snRow
      have U6 := hide ((unhide U5).trans (v6.mono (unhide U5).size))
      have A7 := hide (show Below V6.heap.size V6 (V6.alloc (.cells #[.int .i64 t.i, .int .i64 t.t, .slice h6.va t.v.length h6.vc, .slice h6.la t.l.length h6.lc, .slice h6.dp t.d.length h6.dc] 29)) from (Below.refl _ _).alloc (Nat.le_refl _) _)
      have X7 := hide (heap_new V6 (.cells #[.int .i64 t.i, .int .i64 t.t, .slice h6.va t.v.length h6.vc, .slice h6.la t.l.length h6.lc, .slice h6.dp t.d.length h6.dc] 29))
      have U7 := hide ((unhide U6).trans ((unhide A7).mono (unhide U6).size))
      have S7 := hide (s6.later (unhide A7))
      have FR := hide (show ∀ ad, h6.va = some ad ∨ h6.la = some ad ∨ h6.dp = some ad → wr.heap.size ≤ ad.block from fun ad e => Nat.le_trans (unhide U5).size (fr6 ad e))
      have WL := hide (show D + 2 ≤ wr.heap.size by have h1 := unhide hL; have h2 := unhide W2L; have h3 := unhide SZ; omega)
      have FRT := hide (show ∀ ad, h6.va = some ad ∨ h6.la = some ad ∨ h6.dp = some ad → D + 2 ≤ ad.block from fun ad e => Nat.le_trans (unhide WL) (unhide FR ad e))
      have SB7 := hide ((unhide hS).later (unhide U7))
      have Y7 := hide (later_block (unhide U7) (unhide hY))
      have XD7 := hide (later_block (unhide U7) (unhide hX))
      have O7 := hide ((unhide hO).later (unhide U7))
      have B7 := hide ((unhide hB).trans ((unhide U7).mono (by have := unhide LSX wr (unhide hB); omega)))
      have E6 := hide (show wr.heap.size ≤ V6.heap.size from (unhide U6).size)
      clear s6 v6 fr6 GC
      have L7 := hide (show V3.heap.size ≤ (V6.alloc (.cells #[.int .i64 t.i, .int .i64 t.t, .slice h6.va t.v.length h6.vc, .slice h6.la t.l.length h6.lc, .slice h6.dp t.d.length h6.dc] 29)).heap.size by have h1 := unhide hL; have h2 := (unhide U7).size; omega)
      have a0 := box_cell (unhide X7) 0 _ rfl
      have a1 := box_cell (unhide X7) 1 _ rfl
      have a2 := box_cell (unhide X7) 2 _ rfl
      have a3 := box_cell (unhide X7) 3 _ rfl
      have a4 := box_cell (unhide X7) 4 _ rfl
      have b0 := box_cell (unhide Y7) 0 _ rfl
      have b1 := box_cell (unhide Y7) 1 _ rfl
      have b2 := box_cell (unhide Y7) 2 _ rfl
      have b3 := box_cell (unhide Y7) 3 _ rfl
      have b4 := box_cell (unhide Y7) 4 _ rfl
      by_cases hq0 : 0 < q
      · by_cases hx0 : x = 0
        · by_cases hti : t.i = (q : Int)
          · by_cases hbq : b.i < (q : Int)
            · as_aux_lemma =>
              rw [goodS_some (unhide HQ) hq0 (by rw [unhide HLL, unhide HX]; exact hx0) (by rw [unhide HLL, unhide HT]; exact hti), unhide HLL, unhide HT] at hE
              dsimp only at hE
              rw [if_pos (by rw [hti]; exact hbq)] at hE
              have z1 : (0 : Int) < (q : Int) := by omega
              have z2 : ((x : Int) == 0) = true := by simp; omega
              have z3 : (t.i == (q : Int)) = true := by simp [hti]
              have z4 : (x : Int) = 0 := by omega
              obtain ⟨W, hwr, gW, hW⟩ := five_sets (unhide Y7) (.int .i64 t.i) (.int .i64 t.t) (.slice h6.va t.v.length h6.vc) (.slice h6.la t.l.length h6.lc) (.slice h6.dp t.d.length h6.dc)
              have HW := hide hW
              have YW := hide hwr
              have DNE := hide (show D ≠ D + 1 by omega)
              have XW := hide (grown_later gW (unhide XD7) (unhide DNE))
              have SW := hide ((unhide S7).far gW (fun ad e => by have h1 := unhide FR ad e; have h2 := unhide WL; omega))
              have OW := hide ((unhide O7).same (fun g hg => gW.block g ((unhide O7).blk_is g hg).2.1 (fun e => by have h1 := ((unhide O7).blk_is g hg).1; have h2 := Option.some.inj e; have h3 := unhide SZ; omega)))
              have BW := hide ((unhide B7).grown gW (unhide LSX _ (unhide B7)) (fun g hg => by have := Option.some.inj hg; omega))
              have LW := hide (Nat.le_trans (unhide L7) gW.size)
              have HTI := hide hti
              clear hW hwr gW hti
              have f0 := mbox_free (unhide Y7) 0
              have f1 := mbox_free (unhide Y7) 1
              have f2 := mbox_free (unhide Y7) 2
              have f3 := mbox_free (unhide Y7) 3
              have f4 := mbox_free (unhide Y7) 4
              go_wp2_with fail
              rw [unhide HW]
              exact ⟨⟨j + 1, t, h6, by omega, by go_num, SW, YW, XW, OW, hE, BW, LW, FRT⟩, by simp [intOf]; omega⟩
            · as_aux_lemma =>
              rw [goodS_some (unhide HQ) hq0 (by rw [unhide HLL, unhide HX]; exact hx0) (by rw [unhide HLL, unhide HT]; exact hti), unhide HLL, unhide HT] at hE
              dsimp only at hE
              rw [if_neg (by rw [hti]; exact hbq)] at hE
              have z1 : (0 : Int) < (q : Int) := by omega
              have z2 : ((x : Int) == 0) = true := by simp; omega
              have z3 : (t.i == (q : Int)) = true := by simp [hti]
              have z4 : (x : Int) = 0 := by omega
              have HTI := hide hti
              clear hti
              go_wp2_with fail
              exact ⟨⟨j + 1, b, hb, by omega, by go_num, SB7, Y7, XD7, O7, hE, B7, L7, hF⟩, by simp [intOf]; omega⟩
          · as_aux_lemma =>
            rw [goodS_none (unhide HQ) (.inr (.inr (by rw [unhide HLL, unhide HT]; exact hti)))] at hE
            dsimp only at hE
            have z1 : (0 : Int) < (q : Int) := by omega
            have z2 : ((x : Int) == 0) = true := by simp; omega
            have z3 : (t.i == (q : Int)) = false := by simp [hti]
            have z4 : (x : Int) = 0 := by omega
            go_wp2_with fail
            exact ⟨⟨j + 1, b, hb, by omega, by go_num, SB7, Y7, XD7, O7, hE, B7, L7, hF⟩, by simp [intOf]; omega⟩
        · as_aux_lemma =>
          rw [goodS_none (unhide HQ) (.inr (.inl (by rw [unhide HLL, unhide HX]; exact hx0)))] at hE
          dsimp only at hE
          have z1 : (0 : Int) < (q : Int) := by omega
          have z2 : ((x : Int) == 0) = false := by simp; omega
          have z4 : ¬ (x : Int) = 0 := by omega
          go_wp2_with fail
          exact ⟨⟨j + 1, b, hb, by omega, by go_num, SB7, Y7, XD7, O7, hE, B7, L7, hF⟩, by simp [intOf]; omega⟩
      · as_aux_lemma =>
        rw [goodS_none (unhide HQ) (.inl (by omega))] at hE
        dsimp only at hE
        have z1 : ¬ (0 : Int) < (q : Int) := by omega
        go_wp2_with fail
        exact ⟨⟨j + 1, b, hb, by omega, by go_num, SB7, Y7, XD7, O7, hE, B7, L7, hF⟩, by simp [intOf]; omega⟩
    · have y1 : ¬ (j : Int) < (m : Int) := by omega
      have DN := hide (show nms.drop j = [] from List.drop_eq_nil_of_le (by rw [unhide LN]; omega))
      rw [unhide DN, bestR] at hE
      have hE' := unhide hE
      subst hE'
      clear hE
      have a0 := box_cell (unhide hY) 0 _ rfl
      have a1 := box_cell (unhide hY) 1 _ rfl
      have a2 := box_cell (unhide hY) 2 _ rfl
      have a3 := box_cell (unhide hY) 3 _ rfl
      have a4 := box_cell (unhide hY) 4 _ rfl
      have zz0 := box_cell (unhide hX) 0 _ rfl
      have zz1 := box_cell (unhide hX) 1 _ rfl
      have zz2 := box_cell (unhide hX) 2 _ rfl
      have zz3 := box_cell (unhide hX) 3 _ rfl
      have zz4 := box_cell (unhide hX) 4 _ rfl
      have f0 := mbox_free (unhide hX) 0
      have f1 := mbox_free (unhide hX) 1
      have f2 := mbox_free (unhide hX) 2
      have f3 := mbox_free (unhide hX) 3
      have f4 := mbox_free (unhide hX) 4
      by_cases hb0 : b.i = 0
      · as_aux_lemma =>
        have z1 : (b.i == 0) = true := by simp [hb0]
        obtain ⟨W, hwr, gW, hW⟩ := five_sets (unhide hX) (.int .i64 0) (.int .i64 0) (.slice none 0 0) (.slice none 0 0) (.slice none 0 0)
        have HW := hide hW
        have r0 := box_cell (hwr) 0 _ rfl
        have r1 := box_cell (hwr) 1 _ rfl
        have r2 := box_cell (hwr) 2 _ rfl
        have r3 := box_cell (hwr) 3 _ rfl
        have r4 := box_cell (hwr) 4 _ rfl
        have FF := hide (show LoadEnd (sLoad ss) w (.returned (.tuple #[.agg #[.int .i64 0, .int .i64 0, .slice none 0 0, .slice none 0 0, .slice none 0 0], .int .i64 8])) W from by
          rw [unhide LS, if_pos hb0]
          refine ⟨⟨none, 0, none, 0, none, 0⟩, rfl, snAt0 W, ?_⟩
          rw [unhide HD]
          exact (unhide hB).grown gW (unhide LSX _ (unhide hB)) (fun g hg => by have := Option.some.inj hg; omega))
        clear hW hwr gW hb0
        go_wp2_with fail
        rw [unhide HW]
        go_wp2
        refine bodyPost_ret (v := .tuple #[.agg #[.int .i64 0, .int .i64 0, .slice none 0 0, .slice none 0 0, .slice none 0 0], .int .i64 8]) (by simp [results, Tryz.results31, go_sem, r0, r1, r2, r3, r4]) rfl ?_
        exact unhide FF
      · as_aux_lemma =>
        have z1 : (b.i == 0) = false := by simp [hb0]
        obtain ⟨W, hwr, gW, hW⟩ := five_sets (unhide hX) (.int .i64 b.i) (.int .i64 b.t) (.slice hb.va b.v.length hb.vc) (.slice hb.la b.l.length hb.lc) (.slice hb.dp b.d.length hb.dc)
        have HW := hide hW
        have r0 := box_cell (hwr) 0 _ rfl
        have r1 := box_cell (hwr) 1 _ rfl
        have r2 := box_cell (hwr) 2 _ rfl
        have r3 := box_cell (hwr) 3 _ rfl
        have r4 := box_cell (hwr) 4 _ rfl
        have FF := hide (show LoadEnd (sLoad ss) w (.returned (.tuple #[.agg #[.int .i64 b.i, .int .i64 b.t, .slice hb.va b.v.length hb.vc, .slice hb.la b.l.length hb.lc, .slice hb.dp b.d.length hb.dc], .int .i64 0])) W from by
          rw [unhide LS, if_neg hb0]
          refine ⟨hb, rfl, ?_, ?_⟩
          · exact (unhide hS).far gW (fun ad e => by have := unhide hF ad e; omega)
          · rw [unhide HD]
            exact (unhide hB).grown gW (unhide LSX _ (unhide hB)) (fun g hg => by have := Option.some.inj hg; omega))
        clear hW hwr gW
        go_wp2_with fail
        rw [unhide HW]
        go_wp2
        refine bodyPost_ret (v := .tuple #[.agg #[.int .i64 b.i, .int .i64 b.t, .slice hb.va b.v.length hb.vc, .slice hb.la b.l.length hb.lc, .slice hb.dp b.d.length hb.dc], .int .i64 0]) (by simp [results, Tryz.results31, go_sem, r0, r1, r2, r3, r4]) rfl ?_
        exact unhide FF
end Go.Proofs.YtagncghpfdjkmaaGreatDoor
end
/- Texts held against each other (the document's SameTexts). -/
section
namespace Go.Proofs.YtagncghpfdjkmaaGreatDoor
open Go.ChangeShapes Go.WideShapes Go.ChangeAt Go.RowKit Go.Maps

set_option maxRecDepth 20000 in
set_option maxHeartbeats 4000000 in
theorem sameTexts_yes (b1 b2 : Nat) (w : World) (l : List Nm) (n : Nat) (hn : l.length = n) (h16 : n ≤ 1000) (a b : Option Addr) (ca cb : Nat) (A : OwnN b1 w a ca l) (Bq : OwnN b2 w b cb l) :
    Calls Tryz.prog 32 #[.slice a n ca, .slice b n cb] w fun e w' => e = .returned (.bool true) ∧ Below w.heap.size w w' := by
  have HA := hide (fun W (hb : Below w.heap.size w W) => A.later hb)
  have HB := hide (fun W (hb : Below w.heap.size w W) => Bq.later hb)
  have HN := hide hn
  clear A Bq hn
  go_enter Tryz.func32, Tryz.ntmps32
  go_wp2_with fail
  go_loopw [5] (fun i wr => ∃ j : Nat, j ≤ n ∧ i = .int .i64 (j : Int) ∧ Hid (Below w.heap.size w wr)) (fun i _ => n - (intOf i).toNat)
  case atStart => exact ⟨0, by omega, rfl, hide (Below.refl _ _)⟩
  case round =>
    obtain ⟨j, hj, rfl, HW⟩ := hrel
    by_cases hjn : j < n
    · have y1 : (j : Int) < (n : Int) := by omega
      have y0 : (0 : Int) ≤ (j : Int) := by omega
      have hjl : j < l.length := by rw [unhide HN]; exact hjn
      obtain ⟨g1, rfl, q1⟩ := (unhide HA wr (unhide HW)).cell j hjl
      obtain ⟨g2, rfl, q2⟩ := (unhide HB wr (unhide HW)).cell j hjl
      generalize str l[j] = s at *
      clear hjl
      go_wp2_with fail
      go_quiet (fail)
      go_wp2
      exact ⟨⟨j + 1, by omega, by go_num, hide ((unhide HW).trans ⟨rfl, rfl, rfl, Nat.le_refl _, fun _ _ => rfl⟩)⟩, by simp [intOf]; omega⟩
    · have y1 : ¬ (j : Int) < (n : Int) := by omega
      go_wp2
      go_ret
      exact ⟨rfl, unhide HW⟩
end Go.Proofs.YtagncghpfdjkmaaGreatDoor
end
/- Both disks: what is saved and loaded of them. -/
section
namespace Go.Proofs.YtagncghpfdjkmaaGreatDoor
open Go.ChangeShapes Go.WideShapes Go.ChangeAt Go.RowKit Go.Maps
set_option linter.unusedVariables false
section
variable {Bv : Nat → Prop} {base d M R room N N' : Nat} {w w' : World} {ss tt uu : Ds}
theorem TD.callR (h : TD Bv base w d M R room N ss tt) {f : Nat} {args : Array Value} {P : Ending → Prop} (hk : ∀ Fv, RAt Fv w R room tt → Calls Tryz.prog f args w fun e w' => P e ∧ RSo Fv w w' R room uu) :
    Calls Tryz.prog f args w fun e w' => P e ∧ TD Bv base w' d M R room N ss uu ∧ Asd Bv base w w' := by
  obtain ⟨Fv, h1, h2, h3⟩ := h.at_
  refine (hk Fv h2).mono ?_
  rintro e w' ⟨hp, hs⟩
  refine ⟨hp, ⟨h.lowR, fun g => Fv g ∨ (w.heap.size ≤ g ∧ g < w'.heap.size), (h1.right (.inl rfl) hs.grown).av (fun g hg => ?_), hs.at_, fun g hg => ⟨fun q => ?_, (h3 g hg).2⟩⟩, fun g hg => ?_, ?_⟩
  · rcases hg with hg | (hg | hg) | hg
    · exact .inl (.inl hg)
    · exact .inl (.inr (.inl hg))
    · exact .inr hg
    · exact .inl (.inr (.inr hg))
  · rcases q with q | q
    · exact (h3 g hg).1 q
    · have := h1.lt (g := g) (.inr (.inr hg)); omega
  · exact hs.grown.block g (h1.lt (.inr (.inr hg))) (fun e => (h3 g hg).2 (Option.some.inj e))
  · exact ⟨hs.grown.os, hs.grown.tape, hs.grown.output, hs.grown.size, fun g hg => hs.grown.block g (Nat.lt_of_lt_of_le hg h1.le) (fun e => by have h4 := Option.some.inj e; have h5 := h.lowR; omega)⟩
theorem TD.callL (h : TD Bv base w d M R room N ss tt) {f : Nat} {args : Array Value} {P : Ending → Prop} (hk : ∀ Av, DAt Av base w d M room N ss → (∀ g, Bv g → Av g) → Calls Tryz.prog f args w fun e w' => P e ∧ DAt Av base w' d M room N' uu ∧ Asd Av base w w') :
    Calls Tryz.prog f args w fun e w' => P e ∧ TD Bv base w' d M R room N' uu tt ∧ Asd Bv base w w' := by
  obtain ⟨Fv, h1, h2, h3⟩ := h.at_
  refine (hk _ h1 (fun g hg => .inr (.inr hg))).mono ?_
  rintro e w' ⟨hp, k1, k2⟩
  exact ⟨hp, ⟨h.lowR, Fv, k1, h2.same (k2.av R (.inl rfl)) (fun g hg => k2.av g (.inr (.inl hg))), h3⟩, k2.sub (fun g hg => .inr (.inr hg))⟩
theorem TD.nmOk (h : TD Bv base w d M R room N ss tt) : NmOk ss := by
  obtain ⟨Fv, h1, h2, h3⟩ := h.at_
  exact h1.nmlen
theorem TD.riseT (h : TD Bv base w d M R room N ss tt) : Rises tt := by
  obtain ⟨Fv, h1, h2, h3⟩ := h.at_
  exact h2.rise
theorem TD.lenS (h : TD Bv base w d M R room N ss tt) : ss.length ≤ 16 := by
  obtain ⟨Fv, h1, h2, h3⟩ := h.at_
  exact h1.len
theorem tsave_calls (h : TD Bv base w d M R room N ss tt) (hN : N + 1 ≤ 1000000) (ht : ∃ w0 : World, w0.heap.size = base ∧ Tz w0 ∧ Below base w0 w) (s : Sn) (sh : SnH) (hs : SnAt w s sh) :
    Calls Tryz.prog 24 #[.pointer (some ⟨d, 0, none⟩), .agg (snRow s sh)] w fun e w' => e = .returned (.int .i64 ((sSave room s ss).1 : Int)) ∧ TD Bv base w' d M R room (N + 1) (sSave room s ss).2 tt ∧ Asd Bv base w w' :=
  h.callL (fun Av h1 _ => save_calls h1 hN ht s sh hs)
theorem trsave_calls (h : TD Bv base w d M R room N ss tt) (hc : FewC 300 tt) (hn : NmOk tt) (s : Sn) (sh : SnH) (hs : SnAt w s sh) :
    Calls Tryz.prog 25 #[.pointer (some ⟨R, 0, none⟩), .agg (snRow s sh)] w fun e w' => e = .returned (.int .i64 ((sSave room s tt).1 : Int)) ∧ TD Bv base w' d M R room N ss (sSave room s tt).2 ∧ Asd Bv base w w' := by
  rw [← save_same h.riseT]
  exact h.callR (P := fun e => e = .returned (.int .i64 ((rSave room s tt).1 : Int))) (fun Fv h2 => (rsave_calls h2 hc hn s sh hs).mono fun e w' ⟨h1, h2, _⟩ => ⟨h1, h2⟩)
theorem tcrash_calls (h : TD Bv base w d M R room N ss tt) (kp : Option Addr) (kn kc : Nat) (ks : List Int) (hks : ks.length = kn) (hI : IntsAt w kp ks) (hlo : ∀ b off, kp = some ⟨b, off, none⟩ → 0 < ks.length → b < base) :
    Calls Tryz.prog 26 #[.pointer (some ⟨d, 0, none⟩), .slice kp kn kc] w fun e w' => e = .returned (.tuple #[]) ∧ TD Bv base w' d M R room N (crashS ks 0 ss) tt ∧ Asd Bv base w w' :=
  h.callL (fun Av h1 _ => acrash_calls h1 kp kn kc ks hks hI (fun b off e h0 => .inl (hlo b off e h0)))
theorem trcrash_calls (h : TD Bv base w d M R room N ss tt) (kp : Option Addr) (kn kc : Nat) (ks : List Int) (hks : ks.length = kn) (hI : IntsAt w kp ks) :
    Calls Tryz.prog 27 #[.pointer (some ⟨R, 0, none⟩), .slice kp kn kc] w fun e w' => e = .returned (.tuple #[]) ∧ TD Bv base w' d M R room N ss (crashS ks 0 tt) ∧ Asd Bv base w w' :=
  h.callR (fun Fv h2 => (scrash_calls (RSo.start h2) kp kn kc ks hks hI).mono fun e w' ⟨h1, h2, _⟩ => ⟨h1, h2⟩)
theorem twrite_calls (h : TD Bv base w d M R room N ss tt) (hN : N + 1 ≤ 1000000) (s : ByteArray) (hs : s.size ≤ maxLen) (z : Int) (hz64 : z ≤ 9223372036854775807) (xp : Option Addr) (xn xc : Nat) (o : List Nat) (ho : o.length = xn) (hxc : xn ≤ xc) (hB : BytesAt w xp o) (hx0 : xp = none → xc = 0) (hlo : ∀ b off, xp = some ⟨b, off, none⟩ → 0 < xn → b < base) (hxl : xn ≤ 140737488355328) :
    Calls Tryz.prog 28 #[.pointer (some ⟨d, 0, none⟩), .string s, .int .i64 z, .slice xp xn xc] w fun e w' => e = .returned (.int .i64 ((dWrite room s.data.toList z o ss).1 : Int)) ∧ TD Bv base w' d M R room (N + 1) (dWrite room s.data.toList z o ss).2 tt ∧ Asd Bv base w w' :=
  h.callL (fun Av h1 _ => awrite_calls h1 hN s hs z hz64 xp xn xc o ho hxc hB hx0 (fun b off e h0 => .inl (hlo b off e h0)) hxl)
theorem trwrite_calls (h : TD Bv base w d M R room N ss tt) (hc : FewC 300 tt) (s : ByteArray) (hs : s.size ≤ maxLen) (z : Int) (hz64 : z ≤ 9223372036854775807) (xp : Option Addr) (xn xc : Nat) (o : List Nat) (ho : o.length = xn) (hB : BytesAt w xp o) (hxl : xn ≤ 1000000) :
    Calls Tryz.prog 29 #[.pointer (some ⟨R, 0, none⟩), .string s, .int .i64 z, .slice xp xn xc] w fun e w' => e = .returned (.int .i64 ((dWrite room s.data.toList z o tt).1 : Int)) ∧ TD Bv base w' d M R room N ss (dWrite room s.data.toList z o tt).2 ∧ Asd Bv base w w' :=
  h.callR (fun Fv h2 => (swrite_calls (RSo.start h2) hc s hs z hz64 xp xn xc o ho hB hxl).mono fun e w' ⟨h1, h2, _⟩ => ⟨h1, h2⟩)
theorem tload_calls (h : TD Bv base w d M R room N ss tt) (ht : Tz w) : Calls Tryz.prog 30 #[.pointer (some ⟨d, 0, none⟩)] w (LoadEnd (sLoad ss) w) := by
  obtain ⟨Fv, h1, h2, h3⟩ := h.at_
  exact load_calls h1 ht
theorem trload_calls (h : TD Bv base w d M R room N ss tt) (hn : NmOk tt) : Calls Tryz.prog 31 #[.pointer (some ⟨R, 0, none⟩)] w (LoadEnd (sLoad tt) w) := by
  obtain ⟨Fv, h1, h2, h3⟩ := h.at_
  exact rload_calls (RSo.start h2) hn
theorem tnames_calls (h : TD Bv base w d M R room N ss tt) : Calls Tryz.prog 33 #[.pointer (some ⟨d, 0, none⟩)] w fun e w' => ∃ sp n c, e = .returned (.slice sp n c) ∧ ss.length = n ∧ OwnN w.heap.size w' sp c (ss.map (·.1)) ∧ Below w.heap.size w w' := by
  obtain ⟨Fv, h1, h2, h3⟩ := h.at_
  exact anames_calls h1
theorem trnames_calls (h : TD Bv base w d M R room N ss tt) : Calls Tryz.prog 34 #[.pointer (some ⟨R, 0, none⟩)] w fun e w' => ∃ sp n c, e = .returned (.slice sp n c) ∧ tt.length = n ∧ OwnN w.heap.size w' sp c (tt.map (·.1)) ∧ Below w.heap.size w w' := by
  obtain ⟨Fv, h1, h2, h3⟩ := h.at_
  refine (snames_calls (RSo.start h2)).mono ?_
  rintro e W ⟨sp, n, c, rfl, hn, ho, _, hb⟩
  exact ⟨sp, n, c, rfl, hn, ho, hb⟩
theorem tused_calls (h : TD Bv base w d M R room N ss tt) : Calls Tryz.prog 35 #[.pointer (some ⟨d, 0, none⟩)] w fun e w' => e = .returned (.int .i64 (usedS ss : Int)) ∧ Below w.heap.size w w' := by
  obtain ⟨Fv, h1, h2, h3⟩ := h.at_
  obtain ⟨fs, q1, rfl, q3⟩ := h1.at_
  exact dused_calls q1
theorem trused_calls (h : TD Bv base w d M R room N ss tt) : Calls Tryz.prog 36 #[.pointer (some ⟨R, 0, none⟩)] w fun e w' => e = .returned (.int .i64 (usedS tt : Int)) ∧ Below w.heap.size w w' := by
  obtain ⟨Fv, h1, h2, h3⟩ := h.at_
  refine (sused_calls (RSo.start h2)).mono ?_
  rintro e W ⟨rfl, _, hb⟩
  exact ⟨rfl, hb⟩
theorem TD.new {w1 w2 : World} (h1 : DAt (fun _ => False) base w1 d M room 0 []) (h2 : RefAt 0 w2 R room none 0 []) (hR : w1.heap.size = R) (hb : Below w1.heap.size w1 w2) : TD (fun _ => False) base w2 d M R room 0 [] [] := by
  refine ⟨by have := h1.le; omega, fun _ => False, (h1.more hb).av (fun g hg => ?_), ⟨none, 0, [], h2, rfl, fun g hg => ?_⟩, fun g hg => hg.elim⟩
  · rcases hg with hg | hg | hg
    · have := h2.ltR
      exact .inr ⟨by omega, by omega⟩
    · exact hg.elim
    · exact hg.elim
  · rcases hg with hg | ⟨x, hx, _⟩
    · cases hg
    · cases hx
end
end Go.Proofs.YtagncghpfdjkmaaGreatDoor
end
