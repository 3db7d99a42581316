/- Snapshots: the document's Get (written by wip/mksgr.py). -/
import Derived.Test.YtagncghpfdjkmaaGreatDoorB19
import Derived.Test.YtagncghpfdjkmaaGreatDoorB29
import Derived.Test.YtagncghpfdjkmaaGreatDoorB12
namespace Go.Proofs.YtagncghpfdjkmaaGreatDoor
open Go.ChangeShapes Go.WideShapes Go.ChangeAt Go.RowKit
set_option linter.unusedVariables false

/-- How the document's Get ends. -/
def GetR (l : List Nat) (w : World) (en : Ending) (w' : World) : Prop := ∃ h, en = .returned (.tuple #[.agg (snRow (snOf (snL l)) h), .int .i64 (snX (snL l) : Int)]) ∧ SnAt w' (snOf (snL l)) h ∧ Below w.heap.size w w' ∧ (∀ ad, h.va = some ad ∨ h.la = some ad ∨ h.dp = some ad → w.heap.size ≤ ad.block)
theorem getR_bad {l : List Nat} {w W : World} {x : Nat} (h : snL l = .error x) (u : Below w.heap.size w W) : GetR l w (.returned (.tuple #[.agg #[.int .i64 0, .int .i64 0, .slice none 0 0, .slice none 0 0, .slice none 0 0], .int .i64 (x : Int)])) W := by
  obtain ⟨hh, h1, h2, h3, h4⟩ := getS_bad h u
  exact ⟨hh, h1, h2, h4, h3⟩
theorem refNext0_calls (a : Option Addr) (c : Nat) (l : List Nat) (w : World) (hl : l.length ≤ 140737488355328) (hc : l.length ≤ c) (hz : a = none → c = 0) (hb : BytesAt w a l) :
    Calls Tryz.prog 63 #[.slice a l.length c, .int .i64 0] w fun e w' => Below w.heap.size w w' ∧
      ((0 < nextE l 0 ∧ e = .returned (.tuple #[.slice none 0 0, .int .i64 0, .int .i64 (nextE l 0 : Nat)])) ∨
       (nextE l 0 = 0 ∧ ∃ sp c', e = .returned (.tuple #[.slice sp (nextH l 0).length c', .int .i64 ((8 + (nextH l 0).length : Nat) : Int), .int .i64 0]) ∧ OwnB w.heap.size w' sp c' (nextH l 0))) := by
  by_cases h8 : l.length - 0 < 8
  · refine (refNext_short a c l 0 w (by simp only [maxLen]; omega) (by omega) h8).mono ?_
    rintro e W ⟨rfl, rfl⟩
    refine ⟨Below.refl _ _, .inl ?_⟩
    have : nextE l 0 = 3 := by rw [nextE, if_pos h8]
    rw [this]
    exact ⟨by omega, rfl⟩
  · refine (refNext_calls a c l 0 w hl hc hz (by omega) h8 hb).mono ?_
    rintro e W ⟨h1, h2⟩
    refine ⟨h1, h2.imp id ?_⟩
    rintro ⟨q0, sp, c', rfl, q1⟩
    exact ⟨q0, sp, c', by rw [Nat.zero_add], q1⟩
theorem OwnB.adr {base : Nat} {V : World} {sp : Option Addr} {cc : Nat} {l : List Nat} (x : OwnB base V sp cc l) : ∀ ad, sp = some ad → base ≤ ad.block := by
  intro ad e
  rcases x.owns.2 with ⟨hv, _⟩ | ⟨g, cap, cur, hv, hb, _⟩
  · simp only [Value.slice.injEq] at hv
    rw [e] at hv
    cases hv.1
  · simp only [Value.slice.injEq] at hv
    rw [e] at hv
    have := Option.some.inj hv.1
    rw [this]
    exact hb
/-- How far the numbers are read. -/
def SpecM (H : List Nat) (q k m0 m1 : Nat) : Prop := (q = 0 ∧ k = 0) ∨ (q = 1 ∧ takeE H 0 = .ok (m0, k) ∧ m0 ≠ 0) ∨ (q = 2 ∧ ∃ k1, takeE H 0 = .ok (m0, k1) ∧ m0 ≠ 0 ∧ takeE H k1 = .ok (m1, k) ∧ m1 ≠ 0)
theorem snG_1 {H : List Nat} {x : Nat} (h : takeE H 0 = .error x) : snG H = .error x := by unfold snG; rw [h]
theorem snG_10 {H : List Nat} {k : Nat} (h : takeE H 0 = .ok (0, k)) : snG H = .error 4 := by unfold snG; rw [h]; rfl
theorem snG_2 {H : List Nat} {i k1 : Nat} (h : takeE H 0 = .ok (i, k1)) (hi : i ≠ 0) {x : Nat} (h2 : takeE H k1 = .error x) : snG H = .error x := by
  unfold snG; rw [h]; dsimp only; rw [if_neg hi, h2]
theorem snG_20 {H : List Nat} {i k1 : Nat} (h : takeE H 0 = .ok (i, k1)) (hi : i ≠ 0) {k : Nat} (h2 : takeE H k1 = .ok (0, k)) : snG H = .error 4 := by
  unfold snG; rw [h]; dsimp only; rw [if_neg hi, h2]; rfl
/-- What is read behind both. -/
def snR (H : List Nat) (i t k2 : Nat) : Except Nat Sn := match takeE H k2 with
      | .error x => .error x
      | .ok (n, k3) => if H.length - k3 < n then .error 3 else match getE ((H.drop k3).take n) with
        | .error x => .error x
        | .ok (v, l) => match takeE H (k3 + n) with
          | .error x => .error x
          | .ok (z, k4) => if 16384 < z then .error 6 else if H.length - k4 < z then .error 3 else if k4 + z < H.length then .error 4 else .ok ⟨i, t, v, l, (H.drop k4).take z⟩
theorem snG_3 {H : List Nat} {i k1 t k2 : Nat} (h : takeE H 0 = .ok (i, k1)) (hi : i ≠ 0) (h2 : takeE H k1 = .ok (t, k2)) (ht : t ≠ 0) : snG H = snR H i t k2 := by
  unfold snG snR; rw [h]; dsimp only; rw [if_neg hi, h2]; dsimp only; rw [if_neg ht]; rfl
theorem two_cells {u : World} {j : Nat} {x y : Value} {T : TypeId} (h : u.heap[j]? = some (.cells #[x, y] T (0, 0))) (v : Value) : (u.setCell ⟨j, 0, none⟩ v).heap[j]? = some (.cells #[v, y] T (0, 0)) ∧ (u.setCell ⟨j, 1, none⟩ v).heap[j]? = some (.cells #[x, v] T (0, 0)) :=
  ⟨heap_setCell_same u j 0 _ T v h, heap_setCell_same u j 1 _ T v h⟩
set_option maxRecDepth 20000 in
set_option maxHeartbeats 16000000 in
theorem rgetS_calls (a : Option Addr) (n c : Nat) (l : List Nat) (w : World) (hn : l.length = n) (hc : n ≤ c) (hx : n ≤ 140737488355328) (hz : a = none → c = 0) (hb : BytesAt w a l) : Calls Tryz.prog 20 #[.slice a n c] w (GetR l w) := by
  have A1 : Below w.heap.size w (w.alloc (.cells #[.int .i64 0, .int .i64 0, .slice none 0 0, .slice none 0 0, .slice none 0 0] 29)) := (Below.refl _ _).alloc (Nat.le_refl _) _
  have A2 : Below (w.alloc (.cells #[.int .i64 0, .int .i64 0, .slice none 0 0, .slice none 0 0, .slice none 0 0] 29)).heap.size (w.alloc (.cells #[.int .i64 0, .int .i64 0, .slice none 0 0, .slice none 0 0, .slice none 0 0] 29)) ((w.alloc (.cells #[.int .i64 0, .int .i64 0, .slice none 0 0, .slice none 0 0, .slice none 0 0] 29)).alloc (.cells #[.int .i64 0, .int .i64 0, .slice none 0 0, .slice none 0 0, .slice none 0 0] 29)) := (Below.refl _ _).alloc (Nat.le_refl _) _
  have hs1 : (w.alloc (.cells #[.int .i64 0, .int .i64 0, .slice none 0 0, .slice none 0 0, .slice none 0 0] 29)).heap.size = w.heap.size + 1 := by simp
  have X1 := hide (later_block A2 (heap_new w (.cells #[.int .i64 0, .int .i64 0, .slice none 0 0, .slice none 0 0, .slice none 0 0] 29)))
  have X2 := hide (heap_new (w.alloc (.cells #[.int .i64 0, .int .i64 0, .slice none 0 0, .slice none 0 0, .slice none 0 0] 29)) (.cells #[.int .i64 0, .int .i64 0, .slice none 0 0, .slice none 0 0, .slice none 0 0] 29))
  rw [hs1] at X2
  have B2 := hide (A1.trans (A2.mono A1.size))
  have SZ := hide (show ((w.alloc (.cells #[.int .i64 0, .int .i64 0, .slice none 0 0, .slice none 0 0, .slice none 0 0] 29)).alloc (.cells #[.int .i64 0, .int .i64 0, .slice none 0 0, .slice none 0 0, .slice none 0 0] 29)).heap.size = w.heap.size + 2 by simp)
  have NX := hide (refNext0_calls a c l ((w.alloc (.cells #[.int .i64 0, .int .i64 0, .slice none 0 0, .slice none 0 0, .slice none 0 0] 29)).alloc (.cells #[.int .i64 0, .int .i64 0, .slice none 0 0, .slice none 0 0, .slice none 0 0] 29)) (by omega) (by omega) hz (hb.later (unhide B2)))
  rw [hn] at NX
  have HN := hide hn
  have HLT := hide hb.lt
  have x0 := box_cell (unhide X2) 0 _ rfl
  have x1 := box_cell (unhide X2) 1 _ rfl
  have x2 := box_cell (unhide X2) 2 _ rfl
  have x3 := box_cell (unhide X2) 3 _ rfl
  have x4 := box_cell (unhide X2) 4 _ rfl
  clear A1 A2 hs1 hb hz hn
  go_enter Tryz.func20, Tryz.ntmps20
  go_wp2_with fail
  clear x0 x1 x2 x3 x4
  generalize (w.alloc (.cells #[.int .i64 0, .int .i64 0, .slice none 0 0, .slice none 0 0, .slice none 0 0] 29)).alloc (.cells #[.int .i64 0, .int .i64 0, .slice none 0 0, .slice none 0 0, .slice none 0 0] 29) = W2 at *
  generalize hD : w.heap.size = D at *
  have KD := hide (show ∀ V, Below W2.heap.size W2 V → V.heap[D]? = some (.cells #[.int .i64 0, .int .i64 0, .slice none 0 0, .slice none 0 0, .slice none 0 0] 29 (0, 0)) ∧ V.heap[D + 1]? = some (.cells #[.int .i64 0, .int .i64 0, .slice none 0 0, .slice none 0 0, .slice none 0 0] 29 (0, 0)) from fun V u => ⟨later_block u (unhide X1), later_block u (unhide X2)⟩)
  have DONE := hide (show ∀ u, Below W2.heap.size W2 u → ∃ W, W.cell? ⟨D, 0, none⟩ = some (.int .i64 0) ∧ W.cell? ⟨D, 1, none⟩ = some (.int .i64 0) ∧ W.cell? ⟨D, 2, none⟩ = some (.slice none 0 0) ∧ W.cell? ⟨D, 3, none⟩ = some (.slice none 0 0) ∧ W.cell? ⟨D, 4, none⟩ = some (.slice none 0 0) ∧ Below D w W ∧
      ((((u.setCell ⟨D, 0, none⟩ (.int .i64 0)).setCell ⟨D, 1, none⟩ (.int .i64 0)).setCell ⟨D, 2, none⟩ (.slice none 0 0)).setCell ⟨D, 3, none⟩ (.slice none 0 0)).setCell ⟨D, 4, none⟩ (.slice none 0 0) = W from fun u F => by
    obtain ⟨W, hr, gW, hW⟩ := five_sets (unhide KD u F).1 (.int .i64 0) (.int .i64 0) (.slice none 0 0) (.slice none 0 0) (.slice none 0 0)
    have hU : Below D w u := (unhide B2).trans (F.mono (by have := unhide SZ; omega))
    exact ⟨W, box_cell hr 0 _ rfl, box_cell hr 1 _ rfl, box_cell hr 2 _ rfl, box_cell hr 3 _ rfl, box_cell hr 4 _ rfl, below_grown hU gW (Nat.le_refl _) (by have := F.size; have := unhide SZ; omega), hW⟩)
  clear X1 X2
  go_at_call 63
  refine (unhide NX).mono ?_
  rintro en V1 ⟨v1, hcase⟩
  have U1 := hide v1
  clear v1 NX
  rcases hcase with ⟨h0, rfl⟩ | ⟨h0, hp, hcp, rfl, hoH⟩
  · have hE := hide (show snL l = .error (nextE l 0) by unfold snL; rw [if_pos (by omega)])
    obtain ⟨W, y0, y1, y2, y3, y4, bW, hW⟩ := unhide DONE V1 (unhide U1)
    have HW := hide hW
    have z0 := box_cell (unhide KD V1 (unhide U1)).1 0 _ rfl
    have z1 := box_cell (unhide KD V1 (unhide U1)).1 1 _ rfl
    have z2 := box_cell (unhide KD V1 (unhide U1)).1 2 _ rfl
    have z3 := box_cell (unhide KD V1 (unhide U1)).1 3 _ rfl
    have z4 := box_cell (unhide KD V1 (unhide U1)).1 4 _ rfl
    have f0 := mbox_free (unhide KD V1 (unhide U1)).1 0
    have f1 := mbox_free (unhide KD V1 (unhide U1)).1 1
    have f2 := mbox_free (unhide KD V1 (unhide U1)).1 2
    have f3 := mbox_free (unhide KD V1 (unhide U1)).1 3
    have f4 := mbox_free (unhide KD V1 (unhide U1)).1 4
    have n0 := box_cell (unhide KD V1 (unhide U1)).2 0 _ rfl
    have n1 := box_cell (unhide KD V1 (unhide U1)).2 1 _ rfl
    have n2 := box_cell (unhide KD V1 (unhide U1)).2 2 _ rfl
    have n3 := box_cell (unhide KD V1 (unhide U1)).2 3 _ rfl
    have n4 := box_cell (unhide KD V1 (unhide U1)).2 4 _ rfl
    have FF := hide (getR_bad (l := l) (w := w) (W := W) (x := nextE l 0) (unhide hE) (by first | exact bW | (rw [hD]; exact bW)))
    have x1 : ¬ ((nextE l 0 : Nat) : Int) = 0 := by omega
    have x2 : (((nextE l 0 : Nat) : Int) == 0) = false := by simp; omega
    generalize ((nextE l 0 : Nat) : Int) = xi at *
    clear hW DONE KD
    go_wp2_with fail
    rw [unhide HW]
    go_wp2
    refine bodyPost_ret (v := .tuple #[.agg #[.int .i64 0, .int .i64 0, .slice none 0 0, .slice none 0 0, .slice none 0 0], .int .i64 xi]) (by simp [results, Tryz.results20, go_sem, y0, y1, y2, y3, y4]) rfl ?_
    exact unhide FF
  · have hH := nextH_le h0
    have hHl := (nextE_zero h0).2.2
    have SE := hide (show snL l = (if 8 + (nextH l 0).length < l.length then .error 4 else snG (nextH l 0)) by unfold snL; rw [if_neg (by omega)])
    have HL := hide (nextH_lt (unhide HLT) 0)
    have OH := hide hoH
    rw [unhide HN] at SE hHl
    generalize hHH : nextH l 0 = H at *
    generalize hm : H.length = m at *
    have HM := hide hm
    clear hHH hm hoH h0
    by_cases hend : 8 + m < n
    · have hE := hide (show snL l = .error 4 by rw [unhide SE, if_pos hend])
      have e1 : ¬ ((8 : Int) + (m : Int) = (n : Int)) := by omega
      have e2 : (((8 : Int) + (m : Int)) == (n : Int)) = false := by simp; omega
      obtain ⟨W, y0, y1, y2, y3, y4, bW, hW⟩ := unhide DONE V1 (unhide U1)
      have HW := hide hW
      have z0 := box_cell (unhide KD V1 (unhide U1)).1 0 _ rfl
      have z1 := box_cell (unhide KD V1 (unhide U1)).1 1 _ rfl
      have z2 := box_cell (unhide KD V1 (unhide U1)).1 2 _ rfl
      have z3 := box_cell (unhide KD V1 (unhide U1)).1 3 _ rfl
      have z4 := box_cell (unhide KD V1 (unhide U1)).1 4 _ rfl
      have f0 := mbox_free (unhide KD V1 (unhide U1)).1 0
      have f1 := mbox_free (unhide KD V1 (unhide U1)).1 1
      have f2 := mbox_free (unhide KD V1 (unhide U1)).1 2
      have f3 := mbox_free (unhide KD V1 (unhide U1)).1 3
      have f4 := mbox_free (unhide KD V1 (unhide U1)).1 4
      have n0 := box_cell (unhide KD V1 (unhide U1)).2 0 _ rfl
      have n1 := box_cell (unhide KD V1 (unhide U1)).2 1 _ rfl
      have n2 := box_cell (unhide KD V1 (unhide U1)).2 2 _ rfl
      have n3 := box_cell (unhide KD V1 (unhide U1)).2 3 _ rfl
      have n4 := box_cell (unhide KD V1 (unhide U1)).2 4 _ rfl
      have FF := hide (getR_bad (l := l) (w := w) (W := W) (x := 4) (unhide hE) (by first | exact bW | (rw [hD]; exact bW)))
      clear hW DONE KD
      go_wp2_with fail
      rw [unhide HW]
      go_wp2
      refine bodyPost_ret (v := .tuple #[.agg #[.int .i64 0, .int .i64 0, .slice none 0 0, .slice none 0 0, .slice none 0 0], .int .i64 4]) (by simp [results, Tryz.results20, go_sem, y0, y1, y2, y3, y4]) rfl ?_
      exact unhide FF
    · have e1 : (8 : Int) + (m : Int) = (n : Int) := by omega
      have e2 : (((8 : Int) + (m : Int)) == (n : Int)) = true := by simp; omega
      have HG := hide (show snL l = snG H by rw [unhide SE, if_neg hend])
      have V3B := hide (show Below V1.heap.size V1 (V1.alloc (.cells #[.int .i64 0, .int .i64 0] 3)) from (Below.refl _ _).alloc (Nat.le_refl _) _)
      have MX := hide (heap_new V1 (.cells #[.int .i64 0, .int .i64 0] 3))
      have KB := hide (show ∀ V, Below V1.heap.size V1 V → Below W2.heap.size W2 V from fun V u => (unhide U1).trans (u.mono (unhide U1).size))
      have BY := hide (show ∀ V, Below V1.heap.size V1 V → BytesAt V hp H from fun V u => (unhide OH).bytes.later u)
      have HCP := hide (show m ≤ hcp ∧ hcp ≤ maxLen from by have := (unhide OH).cap; rw [unhide HM] at this; exact this)
      have HNZ := hide (unhide OH).nil0
      clear SE hend
      go_wp2_with fail
      clear e1 e2
      generalize V1.alloc _ = V3 at *
      generalize hMB : V1.heap.size = MB at *
      go_loopw [8, 10] (fun p i wr => ∃ (q k m0 m1 : Nat), q ≤ 2 ∧ p = .int .i64 (k : Int) ∧ i = .int .i64 (q : Int) ∧ Hid (wr.heap[MB]? = some (.cells #[.int .i64 (m0 : Int), .int .i64 (m1 : Int)] 3 (0, 0))) ∧ Hid (Below MB V1 wr) ∧ Hid (k ≤ m) ∧ Hid (SpecM H q k m0 m1)) (fun _ i _ => 2 - (intOf i).toNat)
      case atStart => exact ⟨0, 0, 0, 0, by omega, rfl, rfl, unhide MX, unhide V3B, Nat.zero_le _, .inl ⟨rfl, rfl⟩⟩
      case round =>
        obtain ⟨q, k, m0, m1, hq, rfl, rfl, hbox, hB, hk, hS⟩ := hrel
        have UB := hide (unhide KB wr (unhide hB))
        have TB := hide (unhide BY wr (unhide hB))
        rcases unhide hS with ⟨e0, eK⟩ | ⟨e0, eT, eN⟩ | ⟨e0, k1, eT, eN, eT2, eN2⟩
        · as_aux_lemma =>
          have hq2 : (q : Int) < 2 := by omega
          have TS := hide (show takeE H k = takeE H 0 by rw [eK])
          clear eK hS
          cases ht : takeE H k with
          | error x =>
            have hx0 := takeE_pos ht
            have hE := hide (show snL l = .error x by rw [unhide HG]; exact snG_1 ((unhide TS).symm.trans ht))
            have TC := hide (refTake_bad (c := hcp) m k x (k : Int) (unhide HM) rfl (by have := unhide HM; omega) (by rw [unhide HM]; exact unhide hk) (unhide TB) ht)
            have e0' := hide e0
            clear e0 ht hq
            go_wp2_with fail
            go_at_call 64
            refine (unhide TC).mono ?_
            rintro e w5 ⟨rfl, rfl⟩
            clear hq2 TC
            obtain ⟨W, y0, y1, y2, y3, y4, bW, hW⟩ := unhide DONE w5 (unhide UB)
            have HW := hide hW
            have z0 := box_cell (unhide KD w5 (unhide UB)).1 0 _ rfl
            have z1 := box_cell (unhide KD w5 (unhide UB)).1 1 _ rfl
            have z2 := box_cell (unhide KD w5 (unhide UB)).1 2 _ rfl
            have z3 := box_cell (unhide KD w5 (unhide UB)).1 3 _ rfl
            have z4 := box_cell (unhide KD w5 (unhide UB)).1 4 _ rfl
            have f0 := mbox_free (unhide KD w5 (unhide UB)).1 0
            have f1 := mbox_free (unhide KD w5 (unhide UB)).1 1
            have f2 := mbox_free (unhide KD w5 (unhide UB)).1 2
            have f3 := mbox_free (unhide KD w5 (unhide UB)).1 3
            have f4 := mbox_free (unhide KD w5 (unhide UB)).1 4
            have n0 := box_cell (unhide KD w5 (unhide UB)).2 0 _ rfl
            have n1 := box_cell (unhide KD w5 (unhide UB)).2 1 _ rfl
            have n2 := box_cell (unhide KD w5 (unhide UB)).2 2 _ rfl
            have n3 := box_cell (unhide KD w5 (unhide UB)).2 3 _ rfl
            have n4 := box_cell (unhide KD w5 (unhide UB)).2 4 _ rfl
            have FF := hide (getR_bad (l := l) (w := w) (W := W) (x := x) (unhide hE) (by first | exact bW | (rw [hD]; exact bW)))
            have x1 : ¬ ((x : Nat) : Int) = 0 := by omega
            have x2 : (((x : Nat) : Int) == 0) = false := by simp; omega
            generalize ((x : Nat) : Int) = xi at *
            clear hW DONE KD
            go_wp2_with fail
            rw [unhide HW]
            go_wp2
            refine bodyPost_ret (v := .tuple #[.agg #[.int .i64 0, .int .i64 0, .slice none 0 0, .slice none 0 0, .slice none 0 0], .int .i64 xi]) (by simp [results, Tryz.results20, go_sem, y0, y1, y2, y3, y4]) rfl ?_
            exact unhide FF
          | ok r =>
            obtain ⟨z, k2⟩ := r
            have hle := (takeE_leb ht (unhide HL))
            have TC := hide (refTake_ok (c := hcp) m k z k2 (k : Int) (unhide HM) rfl (by have := unhide HM; omega) (by rw [unhide HM]; exact unhide hk) (unhide TB) ht)
            have HT := hide ht
            have HK2 := hide (show k2 ≤ m by rw [← unhide HM]; exact hle.1)
            have hz40 := hle.2
            clear ht hle
            by_cases hz0 : z = 0
            · subst hz0
              have hE := hide (show snL l = .error 4 by rw [unhide HG]; exact snG_10 ((unhide TS).symm.trans (unhide HT)))
              rw [show ((0 : Nat) : Int) = 0 from rfl] at TC
              have e0' := hide e0
              clear e0 hq
              go_wp2_with fail
              go_at_call 64
              refine (unhide TC).mono ?_
              rintro e w5 ⟨rfl, rfl⟩
              clear hq2 TC hz40
              obtain ⟨W, y0, y1, y2, y3, y4, bW, hW⟩ := unhide DONE w5 (unhide UB)
              have HW := hide hW
              have z0 := box_cell (unhide KD w5 (unhide UB)).1 0 _ rfl
              have z1 := box_cell (unhide KD w5 (unhide UB)).1 1 _ rfl
              have z2 := box_cell (unhide KD w5 (unhide UB)).1 2 _ rfl
              have z3 := box_cell (unhide KD w5 (unhide UB)).1 3 _ rfl
              have z4 := box_cell (unhide KD w5 (unhide UB)).1 4 _ rfl
              have f0 := mbox_free (unhide KD w5 (unhide UB)).1 0
              have f1 := mbox_free (unhide KD w5 (unhide UB)).1 1
              have f2 := mbox_free (unhide KD w5 (unhide UB)).1 2
              have f3 := mbox_free (unhide KD w5 (unhide UB)).1 3
              have f4 := mbox_free (unhide KD w5 (unhide UB)).1 4
              have n0 := box_cell (unhide KD w5 (unhide UB)).2 0 _ rfl
              have n1 := box_cell (unhide KD w5 (unhide UB)).2 1 _ rfl
              have n2 := box_cell (unhide KD w5 (unhide UB)).2 2 _ rfl
              have n3 := box_cell (unhide KD w5 (unhide UB)).2 3 _ rfl
              have n4 := box_cell (unhide KD w5 (unhide UB)).2 4 _ rfl
              have FF := hide (getR_bad (l := l) (w := w) (W := W) (x := 4) (unhide hE) (by first | exact bW | (rw [hD]; exact bW)))
              clear hW DONE KD
              go_wp2_with fail
              rw [unhide HW]
              go_wp2
              refine bodyPost_ret (v := .tuple #[.agg #[.int .i64 0, .int .i64 0, .slice none 0 0, .slice none 0 0, .slice none 0 0], .int .i64 4]) (by simp [results, Tryz.results20, go_sem, y0, y1, y2, y3, y4]) rfl ?_
              exact unhide FF
            · have z1 : ¬ (z : Int) = 0 := by omega
              have z2 : ((z : Int) == 0) = false := by simp [hz0]
              have HZ0 := hide hz0
              have E0 := hide e0
              clear hz0 hq
              subst e0
              rw [show ((0 : Nat) : Int) = 0 from rfl] at *
              have cM := box_cell (unhide hbox) 0 _ rfl
              have fM := mbox_free (unhide hbox) 0
              go_wp2_with fail
              go_at_call 64
              refine (unhide TC).mono ?_
              rintro e w5 ⟨rfl, rfl⟩
              have NB := hide ((two_cells (unhide hbox) (.int .i64 (z : Int))).1)
              have B5 := hide (below_grown (unhide hB) (grown_set w5 MB 0 (.int .i64 (z : Int))) (Nat.le_refl _) (by have := (unhide hB).size; have := (Array.getElem?_eq_some_iff.1 (unhide hbox)).1; omega))
              clear hq2 TC
              go_wp2
              exact ⟨⟨1, k2, z, m1, by omega, rfl, rfl, unhide NB, unhide B5, unhide HK2, .inr (.inl ⟨rfl, (unhide TS).symm.trans (unhide HT), unhide HZ0⟩)⟩, by simp [intOf]⟩
        · as_aux_lemma =>
          have hq2 : (q : Int) < 2 := by omega
          have ET := hide eT
          have EN := hide eN
          clear eT eN hS
          cases ht : takeE H k with
          | error x =>
            have hx0 := takeE_pos ht
            have hE := hide (show snL l = .error x by rw [unhide HG]; exact snG_2 (unhide ET) (unhide EN) ht)
            have TC := hide (refTake_bad (c := hcp) m k x (k : Int) (unhide HM) rfl (by have := unhide HM; omega) (by rw [unhide HM]; exact unhide hk) (unhide TB) ht)
            have e0' := hide e0
            clear e0 ht hq
            go_wp2_with fail
            go_at_call 64
            refine (unhide TC).mono ?_
            rintro e w5 ⟨rfl, rfl⟩
            clear hq2 TC
            obtain ⟨W, y0, y1, y2, y3, y4, bW, hW⟩ := unhide DONE w5 (unhide UB)
            have HW := hide hW
            have z0 := box_cell (unhide KD w5 (unhide UB)).1 0 _ rfl
            have z1 := box_cell (unhide KD w5 (unhide UB)).1 1 _ rfl
            have z2 := box_cell (unhide KD w5 (unhide UB)).1 2 _ rfl
            have z3 := box_cell (unhide KD w5 (unhide UB)).1 3 _ rfl
            have z4 := box_cell (unhide KD w5 (unhide UB)).1 4 _ rfl
            have f0 := mbox_free (unhide KD w5 (unhide UB)).1 0
            have f1 := mbox_free (unhide KD w5 (unhide UB)).1 1
            have f2 := mbox_free (unhide KD w5 (unhide UB)).1 2
            have f3 := mbox_free (unhide KD w5 (unhide UB)).1 3
            have f4 := mbox_free (unhide KD w5 (unhide UB)).1 4
            have n0 := box_cell (unhide KD w5 (unhide UB)).2 0 _ rfl
            have n1 := box_cell (unhide KD w5 (unhide UB)).2 1 _ rfl
            have n2 := box_cell (unhide KD w5 (unhide UB)).2 2 _ rfl
            have n3 := box_cell (unhide KD w5 (unhide UB)).2 3 _ rfl
            have n4 := box_cell (unhide KD w5 (unhide UB)).2 4 _ rfl
            have FF := hide (getR_bad (l := l) (w := w) (W := W) (x := x) (unhide hE) (by first | exact bW | (rw [hD]; exact bW)))
            have x1 : ¬ ((x : Nat) : Int) = 0 := by omega
            have x2 : (((x : Nat) : Int) == 0) = false := by simp; omega
            generalize ((x : Nat) : Int) = xi at *
            clear hW DONE KD
            go_wp2_with fail
            rw [unhide HW]
            go_wp2
            refine bodyPost_ret (v := .tuple #[.agg #[.int .i64 0, .int .i64 0, .slice none 0 0, .slice none 0 0, .slice none 0 0], .int .i64 xi]) (by simp [results, Tryz.results20, go_sem, y0, y1, y2, y3, y4]) rfl ?_
            exact unhide FF
          | ok r =>
            obtain ⟨z, k2⟩ := r
            have hle := (takeE_leb ht (unhide HL))
            have TC := hide (refTake_ok (c := hcp) m k z k2 (k : Int) (unhide HM) rfl (by have := unhide HM; omega) (by rw [unhide HM]; exact unhide hk) (unhide TB) ht)
            have HT := hide ht
            have HK2 := hide (show k2 ≤ m by rw [← unhide HM]; exact hle.1)
            have hz40 := hle.2
            clear ht hle
            by_cases hz0 : z = 0
            · subst hz0
              have hE := hide (show snL l = .error 4 by rw [unhide HG]; exact snG_20 (unhide ET) (unhide EN) (unhide HT))
              rw [show ((0 : Nat) : Int) = 0 from rfl] at TC
              have e0' := hide e0
              clear e0 hq
              go_wp2_with fail
              go_at_call 64
              refine (unhide TC).mono ?_
              rintro e w5 ⟨rfl, rfl⟩
              clear hq2 TC hz40
              obtain ⟨W, y0, y1, y2, y3, y4, bW, hW⟩ := unhide DONE w5 (unhide UB)
              have HW := hide hW
              have z0 := box_cell (unhide KD w5 (unhide UB)).1 0 _ rfl
              have z1 := box_cell (unhide KD w5 (unhide UB)).1 1 _ rfl
              have z2 := box_cell (unhide KD w5 (unhide UB)).1 2 _ rfl
              have z3 := box_cell (unhide KD w5 (unhide UB)).1 3 _ rfl
              have z4 := box_cell (unhide KD w5 (unhide UB)).1 4 _ rfl
              have f0 := mbox_free (unhide KD w5 (unhide UB)).1 0
              have f1 := mbox_free (unhide KD w5 (unhide UB)).1 1
              have f2 := mbox_free (unhide KD w5 (unhide UB)).1 2
              have f3 := mbox_free (unhide KD w5 (unhide UB)).1 3
              have f4 := mbox_free (unhide KD w5 (unhide UB)).1 4
              have n0 := box_cell (unhide KD w5 (unhide UB)).2 0 _ rfl
              have n1 := box_cell (unhide KD w5 (unhide UB)).2 1 _ rfl
              have n2 := box_cell (unhide KD w5 (unhide UB)).2 2 _ rfl
              have n3 := box_cell (unhide KD w5 (unhide UB)).2 3 _ rfl
              have n4 := box_cell (unhide KD w5 (unhide UB)).2 4 _ rfl
              have FF := hide (getR_bad (l := l) (w := w) (W := W) (x := 4) (unhide hE) (by first | exact bW | (rw [hD]; exact bW)))
              clear hW DONE KD
              go_wp2_with fail
              rw [unhide HW]
              go_wp2
              refine bodyPost_ret (v := .tuple #[.agg #[.int .i64 0, .int .i64 0, .slice none 0 0, .slice none 0 0, .slice none 0 0], .int .i64 4]) (by simp [results, Tryz.results20, go_sem, y0, y1, y2, y3, y4]) rfl ?_
              exact unhide FF
            · have z1 : ¬ (z : Int) = 0 := by omega
              have z2 : ((z : Int) == 0) = false := by simp [hz0]
              have HZ0 := hide hz0
              have E0 := hide e0
              clear hz0 hq
              subst e0
              rw [show ((1 : Nat) : Int) = 1 from rfl] at *
              have cM := box_cell (unhide hbox) 1 _ rfl
              have fM := mbox_free (unhide hbox) 1
              go_wp2_with fail
              go_at_call 64
              refine (unhide TC).mono ?_
              rintro e w5 ⟨rfl, rfl⟩
              have NB := hide ((two_cells (unhide hbox) (.int .i64 (z : Int))).2)
              have B5 := hide (below_grown (unhide hB) (grown_set w5 MB 1 (.int .i64 (z : Int))) (Nat.le_refl _) (by have := (unhide hB).size; have := (Array.getElem?_eq_some_iff.1 (unhide hbox)).1; omega))
              clear hq2 TC
              go_wp2
              exact ⟨⟨2, k2, m0, z, by omega, rfl, rfl, unhide NB, unhide B5, unhide HK2, .inr (.inr ⟨rfl, k, unhide ET, unhide EN, unhide HT, unhide HZ0⟩)⟩, by simp [intOf]⟩
        · as_aux_lemma =>
          have hq2 : ¬ (q : Int) < 2 := by omega
          have HR := hide (show snL l = snR H m0 m1 k by rw [unhide HG]; exact snG_3 eT eN eT2 eN2)
          have M40 := hide (show m0 ≤ 1099511627776 ∧ m1 ≤ 1099511627776 from ⟨(takeE_leb eT (unhide HL)).2, (takeE_leb eT2 (unhide HL)).2⟩)
          clear eT eN eT2 eN2 hS e0 hq
          cases ht : takeE H k with
          | error x =>
            have hx0 := takeE_pos ht
            have hE := hide (show snL l = .error x by rw [unhide HR]; unfold snR; rw [ht])
            have TC := hide (refTake_bad (c := hcp) m k x (k : Int) (unhide HM) rfl (by have := unhide HM; omega) (by rw [unhide HM]; exact unhide hk) (unhide TB) ht)
            clear ht
            go_wp2_with fail
            go_at_call 64
            refine (unhide TC).mono ?_
            rintro e w5 ⟨rfl, rfl⟩
            clear hq2 TC
            obtain ⟨W, y0, y1, y2, y3, y4, bW, hW⟩ := unhide DONE w5 (unhide UB)
            have HW := hide hW
            have z0 := box_cell (unhide KD w5 (unhide UB)).1 0 _ rfl
            have z1 := box_cell (unhide KD w5 (unhide UB)).1 1 _ rfl
            have z2 := box_cell (unhide KD w5 (unhide UB)).1 2 _ rfl
            have z3 := box_cell (unhide KD w5 (unhide UB)).1 3 _ rfl
            have z4 := box_cell (unhide KD w5 (unhide UB)).1 4 _ rfl
            have f0 := mbox_free (unhide KD w5 (unhide UB)).1 0
            have f1 := mbox_free (unhide KD w5 (unhide UB)).1 1
            have f2 := mbox_free (unhide KD w5 (unhide UB)).1 2
            have f3 := mbox_free (unhide KD w5 (unhide UB)).1 3
            have f4 := mbox_free (unhide KD w5 (unhide UB)).1 4
            have n0 := box_cell (unhide KD w5 (unhide UB)).2 0 _ rfl
            have n1 := box_cell (unhide KD w5 (unhide UB)).2 1 _ rfl
            have n2 := box_cell (unhide KD w5 (unhide UB)).2 2 _ rfl
            have n3 := box_cell (unhide KD w5 (unhide UB)).2 3 _ rfl
            have n4 := box_cell (unhide KD w5 (unhide UB)).2 4 _ rfl
            have FF := hide (getR_bad (l := l) (w := w) (W := W) (x := x) (unhide hE) (by first | exact bW | (rw [hD]; exact bW)))
            have x1 : ¬ ((x : Nat) : Int) = 0 := by omega
            have x2 : (((x : Nat) : Int) == 0) = false := by simp; omega
            generalize ((x : Nat) : Int) = xi at *
            clear hW DONE KD
            go_wp2_with fail
            rw [unhide HW]
            go_wp2
            refine bodyPost_ret (v := .tuple #[.agg #[.int .i64 0, .int .i64 0, .slice none 0 0, .slice none 0 0, .slice none 0 0], .int .i64 xi]) (by simp [results, Tryz.results20, go_sem, y0, y1, y2, y3, y4]) rfl ?_
            exact unhide FF
          | ok r =>
            obtain ⟨z, k3⟩ := r
            have hle := (takeE_leb ht (unhide HL))
            have hk3 : k3 ≤ m := by rw [← unhide HM]; exact hle.1
            have TC := hide (refTake_ok (c := hcp) m k z k3 (k : Int) (unhide HM) rfl (by have := unhide HM; omega) (by rw [unhide HM]; exact unhide hk) (unhide TB) ht)
            have hz40 := hle.2
            have HR2 := hide (show snL l = (if m - k3 < z then .error 3 else match getE ((H.drop k3).take z) with
              | .error x => .error x
              | .ok (v, l) => match takeE H (k3 + z) with
                | .error x => .error x
                | .ok (z2, k4) => if 16384 < z2 then .error 6 else if m - k4 < z2 then .error 3 else if k4 + z2 < m then .error 4 else .ok ⟨m0, m1, v, l, (H.drop k4).take z2⟩) by
              rw [unhide HR]; unfold snR; rw [ht]; simp only [unhide HM])
            clear ht hle HR
            by_cases hsh : m - k3 < z
            · have hE := hide (show snL l = .error 3 by rw [unhide HR2, if_pos hsh])
              have s1 : (m : Int) - (k3 : Int) < (z : Int) := by omega
              go_wp2_with fail
              go_at_call 64
              refine (unhide TC).mono ?_
              rintro e w5 ⟨rfl, rfl⟩
              clear hq2 TC
              obtain ⟨W, y0, y1, y2, y3, y4, bW, hW⟩ := unhide DONE w5 (unhide UB)
              have HW := hide hW
              have z0 := box_cell (unhide KD w5 (unhide UB)).1 0 _ rfl
              have z1 := box_cell (unhide KD w5 (unhide UB)).1 1 _ rfl
              have z2 := box_cell (unhide KD w5 (unhide UB)).1 2 _ rfl
              have z3 := box_cell (unhide KD w5 (unhide UB)).1 3 _ rfl
              have z4 := box_cell (unhide KD w5 (unhide UB)).1 4 _ rfl
              have f0 := mbox_free (unhide KD w5 (unhide UB)).1 0
              have f1 := mbox_free (unhide KD w5 (unhide UB)).1 1
              have f2 := mbox_free (unhide KD w5 (unhide UB)).1 2
              have f3 := mbox_free (unhide KD w5 (unhide UB)).1 3
              have f4 := mbox_free (unhide KD w5 (unhide UB)).1 4
              have n0 := box_cell (unhide KD w5 (unhide UB)).2 0 _ rfl
              have n1 := box_cell (unhide KD w5 (unhide UB)).2 1 _ rfl
              have n2 := box_cell (unhide KD w5 (unhide UB)).2 2 _ rfl
              have n3 := box_cell (unhide KD w5 (unhide UB)).2 3 _ rfl
              have n4 := box_cell (unhide KD w5 (unhide UB)).2 4 _ rfl
              have FF := hide (getR_bad (l := l) (w := w) (W := W) (x := 3) (unhide hE) (by first | exact bW | (rw [hD]; exact bW)))
              clear hW DONE KD
              go_wp2_with fail
              rw [unhide HW]
              go_wp2
              refine bodyPost_ret (v := .tuple #[.agg #[.int .i64 0, .int .i64 0, .slice none 0 0, .slice none 0 0, .slice none 0 0], .int .i64 3]) (by simp [results, Tryz.results20, go_sem, y0, y1, y2, y3, y4]) rfl ?_
              exact unhide FF
            · have s1 : ¬ (m : Int) - (k3 : Int) < (z : Int) := by omega
              have hkz : k3 + z ≤ m := by omega
              have sl := run_slice_lh8 hp m hcp k3 (k3 + z) (by omega) (by have := (unhide HCP).1; omega)
              rw [show ((k3 + z : Nat) : Int) = (k3 : Int) + (z : Int) by omega, show k3 + z - k3 = z by omega] at sl
              have qz : IntKind.i64.wrap ((k3 : Int) + (z : Int)) = (k3 : Int) + (z : Int) := by rw [IntKind.wrap_i64]; omega
              have GC := hide (rget_calls (c := hcp - k3) (((unhide TB).drop k3 hcp (by rw [unhide HM]; exact (unhide HCP).1)).take z) z (by rw [List.length_take, List.length_drop, unhide HM]; omega) (by omega))
              generalize slp hp k3 hcp = ps at *
              go_wp2_with fail
              go_at_call 64
              refine (unhide TC).mono ?_
              rintro e w5 ⟨rfl, rfl⟩
              clear hq2 TC
              go_wp2_with fail
              go_at_call 65
              refine (unhide GC).mono ?_
              rintro e w6 ⟨hres, b6⟩
              have B6 := hide ((unhide hB).trans (b6.mono (by have := (unhide hB).size; have := (Array.getElem?_eq_some_iff.1 (unhide hbox)).1; omega)))
              have MX6 := hide (later_block b6 (unhide hbox))
              have hw5 := (Array.getElem?_eq_some_iff.1 (unhide hbox)).1
              clear GC sl qz s1 hsh
              cases hg : getE ((H.drop k3).take z) with
              | error x =>
                rw [hg] at hres HR2
                obtain ⟨rfl, hx0⟩ := hres
                have hE := hide (show snL l = .error x by rw [unhide HR2, if_neg (by omega)])
                have A6 := hide (show Below w6.heap.size w6 (w6.alloc (.cells #[.slice none 0 0, .slice none 0 0] 26)) from (Below.refl _ _).alloc (Nat.le_refl _) _)
                have UB6 := hide ((unhide KB w6 (unhide B6)).trans ((unhide A6).mono (unhide KB w6 (unhide B6)).size))
                clear hg hw5 b6
                obtain ⟨W, y0, y1, y2, y3, y4, bW, hW⟩ := unhide DONE (w6.alloc (.cells #[.slice none 0 0, .slice none 0 0] 26)) (unhide UB6)
                have HW := hide hW
                have z0 := box_cell (unhide KD (w6.alloc (.cells #[.slice none 0 0, .slice none 0 0] 26)) (unhide UB6)).1 0 _ rfl
                have z1 := box_cell (unhide KD (w6.alloc (.cells #[.slice none 0 0, .slice none 0 0] 26)) (unhide UB6)).1 1 _ rfl
                have z2 := box_cell (unhide KD (w6.alloc (.cells #[.slice none 0 0, .slice none 0 0] 26)) (unhide UB6)).1 2 _ rfl
                have z3 := box_cell (unhide KD (w6.alloc (.cells #[.slice none 0 0, .slice none 0 0] 26)) (unhide UB6)).1 3 _ rfl
                have z4 := box_cell (unhide KD (w6.alloc (.cells #[.slice none 0 0, .slice none 0 0] 26)) (unhide UB6)).1 4 _ rfl
                have f0 := mbox_free (unhide KD (w6.alloc (.cells #[.slice none 0 0, .slice none 0 0] 26)) (unhide UB6)).1 0
                have f1 := mbox_free (unhide KD (w6.alloc (.cells #[.slice none 0 0, .slice none 0 0] 26)) (unhide UB6)).1 1
                have f2 := mbox_free (unhide KD (w6.alloc (.cells #[.slice none 0 0, .slice none 0 0] 26)) (unhide UB6)).1 2
                have f3 := mbox_free (unhide KD (w6.alloc (.cells #[.slice none 0 0, .slice none 0 0] 26)) (unhide UB6)).1 3
                have f4 := mbox_free (unhide KD (w6.alloc (.cells #[.slice none 0 0, .slice none 0 0] 26)) (unhide UB6)).1 4
                have n0 := box_cell (unhide KD (w6.alloc (.cells #[.slice none 0 0, .slice none 0 0] 26)) (unhide UB6)).2 0 _ rfl
                have n1 := box_cell (unhide KD (w6.alloc (.cells #[.slice none 0 0, .slice none 0 0] 26)) (unhide UB6)).2 1 _ rfl
                have n2 := box_cell (unhide KD (w6.alloc (.cells #[.slice none 0 0, .slice none 0 0] 26)) (unhide UB6)).2 2 _ rfl
                have n3 := box_cell (unhide KD (w6.alloc (.cells #[.slice none 0 0, .slice none 0 0] 26)) (unhide UB6)).2 3 _ rfl
                have n4 := box_cell (unhide KD (w6.alloc (.cells #[.slice none 0 0, .slice none 0 0] 26)) (unhide UB6)).2 4 _ rfl
                have FF := hide (getR_bad (l := l) (w := w) (W := W) (x := x) (unhide hE) (by first | exact bW | (rw [hD]; exact bW)))
                have x1 : ¬ ((x : Nat) : Int) = 0 := by omega
                have x2 : (((x : Nat) : Int) == 0) = false := by simp; omega
                generalize ((x : Nat) : Int) = xi at *
                clear hW DONE KD
                go_wp2_with fail
                rw [unhide HW]
                go_wp2
                refine bodyPost_ret (v := .tuple #[.agg #[.int .i64 0, .int .i64 0, .slice none 0 0, .slice none 0 0, .slice none 0 0], .int .i64 xi]) (by simp [results, Tryz.results20, go_sem, y0, y1, y2, y3, y4]) rfl ?_
                exact unhide FF
              | ok r =>
                as_aux_lemma =>
                obtain ⟨v, r⟩ := r
                rw [hg] at hres HR2
                obtain ⟨spA, nA, cA, spB, nB, cB, rfl, hnA, hnB, hoA, hoB⟩ := hres
                rw [if_neg (by omega)] at HR2
                have A6 := hide (show Below w6.heap.size w6 (w6.alloc (.cells #[.slice spA nA cA, .slice spB nB cB] 26)) from (Below.refl _ _).alloc (Nat.le_refl _) _)
                have X8 := hide (heap_new w6 (.cells #[.slice spA nA cA, .slice spB nB cB] 26))
                have W6S := hide (show MB < w5.heap.size ∧ w5.heap.size ≤ w6.heap.size from ⟨hw5, b6.size⟩)
                have B8 := hide ((unhide B6).trans ((unhide A6).mono (by have := unhide W6S; omega)))
                have UB8 := hide (unhide KB _ (unhide B8))
                have TB8 := hide (unhide BY _ (unhide B8))
                have MX8 := hide (later_block (unhide A6) (unhide MX6))
                have OA8 := hide (hoA.later (unhide A6))
                have OB8 := hide (hoB.later (unhide A6))
                have qz : IntKind.i64.wrap ((k3 : Int) + (z : Int)) = (k3 : Int) + (z : Int) := by rw [IntKind.wrap_i64]; omega
                have NA := hide hnA
                have NB := hide hnB
                have HDM := hide (show D + 2 ≤ MB from by have h1 := unhide SZ; have h2 := (unhide U1).size; omega)
                clear hg b6 hoA hoB hw5 hnA hnB B6 MX6 A6
                go_wp2_with fail
                generalize w6.alloc _ = W8 at *
                generalize hE6 : w6.heap.size = E6 at *
                go_at_call 64
                cases ht : takeE H (k3 + z) with
                | error x =>
                  have hx0 := takeE_pos ht
                  have hE := hide (show snL l = .error x by rw [unhide HR2, ht])
                  refine (refTake_bad (c := hcp) m (k3 + z) x ((k3 : Int) + (z : Int)) (unhide HM) (by omega) (by have := unhide HM; omega) (by rw [unhide HM]; exact hkz) (unhide TB8) ht).mono ?_
                  rintro e w9 ⟨rfl, rfl⟩
                  clear ht
                  obtain ⟨W, y0, y1, y2, y3, y4, bW, hW⟩ := unhide DONE w9 (unhide UB8)
                  have HW := hide hW
                  have z0 := box_cell (unhide KD w9 (unhide UB8)).1 0 _ rfl
                  have z1 := box_cell (unhide KD w9 (unhide UB8)).1 1 _ rfl
                  have z2 := box_cell (unhide KD w9 (unhide UB8)).1 2 _ rfl
                  have z3 := box_cell (unhide KD w9 (unhide UB8)).1 3 _ rfl
                  have z4 := box_cell (unhide KD w9 (unhide UB8)).1 4 _ rfl
                  have f0 := mbox_free (unhide KD w9 (unhide UB8)).1 0
                  have f1 := mbox_free (unhide KD w9 (unhide UB8)).1 1
                  have f2 := mbox_free (unhide KD w9 (unhide UB8)).1 2
                  have f3 := mbox_free (unhide KD w9 (unhide UB8)).1 3
                  have f4 := mbox_free (unhide KD w9 (unhide UB8)).1 4
                  have n0 := box_cell (unhide KD w9 (unhide UB8)).2 0 _ rfl
                  have n1 := box_cell (unhide KD w9 (unhide UB8)).2 1 _ rfl
                  have n2 := box_cell (unhide KD w9 (unhide UB8)).2 2 _ rfl
                  have n3 := box_cell (unhide KD w9 (unhide UB8)).2 3 _ rfl
                  have n4 := box_cell (unhide KD w9 (unhide UB8)).2 4 _ rfl
                  have FF := hide (getR_bad (l := l) (w := w) (W := W) (x := x) (unhide hE) (by first | exact bW | (rw [hD]; exact bW)))
                  have x1 : ¬ ((x : Nat) : Int) = 0 := by omega
                  have x2 : (((x : Nat) : Int) == 0) = false := by simp; omega
                  generalize ((x : Nat) : Int) = xi at *
                  clear hW DONE KD
                  go_wp2_with fail
                  rw [unhide HW]
                  go_wp2
                  refine bodyPost_ret (v := .tuple #[.agg #[.int .i64 0, .int .i64 0, .slice none 0 0, .slice none 0 0, .slice none 0 0], .int .i64 xi]) (by simp [results, Tryz.results20, go_sem, y0, y1, y2, y3, y4]) rfl ?_
                  exact unhide FF
                | ok r2 =>
                  obtain ⟨y, k4⟩ := r2
                  have hle := (takeE_leb ht (unhide HL))
                  have hk4 : k4 ≤ m := by rw [← unhide HM]; exact hle.1
                  have hy40 := hle.2
                  refine (refTake_ok (c := hcp) m (k3 + z) y k4 ((k3 : Int) + (z : Int)) (unhide HM) (by omega) (by have := unhide HM; omega) (by rw [unhide HM]; exact hkz) (unhide TB8) ht).mono ?_
                  rintro e w9 ⟨rfl, rfl⟩
                  rw [ht] at HR2
                  clear ht hle qz
                  by_cases hy1 : 16384 < y
                  · have hE := hide (show snL l = .error 6 by rw [unhide HR2]; dsimp only; rw [if_pos hy1])
                    have s1 : (16384 : Int) < (y : Int) := by omega
                    obtain ⟨W, y0, y1, y2, y3, y4, bW, hW⟩ := unhide DONE w9 (unhide UB8)
                    have HW := hide hW
                    have z0 := box_cell (unhide KD w9 (unhide UB8)).1 0 _ rfl
                    have z1 := box_cell (unhide KD w9 (unhide UB8)).1 1 _ rfl
                    have z2 := box_cell (unhide KD w9 (unhide UB8)).1 2 _ rfl
                    have z3 := box_cell (unhide KD w9 (unhide UB8)).1 3 _ rfl
                    have z4 := box_cell (unhide KD w9 (unhide UB8)).1 4 _ rfl
                    have f0 := mbox_free (unhide KD w9 (unhide UB8)).1 0
                    have f1 := mbox_free (unhide KD w9 (unhide UB8)).1 1
                    have f2 := mbox_free (unhide KD w9 (unhide UB8)).1 2
                    have f3 := mbox_free (unhide KD w9 (unhide UB8)).1 3
                    have f4 := mbox_free (unhide KD w9 (unhide UB8)).1 4
                    have n0 := box_cell (unhide KD w9 (unhide UB8)).2 0 _ rfl
                    have n1 := box_cell (unhide KD w9 (unhide UB8)).2 1 _ rfl
                    have n2 := box_cell (unhide KD w9 (unhide UB8)).2 2 _ rfl
                    have n3 := box_cell (unhide KD w9 (unhide UB8)).2 3 _ rfl
                    have n4 := box_cell (unhide KD w9 (unhide UB8)).2 4 _ rfl
                    have FF := hide (getR_bad (l := l) (w := w) (W := W) (x := 6) (unhide hE) (by first | exact bW | (rw [hD]; exact bW)))
                    clear hW DONE KD
                    go_wp2_with fail
                    rw [unhide HW]
                    go_wp2
                    refine bodyPost_ret (v := .tuple #[.agg #[.int .i64 0, .int .i64 0, .slice none 0 0, .slice none 0 0, .slice none 0 0], .int .i64 6]) (by simp [results, Tryz.results20, go_sem, y0, y1, y2, y3, y4]) rfl ?_
                    exact unhide FF
                  · have s1 : ¬ (16384 : Int) < (y : Int) := by omega
                    by_cases hy2 : m - k4 < y
                    · have hE := hide (show snL l = .error 3 by rw [unhide HR2]; dsimp only; rw [if_neg hy1, if_pos hy2])
                      have s2 : (m : Int) - (k4 : Int) < (y : Int) := by omega
                      obtain ⟨W, y0, y1, y2, y3, y4, bW, hW⟩ := unhide DONE w9 (unhide UB8)
                      have HW := hide hW
                      have z0 := box_cell (unhide KD w9 (unhide UB8)).1 0 _ rfl
                      have z1 := box_cell (unhide KD w9 (unhide UB8)).1 1 _ rfl
                      have z2 := box_cell (unhide KD w9 (unhide UB8)).1 2 _ rfl
                      have z3 := box_cell (unhide KD w9 (unhide UB8)).1 3 _ rfl
                      have z4 := box_cell (unhide KD w9 (unhide UB8)).1 4 _ rfl
                      have f0 := mbox_free (unhide KD w9 (unhide UB8)).1 0
                      have f1 := mbox_free (unhide KD w9 (unhide UB8)).1 1
                      have f2 := mbox_free (unhide KD w9 (unhide UB8)).1 2
                      have f3 := mbox_free (unhide KD w9 (unhide UB8)).1 3
                      have f4 := mbox_free (unhide KD w9 (unhide UB8)).1 4
                      have n0 := box_cell (unhide KD w9 (unhide UB8)).2 0 _ rfl
                      have n1 := box_cell (unhide KD w9 (unhide UB8)).2 1 _ rfl
                      have n2 := box_cell (unhide KD w9 (unhide UB8)).2 2 _ rfl
                      have n3 := box_cell (unhide KD w9 (unhide UB8)).2 3 _ rfl
                      have n4 := box_cell (unhide KD w9 (unhide UB8)).2 4 _ rfl
                      have FF := hide (getR_bad (l := l) (w := w) (W := W) (x := 3) (unhide hE) (by first | exact bW | (rw [hD]; exact bW)))
                      clear hW DONE KD
                      go_wp2_with fail
                      rw [unhide HW]
                      go_wp2
                      refine bodyPost_ret (v := .tuple #[.agg #[.int .i64 0, .int .i64 0, .slice none 0 0, .slice none 0 0, .slice none 0 0], .int .i64 3]) (by simp [results, Tryz.results20, go_sem, y0, y1, y2, y3, y4]) rfl ?_
                      exact unhide FF
                    · have s2 : ¬ (m : Int) - (k4 : Int) < (y : Int) := by omega
                      by_cases hy3 : k4 + y < m
                      · have hE := hide (show snL l = .error 4 by rw [unhide HR2]; dsimp only; rw [if_neg hy1, if_neg hy2, if_pos hy3])
                        have s3 : (y : Int) < (m : Int) - (k4 : Int) := by omega
                        obtain ⟨W, y0, y1, y2, y3, y4, bW, hW⟩ := unhide DONE w9 (unhide UB8)
                        have HW := hide hW
                        have z0 := box_cell (unhide KD w9 (unhide UB8)).1 0 _ rfl
                        have z1 := box_cell (unhide KD w9 (unhide UB8)).1 1 _ rfl
                        have z2 := box_cell (unhide KD w9 (unhide UB8)).1 2 _ rfl
                        have z3 := box_cell (unhide KD w9 (unhide UB8)).1 3 _ rfl
                        have z4 := box_cell (unhide KD w9 (unhide UB8)).1 4 _ rfl
                        have f0 := mbox_free (unhide KD w9 (unhide UB8)).1 0
                        have f1 := mbox_free (unhide KD w9 (unhide UB8)).1 1
                        have f2 := mbox_free (unhide KD w9 (unhide UB8)).1 2
                        have f3 := mbox_free (unhide KD w9 (unhide UB8)).1 3
                        have f4 := mbox_free (unhide KD w9 (unhide UB8)).1 4
                        have n0 := box_cell (unhide KD w9 (unhide UB8)).2 0 _ rfl
                        have n1 := box_cell (unhide KD w9 (unhide UB8)).2 1 _ rfl
                        have n2 := box_cell (unhide KD w9 (unhide UB8)).2 2 _ rfl
                        have n3 := box_cell (unhide KD w9 (unhide UB8)).2 3 _ rfl
                        have n4 := box_cell (unhide KD w9 (unhide UB8)).2 4 _ rfl
                        have FF := hide (getR_bad (l := l) (w := w) (W := W) (x := 4) (unhide hE) (by first | exact bW | (rw [hD]; exact bW)))
                        clear hW DONE KD
                        go_wp2_with fail
                        rw [unhide HW]
                        go_wp2
                        refine bodyPost_ret (v := .tuple #[.agg #[.int .i64 0, .int .i64 0, .slice none 0 0, .slice none 0 0, .slice none 0 0], .int .i64 4]) (by simp [results, Tryz.results20, go_sem, y0, y1, y2, y3, y4]) rfl ?_
                        exact unhide FF
                      · as_aux_lemma =>
                        have s3 : ¬ (y : Int) < (m : Int) - (k4 : Int) := by omega
                        have hE := hide (show snL l = .ok ⟨m0, m1, v, r, H.drop k4⟩ by
                          rw [unhide HR2]
                          dsimp only
                          rw [if_neg hy1, if_neg hy2, if_neg hy3, List.take_of_length_le (by rw [List.length_drop, unhide HM]; omega)])
                        have hyl : y = m - k4 := by omega
                        have sl := run_slice_l8 hp m hcp k4 hk4
                        have HDB := hide (show ∀ V, Below w9.heap.size w9 V → BytesAt V (slp hp k4 hcp) (H.drop k4) from fun V u => ((unhide TB8).later u).drop k4 hcp (by rw [unhide HM]; exact (unhide HCP).1))
                        have HSN := hide (show slp hp k4 hcp = none → hcp - k4 = 0 from fun e => by
                          have : hp = none := by
                            unfold slp at e
                            split at e
                            · exact e
                            · exact Option.map_eq_none_iff.1 e
                          have := unhide HNZ this
                          omega)
                        generalize slp hp k4 hcp = ps at *
                        have LD := hide (show (H.drop k4).length = m - k4 by rw [List.length_drop, unhide HM])
                        have F := hide (show Below w9.heap.size w9 w9.drew from (Below.refl _ _).drew)
                        have KM := hide (show ∀ V, Below w9.heap.size w9 V → V.heap[MB]? = some (.cells #[.int .i64 (m0 : Int), .int .i64 (m1 : Int)] 3 (0, 0)) ∧ V.heap[E6]? = some (.cells #[.slice spA nA cA, .slice spB nB cB] 26 (0, 0)) from fun V u => ⟨later_block u (unhide MX8), later_block u (unhide X8)⟩)
                        have EM := hide hE6
                        clear HR2 hy1 hy2 hy3 hE6 hkz hz40 hy40
                        go_wp2_with fail
                        clear s1 s2 s3
                        refine wp_region_held_drew (S := fun w' => w'.cell? ⟨MB, 0, none⟩ = some (.int .i64 (m0 : Int)) ∧ w'.cell? ⟨MB, 1, none⟩ = some (.int .i64 (m1 : Int)) ∧ w'.cell? ⟨E6, 0, none⟩ = some (.slice spA nA cA) ∧ w'.cell? ⟨E6, 1, none⟩ = some (.slice spB nB cB)) (by kernel_rfl) ?_ (fun hHeld => ?_)
                        · try dsimp only
                          first | exact ⟨box_cell (unhide KM _ (unhide F)).1 0 _ rfl, box_cell (unhide KM _ (unhide F)).1 1 _ rfl, box_cell (unhide KM _ (unhide F)).2 0 _ rfl, box_cell (unhide KM _ (unhide F)).2 1 _ rfl⟩ | exact ⟨unhide G0, unhide G1, unhide G2, unhide G3⟩
                        refine held_take 0 (oi := { dst := some 120, op := Op.move (Operand.tmp 9), type := 24, pos := "ref.go:86", after := #[], guard := none }) (v := ?_) (by kernel_rfl) rfl (by rfl) (by kernel_rfl) (by kernel_rfl) (fun _ _ _ h => h) ?_ (by assumption) ?_
                        rotate_left
                        · (intro w hSw; (try dsimp only at hSw); go_simp; try with_reducible rfl)
                        try simp only [Act.put, List.setIfInBounds_toArray, List.set_cons_zero, List.set_cons_succ]
                        refine held_take 1 (oi := { dst := some 121, op := Op.indexAddr 24 (Operand.tmp 120) (Operand.const (Value.int IntKind.i64 0)), type := 0, pos := "ref.go:86", after := #[{ on := 0, ground := Ground.data }], guard := none }) (v := ?_) (by kernel_rfl) rfl (by rfl) (by kernel_rfl) (by kernel_rfl) (fun _ _ _ h => h) ?_ (by assumption) ?_
                        rotate_left
                        · (intro w hSw; (try dsimp only at hSw); go_simp; try with_reducible rfl)
                        try simp only [Act.put, List.setIfInBounds_toArray, List.set_cons_zero, List.set_cons_succ]
                        refine held_take 2 (oi := { dst := some 122, op := Op.load 3 (Operand.tmp 121), type := 3, pos := "ref.go:86", after := #[{ on := 1, ground := Ground.data }], guard := none }) (v := ?_) (by kernel_rfl) rfl (by rfl) (by kernel_rfl) (by kernel_rfl) (fun _ _ _ h => h) ?_ (by assumption) ?_
                        rotate_left
                        · (intro w hSw; (try dsimp only at hSw); go_simp; try with_reducible rfl)
                        try simp only [Act.put, List.setIfInBounds_toArray, List.set_cons_zero, List.set_cons_succ]
                        refine held_take 3 (oi := { dst := some 123, op := Op.move (Operand.tmp 9), type := 24, pos := "ref.go:86", after := #[], guard := none }) (v := ?_) (by kernel_rfl) rfl (by rfl) (by kernel_rfl) (by kernel_rfl) (fun _ _ _ h => h) ?_ (by assumption) ?_
                        rotate_left
                        · (intro w hSw; (try dsimp only at hSw); go_simp; try with_reducible rfl)
                        try simp only [Act.put, List.setIfInBounds_toArray, List.set_cons_zero, List.set_cons_succ]
                        refine held_take 4 (oi := { dst := some 124, op := Op.indexAddr 24 (Operand.tmp 123) (Operand.const (Value.int IntKind.i64 1)), type := 0, pos := "ref.go:86", after := #[{ on := 3, ground := Ground.data }], guard := none }) (v := ?_) (by kernel_rfl) rfl (by rfl) (by kernel_rfl) (by kernel_rfl) (fun _ _ _ h => h) ?_ (by assumption) ?_
                        rotate_left
                        · (intro w hSw; (try dsimp only at hSw); go_simp; try with_reducible rfl)
                        try simp only [Act.put, List.setIfInBounds_toArray, List.set_cons_zero, List.set_cons_succ]
                        refine held_take 5 (oi := { dst := some 125, op := Op.load 3 (Operand.tmp 124), type := 3, pos := "ref.go:86", after := #[{ on := 4, ground := Ground.data }], guard := none }) (v := ?_) (by kernel_rfl) rfl (by rfl) (by kernel_rfl) (by kernel_rfl) (fun _ _ _ h => h) ?_ (by assumption) ?_
                        rotate_left
                        · (intro w hSw; (try dsimp only at hSw); go_simp; try with_reducible rfl)
                        try simp only [Act.put, List.setIfInBounds_toArray, List.set_cons_zero, List.set_cons_succ]
                        refine held_take 6 (oi := { dst := some 126, op := Op.build 23 #[(0, Operand.tmp 122), (1, Operand.tmp 125)], type := 23, pos := "ref.go:86", after := #[{ on := 2, ground := Ground.data }, { on := 5, ground := Ground.data }], guard := none }) (v := ?_) (by kernel_rfl) rfl (by rfl) (by kernel_rfl) (by kernel_rfl) (fun _ _ _ h => h) ?_ (by assumption) ?_
                        rotate_left
                        · (intro w hSw; (try dsimp only at hSw); go_simp; try with_reducible rfl)
                        try simp only [Act.put, List.setIfInBounds_toArray, List.set_cons_zero, List.set_cons_succ]
                        refine held_take 7 (oi := { dst := some 127, op := Op.load 26 (Operand.tmp 15), type := 26, pos := "ref.go:86", after := #[], guard := none }) (v := ?_) (by kernel_rfl) rfl (by rfl) (by kernel_rfl) (by kernel_rfl) (fun _ _ _ h => h) ?_ (by assumption) ?_
                        rotate_left
                        · (intro w hSw; (try dsimp only at hSw); go_simp; try with_reducible rfl)
                        try simp only [Act.put, List.setIfInBounds_toArray, List.set_cons_zero, List.set_cons_succ]
                        refine held_take 9 (oi := { dst := some 129, op := Op.move (Operand.tmp 5), type := 27, pos := "ref.go:86", after := #[], guard := none }) (v := ?_) (by kernel_rfl) rfl (by rfl) (by kernel_rfl) (by kernel_rfl) (fun _ _ _ h => h) ?_ (by assumption) ?_
                        rotate_left
                        · (intro w hSw; (try dsimp only at hSw); go_simp; try with_reducible rfl)
                        try simp only [Act.put, List.setIfInBounds_toArray, List.set_cons_zero, List.set_cons_succ]
                        refine held_take 10 (oi := { dst := some 130, op := Op.move (Operand.tmp 8), type := 3, pos := "ref.go:86", after := #[], guard := none }) (v := ?_) (by kernel_rfl) rfl (by rfl) (by kernel_rfl) (by kernel_rfl) (fun _ _ _ h => h) ?_ (by assumption) ?_
                        rotate_left
                        · (intro w hSw; (try dsimp only at hSw); go_simp; try with_reducible rfl)
                        try simp only [Act.put, List.setIfInBounds_toArray, List.set_cons_zero, List.set_cons_succ]
                        refine held_take 11 (oi := { dst := some 131, op := Op.slice 27 (Operand.tmp 129) (some (Operand.tmp 130)) none none, type := 27, pos := "ref.go:86", after := #[{ on := 9, ground := Ground.data }, { on := 10, ground := Ground.data }], guard := none }) (v := ?_) (by kernel_rfl) rfl (by rfl) (by kernel_rfl) (by kernel_rfl) (fun _ _ _ h => h) ?_ (by assumption) ?_
                        rotate_left
                        · (intro w hSw; (try dsimp only at hSw); go_simp; try with_reducible rfl)
                        try simp only [Act.put, List.setIfInBounds_toArray, List.set_cons_zero, List.set_cons_succ]
                        refine wpAnyH_ready (rs := [8]) (by kernel_rfl) (by simp) ?_
                        refine AllReadyH.cons (o := { dst := some 128, op := Op.buildSlice 27 0 #[], type := 27, pos := "ref.go:86", after := #[], guard := none }) rfl (fun K hK => ?_) ?_
                        · refine step_build8 rfl rfl w9.heap.size (unhide F).size ?_
                          intro sp2 W10 ho2 hb2
                          have F := hide ((unhide F).trans (hb2.mono (unhide F).size))
                          have O2 := hide ho2
                          clear ho2 hb2
                          refine hK.out _ _ ?_ (fun hHeld => ?_)
                          · try dsimp only
                            first | exact ⟨box_cell (unhide KM _ (unhide F)).1 0 _ rfl, box_cell (unhide KM _ (unhide F)).1 1 _ rfl, box_cell (unhide KM _ (unhide F)).2 0 _ rfl, box_cell (unhide KM _ (unhide F)).2 1 _ rfl⟩ | exact ⟨unhide G0, unhide G1, unhide G2, unhide G3⟩
                          clear hK K
                          try simp only [Act.put, List.setIfInBounds_toArray, List.set_cons_zero, List.set_cons_succ]
                          refine wpAnyH_ready (rs := [12]) (by kernel_rfl) (by simp) ?_
                          refine AllReadyH.cons (o := { dst := some 132, op := Op.call { callee := Callee.builtin Builtin.append, args := #[Operand.tmp 128, Operand.tmp 131], argTypes := #[27, 27] }, type := 27, pos := "ref.go:86", after := #[{ on := 8, ground := Ground.data }, { on := 11, ground := Ground.data }], guard := none }) rfl (fun K hK => ?_) ?_
                          · refine step_append8L rfl (.tmp 128) (.tmp 131) rfl w9.heap.size sp2 0 0 [] rfl rfl (unhide O2) ps (m - k4) (hcp - k4) rfl (H.drop k4) (unhide LD) (unhide HDB _ (unhide F)) (unhide HSN) (by simp only [List.length_nil]; omega) (unhide F).size ?_
                            intro spD nD cD W11 hnD hoD hgD hlD
                            rw [List.nil_append] at hnD hoD
                            have F := hide ((unhide F).trans (Grew.below ⟨hgD, hlD⟩ (unhide O2) (unhide F).size))
                            have OD := hide hoD
                            have ND := hide (unhide hnD)
                            have UB11 := hide ((unhide UB8).trans ((unhide F).mono (unhide UB8).size))
                            obtain ⟨W, hr, gW, hW⟩ := five_sets (unhide KD _ (unhide UB11)).1 (.int .i64 (m0 : Int)) (.int .i64 (m1 : Int)) (.slice spA nA cA) (.slice spB nB cB) (.slice spD nD cD)
                            have HW := hide hW
                            have HR := hide hr
                            have GW := hide gW
                            have G0 := hide (show W.cell? ⟨MB, 0, none⟩ = some (.int .i64 (m0 : Int)) from (World.cell?_of_block (a := ⟨MB, 0, none⟩) (gW.block MB (Array.getElem?_eq_some_iff.1 (unhide KM _ (unhide F)).1).1 (fun e => by have h1 := Option.some.inj e; have h2 := unhide HDM; omega))).trans (box_cell (unhide KM _ (unhide F)).1 0 _ rfl))
                            have G1 := hide (show W.cell? ⟨MB, 1, none⟩ = some (.int .i64 (m1 : Int)) from (World.cell?_of_block (a := ⟨MB, 1, none⟩) (gW.block MB (Array.getElem?_eq_some_iff.1 (unhide KM _ (unhide F)).1).1 (fun e => by have h1 := Option.some.inj e; have h2 := unhide HDM; omega))).trans (box_cell (unhide KM _ (unhide F)).1 1 _ rfl))
                            have E6D := hide (show D < E6 from by have h1 := unhide W6S; have h2 := unhide HDM; have h3 := unhide EM; omega)
                            have G2 := hide (show W.cell? ⟨E6, 0, none⟩ = some (.slice spA nA cA) from (World.cell?_of_block (a := ⟨E6, 0, none⟩) (gW.block E6 (Array.getElem?_eq_some_iff.1 (unhide KM _ (unhide F)).2).1 (fun e => by have h1 := Option.some.inj e; have h2 := unhide E6D; omega))).trans (box_cell (unhide KM _ (unhide F)).2 0 _ rfl))
                            have G3 := hide (show W.cell? ⟨E6, 1, none⟩ = some (.slice spB nB cB) from (World.cell?_of_block (a := ⟨E6, 1, none⟩) (gW.block E6 (Array.getElem?_eq_some_iff.1 (unhide KM _ (unhide F)).2).1 (fun e => by have h1 := Option.some.inj e; have h2 := unhide E6D; omega))).trans (box_cell (unhide KM _ (unhide F)).2 1 _ rfl))
                            clear hoD hnD hgD hlD hW hr gW
                            refine hK.out _ _ ?_ (fun hHeld => ?_)
                            · try dsimp only
                              first | exact ⟨box_cell (unhide KM _ (unhide F)).1 0 _ rfl, box_cell (unhide KM _ (unhide F)).1 1 _ rfl, box_cell (unhide KM _ (unhide F)).2 0 _ rfl, box_cell (unhide KM _ (unhide F)).2 1 _ rfl⟩ | exact ⟨unhide G0, unhide G1, unhide G2, unhide G3⟩
                            clear hK K
                            try simp only [Act.put, List.setIfInBounds_toArray, List.set_cons_zero, List.set_cons_succ]
                            refine held_take 13 (oi := { dst := some 133, op := Op.build 29 #[(0, Operand.tmp 126), (1, Operand.tmp 127), (2, Operand.tmp 132)], type := 29, pos := "ref.go:86", after := #[{ on := 6, ground := Ground.data }, { on := 7, ground := Ground.data }, { on := 12, ground := Ground.data }], guard := none }) (v := ?_) (by kernel_rfl) rfl (by rfl) (by kernel_rfl) (by kernel_rfl) (fun _ _ _ h => h) ?_ (by assumption) ?_
                            rotate_left
                            · (intro w hSw; (try dsimp only at hSw); go_simp; try with_reducible rfl)
                            try simp only [Act.put, List.setIfInBounds_toArray, List.set_cons_zero, List.set_cons_succ]
                            refine wpAnyH_ready (rs := [14]) (by kernel_rfl) (by simp) ?_
                            refine AllReadyH.cons (o := { dst := none, op := Op.store 29 (Operand.tmp 2) (Operand.tmp 133), type := 0, pos := "ref.go:86", after := #[{ on := 13, ground := Ground.data }, { on := 12, ground := Ground.chain }, { on := 0, ground := Ground.phase }, { on := 1, ground := Ground.phase }, { on := 2, ground := Ground.phase }, { on := 3, ground := Ground.phase }, { on := 4, ground := Ground.phase }, { on := 5, ground := Ground.phase }, { on := 6, ground := Ground.phase }, { on := 7, ground := Ground.phase }, { on := 8, ground := Ground.phase }, { on := 9, ground := Ground.phase }, { on := 10, ground := Ground.phase }, { on := 11, ground := Ground.phase }, { on := 12, ground := Ground.phase }, { on := 13, ground := Ground.phase }], guard := none }) rfl (fun K hK => ?_) ?_
                            · have z0 := box_cell (unhide KD _ (unhide UB11)).1 0 _ rfl
                              have z1 := box_cell (unhide KD _ (unhide UB11)).1 1 _ rfl
                              have z2 := box_cell (unhide KD _ (unhide UB11)).1 2 _ rfl
                              have z3 := box_cell (unhide KD _ (unhide UB11)).1 3 _ rfl
                              have z4 := box_cell (unhide KD _ (unhide UB11)).1 4 _ rfl
                              have f0 := mbox_free (unhide KD _ (unhide UB11)).1 0
                              have f1 := mbox_free (unhide KD _ (unhide UB11)).1 1
                              have f2 := mbox_free (unhide KD _ (unhide UB11)).1 2
                              have f3 := mbox_free (unhide KD _ (unhide UB11)).1 3
                              have f4 := mbox_free (unhide KD _ (unhide UB11)).1 4
                              go_simp
                              rw [unhide HW]
                              refine hK.out _ _ ?_ (fun hHeld => ?_)
                              · try dsimp only
                                first | exact ⟨box_cell (unhide KM _ (unhide F)).1 0 _ rfl, box_cell (unhide KM _ (unhide F)).1 1 _ rfl, box_cell (unhide KM _ (unhide F)).2 0 _ rfl, box_cell (unhide KM _ (unhide F)).2 1 _ rfl⟩ | exact ⟨unhide G0, unhide G1, unhide G2, unhide G3⟩
                              clear hK K
                              try simp only [Act.put, List.setIfInBounds_toArray, List.set_cons_zero, List.set_cons_succ]
                              refine held_take 15 (oi := { dst := some 3, op := Op.assign (Operand.const (Value.int IntKind.i64 0)), type := 31, pos := "ref.go:86", after := #[{ on := 14, ground := Ground.chain }, { on := 0, ground := Ground.phase }, { on := 1, ground := Ground.phase }, { on := 2, ground := Ground.phase }, { on := 3, ground := Ground.phase }, { on := 4, ground := Ground.phase }, { on := 5, ground := Ground.phase }, { on := 6, ground := Ground.phase }, { on := 7, ground := Ground.phase }, { on := 8, ground := Ground.phase }, { on := 9, ground := Ground.phase }, { on := 10, ground := Ground.phase }, { on := 11, ground := Ground.phase }, { on := 12, ground := Ground.phase }, { on := 13, ground := Ground.phase }, { on := 14, ground := Ground.phase }], guard := none }) (v := ?_) (by kernel_rfl) rfl (by rfl) (by kernel_rfl) (by kernel_rfl) (fun _ _ _ h => h) ?_ (by assumption) ?_
                              rotate_left
                              · (intro w hSw; (try dsimp only at hSw); go_simp; try with_reducible rfl)
                              try simp only [Act.put, List.setIfInBounds_toArray, List.set_cons_zero, List.set_cons_succ]
                              refine wpAnyH_done (by kernel_rfl) ?_ _
                              have y0 := box_cell (unhide HR) 0 _ rfl
                              have y1 := box_cell (unhide HR) 1 _ rfl
                              have y2 := box_cell (unhide HR) 2 _ rfl
                              have y3 := box_cell (unhide HR) 3 _ rfl
                              have y4 := box_cell (unhide HR) 4 _ rfl
                              have FF := hide (show GetR l w (.returned (.tuple #[.agg #[.int .i64 (m0 : Int), .int .i64 (m1 : Int), .slice spA nA cA, .slice spB nB cB, .slice spD nD cD], .int .i64 0])) W from by
                                unfold GetR
                                rw [unhide hE]
                                dsimp only [snOf, snX]
                                have oa := (((unhide OA8).later (unhide F)).far (unhide GW) (by have := unhide E6D; have := unhide W6S; have := unhide HDM; omega))
                                have ob := (((unhide OB8).later (unhide F)).far (unhide GW) (by have := unhide E6D; have := unhide W6S; have := unhide HDM; omega))
                                have hw9 := (Array.getElem?_eq_some_iff.1 (unhide X8)).1
                                have od := (unhide OD).bytes.far (unhide GW) (fun b off e => by
                                  have h1 := (unhide OD).adr ⟨b, off, none⟩ e
                                  have h2 := unhide E6D
                                  have h3 : w9.heap.size ≤ b := h1
                                  omega)
                                have hm := unhide M40
                                have hU : Below D w W := below_grown ((unhide B2).trans ((unhide UB11).mono (by have := unhide SZ; omega))) (unhide GW) (Nat.le_refl _) (by have h1 := (unhide UB11).size; have h2 := unhide SZ; omega)
                                refine ⟨⟨spA, cA, spB, cB, spD, cD⟩, ?_, ⟨by dsimp only; omega, by dsimp only; omega, oa.ints, ob.ints, od, Nat.le_trans oa.cap.1 oa.cap.2, Nat.le_trans ob.cap.1 ob.cap.2, (unhide OD).cap.1, (unhide OD).cap.2, (unhide OD).nil0⟩, (by first | exact hU | (rw [hD]; exact hU)), (fun ad e => by
                                  have q1 := unhide W6S
                                  have q2 := unhide HDM
                                  have q3 := unhide E6D
                                  have q4 := hw9
                                  rcases e with e | e | e
                                  · have := oa.adr ad e; omega
                                  · have := ob.adr ad e; omega
                                  · have := (unhide OD).adr ad e; omega)⟩
                                unfold snRow
                                dsimp only
                                rw [unhide NA, unhide NB, unhide ND]
                                rfl)
                              clear KD DONE KM KB BY
                              go_wp2
                              refine bodyPost_ret (v := .tuple #[.agg #[.int .i64 (m0 : Int), .int .i64 (m1 : Int), .slice spA nA cA, .slice spB nB cB, .slice spD nD cD], .int .i64 0]) (by simp [results, Tryz.results20, go_sem, y0, y1, y2, y3, y4]) rfl ?_
                              exact unhide FF
                            exact AllReadyH.nil
                          exact AllReadyH.nil
                        exact AllReadyH.nil
end Go.Proofs.YtagncghpfdjkmaaGreatDoor
