/- Snapshots: what a piece says (written by wip/mksrp.py). -/
import Derived.Test.YtagncghpfdjkmaaGreatDoorB27
import Derived.Test.YtagncghpfdjkmaaGreatDoorB15
import Derived.Test.YtagncghpfdjkmaaGreatDoorB08
import Derived.Deep.Slices
import Derived.Test.YtagncghpfdjkmaaGreatDoorB16
import Derived.Test.YtagncghpfdjkmaaGreatDoorB25
import Derived.Test.YtagncghpfdjkmaaGreatDoorB01
import Derived.Test.YtagncghpfdjkmaaGreatDoorB18
import Derived.Test.YtagncghpfdjkmaaGreatDoorB11
section
namespace Go.Proofs.YtagncghpfdjkmaaGreatDoor
open Go.ChangeShapes Go.WideShapes Go.ChangeAt Go.RowKit
set_option linter.unusedVariables false

theorem three_sets {u : World} {j : Nat} {x0 x1 x2 : Value} {T : TypeId} (h : u.heap[j]? = some (.cells #[x0, x1, x2] T (0, 0))) (a0 a1 a2 : Value) : ∃ W, W.heap[j]? = some (.cells #[a0, a1, a2] T (0, 0)) ∧ u.grownBy W (some j) ∧
    ((u.setCell ⟨j, 0, none⟩ a0).setCell ⟨j, 1, none⟩ a1).setCell ⟨j, 2, none⟩ a2 = W := by
  have h1 := heap_setCell_same u j 0 _ T a0 h
  have h2 := heap_setCell_same _ j 1 _ T a1 h1
  have h3 := heap_setCell_same _ j 2 _ T a2 h2
  exact ⟨_, h3, grown_trans (grown_trans (grown_set u j 0 a0) (grown_set _ j 1 a1)) (grown_set _ j 2 a2), rfl⟩
/-- How readPiece ends. -/
def rpRow (a : Option Addr) (n c : Nat) (r : Except Nat (Nat × Nat × Nat)) : Array Value := match r with
  | .error _ => #[.int .i64 0, .int .i64 0, .slice none 0 0]
  | .ok (t, pl, k) => #[.int .i64 (t : Int), .int .i64 (pl : Int), .slice (slp a k c) (n - k) (c - k)]
def rpX (r : Except Nat (Nat × Nat × Nat)) : Nat := match r with
  | .error x => x
  | .ok _ => 0
def RpEnd (p : List Nat) (a : Option Addr) (n c : Nat) (w : World) (e : Ending) (w' : World) : Prop := e = .returned (.tuple #[.agg (rpRow a n c (rdP p)), .int .i64 (rpX (rdP p) : Int)]) ∧ Below w.heap.size w w'
theorem rp_bad {p : List Nat} {a : Option Addr} {n c : Nat} {w W : World} {x : Nat} (h : rdP p = .error x) (u : Below w.heap.size w W) : RpEnd p a n c w (.returned (.tuple #[.agg #[.int .i64 0, .int .i64 0, .slice none 0 0], .int .i64 (x : Int)])) W := by
  unfold RpEnd
  rw [h]
  exact ⟨rfl, u⟩
theorem rp_ok {p : List Nat} {a : Option Addr} {n c t pl k : Nat} {w W : World} (h : rdP p = .ok (t, pl, k)) (u : Below w.heap.size w W) : RpEnd p a n c w (.returned (.tuple #[.agg #[.int .i64 (t : Int), .int .i64 (pl : Int), .slice (slp a k c) (n - k) (c - k)], .int .i64 0])) W := by
  unfold RpEnd
  rw [h]
  exact ⟨rfl, u⟩
set_option maxRecDepth 20000 in
set_option maxHeartbeats 8000000 in
theorem readPiece_calls (a : Option Addr) (n c : Nat) (p : List Nat) (w : World) (hn : p.length = n) (hc : n ≤ c) (hx : n ≤ 140737488355328) (hb : BytesAt w a p) : Calls Tryz.prog 94 #[.slice a n c] w (RpEnd p a n c w) := by
  have X1 := hide (heap_new w (.cells #[.int .i64 0, .int .i64 0, .slice none 0 0] 143))
  have B1 := hide (show Below w.heap.size w (w.alloc (.cells #[.int .i64 0, .int .i64 0, .slice none 0 0] 143)) from (Below.refl _ _).alloc (Nat.le_refl _) _)
  have HB := hide (hb.later (unhide B1))
  have HN := hide hn
  have HL := hide hb.lt
  clear hb hn
  go_enter Tryz.func94, Tryz.ntmps94
  go_wp2_with fail
  have SZ := hide (show (w.alloc (.cells #[.int .i64 0, .int .i64 0, .slice none 0 0] 143)).heap.size = w.heap.size + 1 by simp)
  generalize w.alloc (.cells #[.int .i64 0, .int .i64 0, .slice none 0 0] 143) = W1 at *
  have KD := hide (show ∀ V, Below W1.heap.size W1 V → V.heap[w.heap.size]? = some (.cells #[.int .i64 0, .int .i64 0, .slice none 0 0] 143 (0, 0)) from fun V u => later_block u (unhide X1))
  have DONE := hide (show ∀ u, Below W1.heap.size W1 u → ∃ W, W.cell? ⟨w.heap.size, 0, none⟩ = some (.int .i64 0) ∧ W.cell? ⟨w.heap.size, 1, none⟩ = some (.int .i64 0) ∧ W.cell? ⟨w.heap.size, 2, none⟩ = some (.slice none 0 0) ∧ Below w.heap.size w W ∧
      ((u.setCell ⟨w.heap.size, 0, none⟩ (.int .i64 0)).setCell ⟨w.heap.size, 1, none⟩ (.int .i64 0)).setCell ⟨w.heap.size, 2, none⟩ (.slice none 0 0) = W from fun u F => by
    obtain ⟨W, hr, gW, hW⟩ := three_sets (unhide KD u F) (.int .i64 0) (.int .i64 0) (.slice none 0 0)
    have hU : Below w.heap.size w u := (unhide B1).trans (F.mono (unhide B1).size)
    exact ⟨W, box_cell hr 0 _ rfl, box_cell hr 1 _ rfl, box_cell hr 2 _ rfl, below_grown hU gW (Nat.le_refl _) hU.size, hW⟩)
  clear X1
  go_at_call 124
  cases ht : takeE p 0 with
  | error x =>
    have hx0 := takeE_pos ht
    have hE := hide (show rdP p = .error x by unfold rdP; rw [ht])
    refine (show Calls Tryz.prog 124 #[.slice a n c, .int .i64 0] W1 _ from takeNum_bad a n c p 0 x W1 (unhide HN) (by simp only [maxLen]; omega) (by omega) (unhide HB) ht).mono ?_
    rintro e V1 ⟨rfl, v1⟩
    have U1 := hide v1
    clear v1 ht
    obtain ⟨W, r0, r1, r2, bW, hW⟩ := unhide DONE V1 (unhide U1)
    have HW := hide hW
    have z0 := box_cell (unhide KD V1 (unhide U1)) 0 _ rfl
    have z1 := box_cell (unhide KD V1 (unhide U1)) 1 _ rfl
    have z2 := box_cell (unhide KD V1 (unhide U1)) 2 _ rfl
    have f0 := mbox_free (unhide KD V1 (unhide U1)) 0
    have f1 := mbox_free (unhide KD V1 (unhide U1)) 1
    have f2 := mbox_free (unhide KD V1 (unhide U1)) 2
    have FF := hide (show RpEnd p a n c w (.returned (.tuple #[.agg #[.int .i64 0, .int .i64 0, .slice none 0 0], .int .i64 ((x : Nat) : Int)])) W from rp_bad (unhide hE) bW)
    have x1 : ¬ ((x : Nat) : Int) = 0 := by omega
    have x2 : (((x : Nat) : Int) == 0) = false := by simp; omega
    generalize ((x : Nat) : Int) = xi at *
    clear hW DONE KD
    go_wp2_with fail
    rw [unhide HW]
    go_wp2
    refine bodyPost_ret (v := .tuple #[.agg #[.int .i64 0, .int .i64 0, .slice none 0 0], .int .i64 xi]) (by simp [results, Tryz.results94, go_sem, r0, r1, r2]) rfl ?_
    exact unhide FF
  | ok r =>
    obtain ⟨t, k1⟩ := r
    have hle := takeE_leb ht (unhide HL)
    refine (show Calls Tryz.prog 124 #[.slice a n c, .int .i64 0] W1 _ from takeNum_ok a n c p 0 t k1 W1 (unhide HN) (by simp only [maxLen]; omega) (by omega) (unhide HB) ht).mono ?_
    rintro e V1 ⟨rfl, v1⟩
    have U1 := hide v1
    have HB1 := hide ((unhide HB).later v1)
    have hk1 : k1 ≤ n := by rw [← unhide HN]; exact hle.1
    have ht40 := hle.2
    clear v1 hle
    go_wp2_with fail
    go_at_call 124
    cases ht2 : takeE p k1 with
    | error x =>
      have hx0 := takeE_pos ht2
      have hE := hide (show rdP p = .error x by unfold rdP; rw [ht]; dsimp only; rw [ht2])
      refine (takeNum_bad a n c p k1 x V1 (unhide HN) (by simp only [maxLen]; omega) (by rw [unhide HN]; exact hk1) (unhide HB1) ht2).mono ?_
      rintro e V2 ⟨rfl, v2⟩
      have U2 := hide ((unhide U1).trans (v2.mono (unhide U1).size))
      clear v2 ht ht2
      obtain ⟨W, r0, r1, r2, bW, hW⟩ := unhide DONE V2 (unhide U2)
      have HW := hide hW
      have z0 := box_cell (unhide KD V2 (unhide U2)) 0 _ rfl
      have z1 := box_cell (unhide KD V2 (unhide U2)) 1 _ rfl
      have z2 := box_cell (unhide KD V2 (unhide U2)) 2 _ rfl
      have f0 := mbox_free (unhide KD V2 (unhide U2)) 0
      have f1 := mbox_free (unhide KD V2 (unhide U2)) 1
      have f2 := mbox_free (unhide KD V2 (unhide U2)) 2
      have FF := hide (show RpEnd p a n c w (.returned (.tuple #[.agg #[.int .i64 0, .int .i64 0, .slice none 0 0], .int .i64 ((x : Nat) : Int)])) W from rp_bad (unhide hE) bW)
      have x1 : ¬ ((x : Nat) : Int) = 0 := by omega
      have x2 : (((x : Nat) : Int) == 0) = false := by simp; omega
      generalize ((x : Nat) : Int) = xi at *
      clear hW DONE KD
      go_wp2_with fail
      rw [unhide HW]
      go_wp2
      refine bodyPost_ret (v := .tuple #[.agg #[.int .i64 0, .int .i64 0, .slice none 0 0], .int .i64 xi]) (by simp [results, Tryz.results94, go_sem, r0, r1, r2]) rfl ?_
      exact unhide FF
    | ok r2 =>
      obtain ⟨pl, k2⟩ := r2
      have hle := takeE_leb ht2 (unhide HL)
      refine (takeNum_ok a n c p k1 pl k2 V1 (unhide HN) (by simp only [maxLen]; omega) (by rw [unhide HN]; exact hk1) (unhide HB1) ht2).mono ?_
      rintro e V2 ⟨rfl, v2⟩
      have U2 := hide ((unhide U1).trans (v2.mono (unhide U1).size))
      have hk2 : k2 ≤ n := by rw [← unhide HN]; exact hle.1
      have hp40 := hle.2
      have HR := hide (show rdP p = (if 32768 < t then .error 6 else if t < pl + (n - k2) ∨ (n - k2 = 0 ∧ 0 < t) then .error 4 else .ok (t, pl, k2)) by unfold rdP; rw [ht]; dsimp only; rw [ht2, ← unhide HN])
      clear v2 hle ht ht2
      by_cases h6 : 32768 < t
      · have h6' : (32768 : Int) < (t : Int) := by omega
        have hE := hide (show rdP p = .error 6 by rw [unhide HR, if_pos h6])
        obtain ⟨W, r0, r1, r2, bW, hW⟩ := unhide DONE V2 (unhide U2)
        have HW := hide hW
        have z0 := box_cell (unhide KD V2 (unhide U2)) 0 _ rfl
        have z1 := box_cell (unhide KD V2 (unhide U2)) 1 _ rfl
        have z2 := box_cell (unhide KD V2 (unhide U2)) 2 _ rfl
        have f0 := mbox_free (unhide KD V2 (unhide U2)) 0
        have f1 := mbox_free (unhide KD V2 (unhide U2)) 1
        have f2 := mbox_free (unhide KD V2 (unhide U2)) 2
        have FF := hide (show RpEnd p a n c w (.returned (.tuple #[.agg #[.int .i64 0, .int .i64 0, .slice none 0 0], .int .i64 6])) W from rp_bad (x := 6) (unhide hE) bW)
        clear hW DONE KD
        go_wp2_with fail
        rw [unhide HW]
        go_wp2
        refine bodyPost_ret (v := .tuple #[.agg #[.int .i64 0, .int .i64 0, .slice none 0 0], .int .i64 6]) (by simp [results, Tryz.results94, go_sem, r0, r1, r2]) rfl ?_
        exact unhide FF
      · have h6' : ¬ (32768 : Int) < (t : Int) := by omega
        have hsl := run_slice_l8 a n c k2 hk2
        have RE := hide (show ∀ W, rdP p = .ok (t, pl, k2) → Below w.heap.size w W → RpEnd p a n c w (.returned (.tuple #[.agg #[.int .i64 (t : Int), .int .i64 (pl : Int), .slice (slp a k2 c) (n - k2) (c - k2)], .int .i64 0])) W from fun W h u => rp_ok h u)
        have HR2 := hide (show rdP p = (if t < pl + (n - k2) ∨ (n - k2 = 0 ∧ 0 < t) then .error 4 else .ok (t, pl, k2)) by rw [unhide HR, if_neg h6])
        clear HR
        generalize slp a k2 c = ps at *
        have hmb : n - k2 ≤ 140737488355328 := by omega
        generalize n - k2 = m at *
        generalize c - k2 = cs at *
        have A8 := hide (show Below V2.heap.size V2 (V2.alloc (.cells #[.int .i64 (t : Int), .int .i64 (pl : Int), .slice ps m cs] 143)) from (Below.refl _ _).alloc (Nat.le_refl _) _)
        have X8 := hide (heap_new V2 (.cells #[.int .i64 (t : Int), .int .i64 (pl : Int), .slice ps m cs] 143))
        have U8 := hide ((unhide U2).trans ((unhide A8).mono (unhide U2).size))
        have c2 := box_cell (unhide X8) 2 _ rfl
        have qw : IntKind.i64.wrap ((t : Int) - (m : Int)) = (t : Int) - (m : Int) := by rw [IntKind.wrap_i64]; omega
        by_cases hy : t < pl + m
        · as_aux_lemma =>
          have y1 : (t : Int) - (m : Int) < (pl : Int) := by omega
          have hE := hide (show rdP p = .error 4 by rw [unhide HR2, if_pos (.inl hy)])
          obtain ⟨W, r0, r1, r2, bW, hW⟩ := unhide DONE (V2.alloc (.cells #[.int .i64 (t : Int), .int .i64 (pl : Int), .slice ps m cs] 143)) (unhide U8)
          have HW := hide hW
          have z0 := box_cell (unhide KD (V2.alloc (.cells #[.int .i64 (t : Int), .int .i64 (pl : Int), .slice ps m cs] 143)) (unhide U8)) 0 _ rfl
          have z1 := box_cell (unhide KD (V2.alloc (.cells #[.int .i64 (t : Int), .int .i64 (pl : Int), .slice ps m cs] 143)) (unhide U8)) 1 _ rfl
          have z2 := box_cell (unhide KD (V2.alloc (.cells #[.int .i64 (t : Int), .int .i64 (pl : Int), .slice ps m cs] 143)) (unhide U8)) 2 _ rfl
          have f0 := mbox_free (unhide KD (V2.alloc (.cells #[.int .i64 (t : Int), .int .i64 (pl : Int), .slice ps m cs] 143)) (unhide U8)) 0
          have f1 := mbox_free (unhide KD (V2.alloc (.cells #[.int .i64 (t : Int), .int .i64 (pl : Int), .slice ps m cs] 143)) (unhide U8)) 1
          have f2 := mbox_free (unhide KD (V2.alloc (.cells #[.int .i64 (t : Int), .int .i64 (pl : Int), .slice ps m cs] 143)) (unhide U8)) 2
          have FF := hide (show RpEnd p a n c w (.returned (.tuple #[.agg #[.int .i64 0, .int .i64 0, .slice none 0 0], .int .i64 4])) W from rp_bad (x := 4) (unhide hE) bW)
          clear hW DONE KD
          go_wp2_with fail
          rw [unhide HW]
          go_wp2
          refine bodyPost_ret (v := .tuple #[.agg #[.int .i64 0, .int .i64 0, .slice none 0 0], .int .i64 4]) (by simp [results, Tryz.results94, go_sem, r0, r1, r2]) rfl ?_
          exact unhide FF
        · have y1 : ¬ (t : Int) - (m : Int) < (pl : Int) := by omega
          by_cases hm0 : m = 0
          · by_cases ht0 : 0 < t
            · as_aux_lemma =>
              have y2 : (m : Int) = 0 := by omega
              have y3 : ((m : Int) == 0) = true := by simp; omega
              have y4 : (0 : Int) < (t : Int) := by omega
              have hE := hide (show rdP p = .error 4 by rw [unhide HR2, if_pos (.inr ⟨hm0, ht0⟩)])
              clear y2 hm0 hy hmb ht0
              obtain ⟨W, r0, r1, r2, bW, hW⟩ := unhide DONE (V2.alloc (.cells #[.int .i64 (t : Int), .int .i64 (pl : Int), .slice ps m cs] 143)) (unhide U8)
              have HW := hide hW
              have z0 := box_cell (unhide KD (V2.alloc (.cells #[.int .i64 (t : Int), .int .i64 (pl : Int), .slice ps m cs] 143)) (unhide U8)) 0 _ rfl
              have z1 := box_cell (unhide KD (V2.alloc (.cells #[.int .i64 (t : Int), .int .i64 (pl : Int), .slice ps m cs] 143)) (unhide U8)) 1 _ rfl
              have z2 := box_cell (unhide KD (V2.alloc (.cells #[.int .i64 (t : Int), .int .i64 (pl : Int), .slice ps m cs] 143)) (unhide U8)) 2 _ rfl
              have f0 := mbox_free (unhide KD (V2.alloc (.cells #[.int .i64 (t : Int), .int .i64 (pl : Int), .slice ps m cs] 143)) (unhide U8)) 0
              have f1 := mbox_free (unhide KD (V2.alloc (.cells #[.int .i64 (t : Int), .int .i64 (pl : Int), .slice ps m cs] 143)) (unhide U8)) 1
              have f2 := mbox_free (unhide KD (V2.alloc (.cells #[.int .i64 (t : Int), .int .i64 (pl : Int), .slice ps m cs] 143)) (unhide U8)) 2
              have FF := hide (show RpEnd p a n c w (.returned (.tuple #[.agg #[.int .i64 0, .int .i64 0, .slice none 0 0], .int .i64 4])) W from rp_bad (x := 4) (unhide hE) bW)
              clear hW DONE KD
              go_wp2_with fail
              rw [unhide HW]
              go_wp2
              refine bodyPost_ret (v := .tuple #[.agg #[.int .i64 0, .int .i64 0, .slice none 0 0], .int .i64 4]) (by simp [results, Tryz.results94, go_sem, r0, r1, r2]) rfl ?_
              exact unhide FF
            · as_aux_lemma =>
              have y3 : ((m : Int) == 0) = true := by simp; omega
              have y4 : ¬ (0 : Int) < (t : Int) := by omega
              have hE := hide (show rdP p = .ok (t, pl, k2) by rw [unhide HR2, if_neg (by omega)])
              clear hm0 ht0 hmb hy
              obtain ⟨W, hr, gW, hW⟩ := three_sets (unhide KD (V2.alloc (.cells #[.int .i64 (t : Int), .int .i64 (pl : Int), .slice ps m cs] 143)) (unhide U8)) (.int .i64 (t : Int)) (.int .i64 (pl : Int)) (.slice ps m cs)
              have HW := hide hW
              have y0' := box_cell hr 0 _ rfl
              have y1' := box_cell hr 1 _ rfl
              have y2' := box_cell hr 2 _ rfl
              have z0 := box_cell (unhide KD (V2.alloc (.cells #[.int .i64 (t : Int), .int .i64 (pl : Int), .slice ps m cs] 143)) (unhide U8)) 0 _ rfl
              have z1 := box_cell (unhide KD (V2.alloc (.cells #[.int .i64 (t : Int), .int .i64 (pl : Int), .slice ps m cs] 143)) (unhide U8)) 1 _ rfl
              have z2 := box_cell (unhide KD (V2.alloc (.cells #[.int .i64 (t : Int), .int .i64 (pl : Int), .slice ps m cs] 143)) (unhide U8)) 2 _ rfl
              have f0 := mbox_free (unhide KD (V2.alloc (.cells #[.int .i64 (t : Int), .int .i64 (pl : Int), .slice ps m cs] 143)) (unhide U8)) 0
              have f1 := mbox_free (unhide KD (V2.alloc (.cells #[.int .i64 (t : Int), .int .i64 (pl : Int), .slice ps m cs] 143)) (unhide U8)) 1
              have f2 := mbox_free (unhide KD (V2.alloc (.cells #[.int .i64 (t : Int), .int .i64 (pl : Int), .slice ps m cs] 143)) (unhide U8)) 2
              have c0 := box_cell (unhide X8) 0 _ rfl
              have c1 := box_cell (unhide X8) 1 _ rfl
              have hU : Below w.heap.size w (V2.alloc (.cells #[.int .i64 (t : Int), .int .i64 (pl : Int), .slice ps m cs] 143)) := (unhide B1).trans ((unhide U8).mono (unhide B1).size)
              have FF := hide (unhide RE W (unhide hE) (below_grown hU gW (Nat.le_refl _) hU.size))
              clear hW hr gW hU DONE KD RE
              go_wp2_with fail
              rw [unhide HW]
              go_wp2
              refine bodyPost_ret (v := .tuple #[.agg #[.int .i64 (t : Int), .int .i64 (pl : Int), .slice ps m cs], .int .i64 0]) (by simp [results, Tryz.results94, go_sem, y0', y1', y2']) rfl ?_
              exact unhide FF
          · as_aux_lemma =>
            have y2 : ¬ (m : Int) = 0 := by omega
            have y3 : ((m : Int) == 0) = false := by simp; omega
            have hE := hide (show rdP p = .ok (t, pl, k2) by rw [unhide HR2, if_neg (by omega)])
            obtain ⟨W, hr, gW, hW⟩ := three_sets (unhide KD (V2.alloc (.cells #[.int .i64 (t : Int), .int .i64 (pl : Int), .slice ps m cs] 143)) (unhide U8)) (.int .i64 (t : Int)) (.int .i64 (pl : Int)) (.slice ps m cs)
            have HW := hide hW
            have y0' := box_cell hr 0 _ rfl
            have y1' := box_cell hr 1 _ rfl
            have y2' := box_cell hr 2 _ rfl
            have z0 := box_cell (unhide KD (V2.alloc (.cells #[.int .i64 (t : Int), .int .i64 (pl : Int), .slice ps m cs] 143)) (unhide U8)) 0 _ rfl
            have z1 := box_cell (unhide KD (V2.alloc (.cells #[.int .i64 (t : Int), .int .i64 (pl : Int), .slice ps m cs] 143)) (unhide U8)) 1 _ rfl
            have z2 := box_cell (unhide KD (V2.alloc (.cells #[.int .i64 (t : Int), .int .i64 (pl : Int), .slice ps m cs] 143)) (unhide U8)) 2 _ rfl
            have f0 := mbox_free (unhide KD (V2.alloc (.cells #[.int .i64 (t : Int), .int .i64 (pl : Int), .slice ps m cs] 143)) (unhide U8)) 0
            have f1 := mbox_free (unhide KD (V2.alloc (.cells #[.int .i64 (t : Int), .int .i64 (pl : Int), .slice ps m cs] 143)) (unhide U8)) 1
            have f2 := mbox_free (unhide KD (V2.alloc (.cells #[.int .i64 (t : Int), .int .i64 (pl : Int), .slice ps m cs] 143)) (unhide U8)) 2
            have c0 := box_cell (unhide X8) 0 _ rfl
            have c1 := box_cell (unhide X8) 1 _ rfl
            have hU : Below w.heap.size w (V2.alloc (.cells #[.int .i64 (t : Int), .int .i64 (pl : Int), .slice ps m cs] 143)) := (unhide B1).trans ((unhide U8).mono (unhide B1).size)
            have FF := hide (unhide RE W (unhide hE) (below_grown hU gW (Nat.le_refl _) hU.size))
            clear hW hr gW hU DONE KD RE
            go_wp2_with fail
            rw [unhide HW]
            go_wp2
            refine bodyPost_ret (v := .tuple #[.agg #[.int .i64 (t : Int), .int .i64 (pl : Int), .slice ps m cs], .int .i64 0]) (by simp [results, Tryz.results94, go_sem, y0', y1', y2']) rfl ?_
            exact unhide FF
end Go.Proofs.YtagncghpfdjkmaaGreatDoor
end
/- A snapshot that came in, opened, with what its rows may weigh (open_snapS). -/
section
namespace Go.Proofs.YtagncghpfdjkmaaGreatDoor
open Go.ChangeShapes Go.WideShapes Go.ChangeAt Go.RowKit
set_option linter.unusedVariables false

/-- What its rows may weigh. -/
structure SnS (s : Sn) (h : SnH) : Prop where
  v : s.v.length * 8 ≤ 140737488351232
  l : s.l.length * 8 ≤ 140737488351232
  d : h.dc ≤ 140737488355328
  vz : h.va = none → h.vc = 0
  lz : h.la = none → h.lc = 0
end Go.Proofs.YtagncghpfdjkmaaGreatDoor
end
/- The document's Get. -/
section
namespace Go.Proofs.YtagncghpfdjkmaaGreatDoor
open Go.ChangeShapes Go.WideShapes Go.ChangeAt Go.RowKit

/-- How far the two lists are read. -/
def SpecQ (l : List Nat) (q p : Nat) (v r : List Int) : Prop :=
  (q = 0 ∧ p = 0 ∧ v = [] ∧ r = []) ∨ (q = 1 ∧ listE l 0 = .ok (v, p) ∧ r = []) ∨ (q = 2 ∧ ∃ k, listE l 0 = .ok (v, k) ∧ listE l k = .ok (r, p))
section
variable {w : World} {a : Option Addr} {c : Nat} {l : List Nat}
end
end Go.Proofs.YtagncghpfdjkmaaGreatDoor
end
/- The contract of tollgateref01.Next: what a frame at a place holds, or the error. -/
section
namespace Go.Proofs.YtagncghpfdjkmaaGreatDoor
open Go.ChangeShapes Go.WideShapes Go.ChangeAt Go.RowKit

end Go.Proofs.YtagncghpfdjkmaaGreatDoor
end
/- Snapshots: the document's Get (written by wip/mksgr.py). -/
section
namespace Go.Proofs.YtagncghpfdjkmaaGreatDoor
open Go.ChangeShapes Go.WideShapes Go.ChangeAt Go.RowKit
set_option linter.unusedVariables false

/-- How the document's Get ends. -/
def GetR (l : List Nat) (w : World) (en : Ending) (w' : World) : Prop := ∃ h, en = .returned (.tuple #[.agg (snRow (snOf (snL l)) h), .int .i64 (snX (snL l) : Int)]) ∧ SnAt w' (snOf (snL l)) h ∧ Below w.heap.size w w'
theorem OwnB.adr {base : Nat} {V : World} {sp : Option Addr} {cc : Nat} {l : List Nat} (x : OwnB base V sp cc l) : ∀ ad, sp = some ad → base ≤ ad.block := by
  intro ad e
  rcases x.owns.2 with ⟨hv, _⟩ | ⟨g, cap, cur, hv, hb, _⟩
  · simp only [Value.slice.injEq] at hv
    rw [e] at hv
    cases hv.1
  · simp only [Value.slice.injEq] at hv
    rw [e] at hv
    have := Option.some.inj hv.1
    rw [this]
    exact hb
/-- How far the numbers are read. -/
def SpecM (H : List Nat) (q k m0 m1 : Nat) : Prop := (q = 0 ∧ k = 0) ∨ (q = 1 ∧ takeE H 0 = .ok (m0, k) ∧ m0 ≠ 0) ∨ (q = 2 ∧ ∃ k1, takeE H 0 = .ok (m0, k1) ∧ m0 ≠ 0 ∧ takeE H k1 = .ok (m1, k) ∧ m1 ≠ 0)
/-- What is read behind both. -/
def snR (H : List Nat) (i t k2 : Nat) : Except Nat Sn := match takeE H k2 with
      | .error x => .error x
      | .ok (n, k3) => if H.length - k3 < n then .error 3 else match getE ((H.drop k3).take n) with
        | .error x => .error x
        | .ok (v, l) => match takeE H (k3 + n) with
          | .error x => .error x
          | .ok (z, k4) => if 16384 < z then .error 6 else if H.length - k4 < z then .error 3 else if k4 + z < H.length then .error 4 else .ok ⟨i, t, v, l, (H.drop k4).take z⟩
end Go.Proofs.YtagncghpfdjkmaaGreatDoor
end
/- Snapshots: the document's Copy. -/
section
namespace Go.Proofs.YtagncghpfdjkmaaGreatDoor
open Go.ChangeShapes Go.WideShapes Go.ChangeAt Go.RowKit
set_option linter.unusedVariables false

theorem blk_adr {sp : Option Addr} {g : Nat} (h : blk sp = some g) : ∃ ad, sp = some ad ∧ ad.block = g := by
  cases sp with
  | none => cases h
  | some ad => exact ⟨ad, rfl, Option.some.inj h⟩
theorem OwnB.blkLt {base : Nat} {V : World} {sp : Option Addr} {cc : Nat} {l : List Nat} (x : OwnB base V sp cc l) : ∀ g, blk sp = some g → g < V.heap.size := by
  intro g e
  obtain ⟨ad, rfl, rfl⟩ := blk_adr e
  rcases x.owns.2 with ⟨hv, _⟩ | ⟨g, cap, cur, hv, hb, hh, _⟩
  · simp only [Value.slice.injEq] at hv
    cases hv.1
  · simp only [Value.slice.injEq] at hv
    rw [Option.some.inj hv.1]
    exact (Array.getElem?_eq_some_iff.1 hh).1
end Go.Proofs.YtagncghpfdjkmaaGreatDoor
end
