/- Flight, the document's answer: Take, Now, Tick. -/
import Derived.Test.YticemhnfcelpmaaRf3
import Derived.Test.YticemhnfcelpmaaFl6
namespace Go.Proofs.Yticemhnfcelpmaa
open Go.ChangeShapes Go.WideShapes Go.ChangeAt Go.RowKit

section
variable {base : Nat} {w : World} {R : Nat} {sp : Option Addr} {c : Nat} {zs : List SPk} {pa : List Bool} {ck : List Int}
set_option maxHeartbeats 1000000 in
theorem refTake_no (h : RefAt base w R sp c zs pa ck) (hz : zs.length ≤ 1000) (i : Int) (hi : hasP (alive zs) i = false) : Calls Try.prog 31 #[.pointer (some ⟨R, 0, none⟩), .int .i64 i] w fun e w' => e = .returned (.tuple #[.agg #[.int .i64 0, .int .i64 0, .int .i64 0, .slice none 0 0], .int .i64 8]) ∧ Below w.heap.size w w' := by
  have h0 := heap_new w zPk
  have z0 := box_cell h0 0 _ rfl
  have z1 := box_cell h0 1 _ rfl
  have z2 := box_cell h0 2 _ rfl
  have z3 := box_cell h0 3 _ rfl
  have fz := box_free h0
  have bA := hide (show Below w.heap.size w (w.alloc zPk) from (Below.refl _ _).alloc (Nat.le_refl _) _)
  have H := hide (h.later (unhide bA))
  clear h0 h
  go_enter Try.func31, Try.ntmps31
  go_wp2_with fail
  refine (place_calls (unhide H) hz i).mono ?_
  rintro e W1 ⟨rfl, ⟨j, hj, _, hg, hm⟩ | ⟨rfl, _⟩⟩
  · have hl := alive_take j hj
    rw [hg] at hl
    have : (alive (zs.take j)).length < (alive zs).length := by
      have e1 : zs = zs.take (j + 1) ++ zs.drop (j + 1) := (List.take_append_drop _ _).symm
      have e2 : (alive zs).length = (alive (zs.take (j + 1))).length + (alive (zs.drop (j + 1))).length := by
        conv => lhs; rw [e1]
        unfold alive
        rw [List.filter_append, List.map_append, List.length_append]
      rw [e2, hl, List.length_append]
      simp
      omega
    simp only [hasP, Bool.and_eq_false_iff, decide_eq_false_iff_not] at hi
    omega
  · go_wp2
    refine bodyPost_ret (v := .tuple #[.agg #[.int .i64 0, .int .i64 0, .int .i64 0, .slice none 0 0], .int .i64 8]) (by simp [results, Try.results31, go_sem, z0, z1, z2, z3]) rfl ?_
    exact ⟨rfl, unhide bA⟩
/-- A block that is none of the document's net. -/
theorem ref_apart {w' : World} {j : Nat} (h : RefAt base w R sp c zs pa ck) (hg : w.grownBy w' (some j)) (h1 : R ≠ j) (h3 : blk sp ≠ some j) (h4 : ∀ z ∈ zs, ∀ g, blk z.1.2.1 = some g → some j ≠ some g) : RefAt base w' R sp c zs pa ck :=
  ⟨grown_block hg h.blk h1, ⟨ownsRow_grownNe h.own.row hg (fun _ hs e => h3 (hs.trans e.symm)), fun z hz => (h.own.dat z hz).grownNe hg (h4 z hz)⟩, h.low, h.hundred, h.ten⟩
theorem rgrew_new {w1 w2 : World} {sp' : Option Addr} {j : Nat} (h : RGrew R w sp w1 sp') (k : w1.grownBy w2 (some j)) (hj : w.heap.size ≤ j) : RGrew R w sp w2 sp' :=
  ⟨k.os.trans h.os, k.tape.trans h.tape, k.output.trans h.output, Nat.le_trans h.size k.size, fun i hi a b => (k.block i (Nat.lt_of_lt_of_le hi h.size) (fun e => by have := Option.some.inj e; omega)).trans (h.block i hi a b), h.lies⟩
set_option maxRecDepth 20000 in
set_option maxHeartbeats 4000000 in
theorem refTake_yes (h : RefAt base w R sp c zs pa ck) (hz : zs.length ≤ 1000) (i : Int) (hi : hasP (alive zs) i = true) : Calls Try.prog 31 #[.pointer (some ⟨R, 0, none⟩), .int .i64 i] w fun e w' => ∃ j : Nat, ∃ hj : j < zs.length, zs[j].2 = false ∧ ((alive (zs.take j)).length : Int) = i ∧ e = .returned (.tuple #[pkV zs[j].1, .int .i64 0]) ∧ RefAt base w' R sp c (zs.set j (zs[j].1, true)) pa ck ∧ RGrew R w sp w' sp := by
  have X0 := hide (heap_new w zPk)
  have bA := hide (show Below w.heap.size w (w.alloc zPk) from (Below.refl _ _).alloc (Nat.le_refl _) _)
  have H0 := hide (h.later (unhide bA))
  have HH := hide h
  clear h
  go_enter Try.func31, Try.ntmps31
  go_wp2_with fail
  generalize w.alloc zPk = W0 at *
  refine (place_calls (unhide H0) hz i).mono ?_
  rintro e W1 ⟨rfl, ⟨j, hj, rfl, hg, hm⟩ | ⟨_, hno⟩⟩
  rotate_left
  · rw [hno] at hi; cases hi
  obtain ⟨g, rfl, p0, p1, p2, p3, p4⟩ := (unhide H0).own.cell j hj
  have c0 := (unhide H0).c0
  obtain ⟨h1, g1⟩ := (unhide H0).gone j hj g rfl
  have H1 := hide h1
  have G1 := hide g1
  obtain ⟨g', hg', q0, q1, q2, q3, q4⟩ := h1.own.cell j (by rw [List.length_set]; exact hj)
  obtain rfl : g = g' := by simpa using hg'
  have d0 := h1.c0
  rw [List.length_set] at d0
  simp only [List.getElem_set_self] at q0 q1 q2 q3 q4
  have hgl := ((unhide HH).own.blk_ge g rfl).2
  have hRl := (unhide HH).ltR
  have X1 := hide (show (W1.setCell ⟨g, j * 5 + 4, none⟩ (.bool true)).heap[w.heap.size]? = some zPk from grown_block (grown_set W1 g (j * 5 + 4) (.bool true)) (unhide X0) (by omega))
  have z0 := box_cell (unhide X1) 0 _ rfl
  have z1 := box_cell (unhide X1) 1 _ rfl
  have z2 := box_cell (unhide X1) 2 _ rfl
  have z3 := box_cell (unhide X1) 3 _ rfl
  have fz := box_free (unhide X1)
  have fg := box_free (show W1.heap[g]? = some (.cells _ 77 (0, 0)) from ((unhide H0).own.blk_is g rfl).choose_spec) (j * 5 + 4)
  have hj0 : (0 : Int) ≤ (j : Int) := by omega
  have hj1 : (j : Int) < (zs.length : Int) := by omega
  have HG := hide hg
  have HM := hide hm
  have hne : w.heap.size ≠ g := by omega
  clear h1 g1 hg hm hg' q4 p0 p1 p2 p3
  go_wp2_with fail
  obtain ⟨q6, s7⟩ := four_laid (x0 := .int .i64 zs[j].1.1.1) (x1 := .int .i64 zs[j].1.1.2.1) (x2 := .int .i64 zs[j].1.1.2.2.1) (x3 := .slice zs[j].1.2.1 zs[j].1.1.2.2.2.length zs[j].1.2.2) (unhide X1)
  obtain ⟨y0, y1, y2, y3⟩ := packet_cells (x := zs[j].1) q6
  refine bodyPost_ret (v := .tuple #[pkV zs[j].1, .int .i64 0]) (by simp [results, Try.results31, go_sem, y0, y1, y2, y3]) rfl ?_
  have hdat := hide (show ∀ z ∈ zs, ∀ g', blk z.1.2.1 = some g' → g' < w.heap.size from fun z hz' g' hg' => ((unhide HH).own.dat z hz').blk_lt g' hg' |>.2)
  refine ⟨j, hj, unhide HG, unhide HM, rfl, ref_apart (unhide H1) s7 (by omega) (fun e => by
    have e' : g = w.heap.size := Option.some.inj e
    omega) (fun z hz' g' hg' e => by
    have e' := Option.some.inj e
    rcases List.mem_or_eq_of_mem_set hz' with h1 | h1
    · have := unhide hdat z h1 g' hg'
      omega
    · subst h1
      have := unhide hdat zs[j] (List.getElem_mem hj) g' hg'
      omega), rgrew_new ((RGrew.ofBelow (unhide bA)).trans (unhide G1)) s7 (Nat.le_refl _)⟩
theorem refNow_no (k : Int) (hk : isN k = false) : Calls Try.prog 42 #[.pointer (some ⟨R, 0, none⟩), .int .i64 k] w fun e w' => e = .returned (.int .i64 0) ∧ w' = w := by
  simp only [isN, Bool.and_eq_false_iff, decide_eq_false_iff_not] at hk
  by_cases h1 : k < 1
  · clear hk
    go_enter Try.func42, Try.ntmps42
    go_wp2
    go_ret
    exact ⟨rfl, rfl⟩
  · have h2 : 9 < k := by omega
    clear hk
    go_enter Try.func42, Try.ntmps42
    go_wp2
    go_ret
    exact ⟨rfl, rfl⟩
theorem refNow_yes (h : RefAt base w R sp c zs pa ck) (j : Nat) (hj : j < 9) : Calls Try.prog 42 #[.pointer (some ⟨R, 0, none⟩), .int .i64 ((j : Int) + 1)] w fun e w' => e = .returned (.int .i64 (ck.getD (j + 1) 0)) ∧ w' = w := by
  have cj := h.cc (j + 1) (by omega)
  have h0 : (0 : Int) ≤ (j : Int) := by omega
  have h1 : (j : Int) < 9 := by omega
  have e1 : ¬ ((j : Int) + 1 < 1) := by omega
  have e2 : ¬ (9 < (j : Int) + 1) := by omega
  clear h
  go_enter Try.func42, Try.ntmps42
  go_wp2
  go_ret
  exact ⟨rfl, rfl⟩
theorem refTick_no (k : Int) (hk : isN k = false) : Calls Try.prog 37 #[.pointer (some ⟨R, 0, none⟩), .int .i64 k] w fun e w' => e = .returned (.tuple #[.int .i64 0, .int .i64 2]) ∧ w' = w := by
  simp only [isN, Bool.and_eq_false_iff, decide_eq_false_iff_not] at hk
  by_cases h1 : k < 1
  · clear hk
    go_enter Try.func37, Try.ntmps37
    go_wp2
    go_ret2
    exact ⟨rfl, rfl⟩
  · have h2 : 9 < k := by omega
    clear hk
    go_enter Try.func37, Try.ntmps37
    go_wp2
    go_ret2
    exact ⟨rfl, rfl⟩
theorem RefAt.setCk (h : RefAt base w R sp c zs pa ck) (k : Nat) (v : Int) : RefAt base (w.setCell ⟨R, 101 + k, none⟩ (.int .i64 v)) R sp c zs pa (ck.set k v) := by
  have hg := grown_set w R (101 + k) (.int .i64 v)
  refine ⟨?_, h.own.far hg h.blk (by decide) (by decide), h.low, h.hundred, by rw [List.length_set]; exact h.ten⟩
  have := heap_setCell_same w R (101 + k) _ 70 (.int .i64 v) h.blk
  rw [this, show 101 + k = (100 + k) + 1 by omega]
  have hl : (pa.map Value.bool).length = 100 := by rw [List.length_map]; exact h.hundred
  simp only [List.setIfInBounds_toArray, List.set_cons_succ, List.map_set]
  rw [List.set_append_right _ _ (by omega), hl, show 100 + k - 100 = k by omega]
theorem RefAt.setPa (h : RefAt base w R sp c zs pa ck) (k : Nat) (hk : k < 100) (v : Bool) : RefAt base (w.setCell ⟨R, 1 + k, none⟩ (.bool v)) R sp c zs (pa.set k v) ck := by
  have hg := grown_set w R (1 + k) (.bool v)
  refine ⟨?_, h.own.far hg h.blk (by decide) (by decide), h.low, by rw [List.length_set]; exact h.hundred, h.ten⟩
  have := heap_setCell_same w R (1 + k) _ 70 (.bool v) h.blk
  rw [this, Nat.add_comm 1 k]
  have hl : k < (pa.map Value.bool).length := by rw [List.length_map, h.hundred]; exact hk
  simp only [List.setIfInBounds_toArray, List.set_cons_succ, List.map_set]
  rw [List.set_append_left _ _ hl]
theorem RefAt.drew (h : RefAt base w R sp c zs pa ck) : RefAt base w.drew R sp c zs pa ck := ⟨h.blk, ⟨h.own.row, fun z hz => ⟨(h.own.dat z hz).owns, (h.own.dat z hz).lt⟩⟩, h.low, h.hundred, h.ten⟩
theorem RGrew.drew {w' : World} {sp' : Option Addr} (h : RGrew R w sp w' sp') : RGrew R w sp w'.drew sp' := ⟨h.os, h.tape, h.output, h.size, h.block, h.lies⟩
set_option maxHeartbeats 2000000 in
theorem refTick_yes (h : RefAt base w R sp c zs pa ck) (j : Nat) (hj : j < 9) (hc0 : 0 ≤ ck.getD (j + 1) 0) (hc1 : ck.getD (j + 1) 0 ≤ 1000000) : Calls Try.prog 37 #[.pointer (some ⟨R, 0, none⟩), .int .i64 ((j : Int) + 1)] w fun e w' => e = .returned (.tuple #[.int .i64 (ck.getD (j + 1) 0 + 1), .int .i64 0]) ∧ RefAt base w' R sp c zs pa (ck.set (j + 1) (ck.getD (j + 1) 0 + 1)) ∧ RGrew R w sp w' sp := by
  have cj := h.cc (j + 1) (by omega)
  have fj := h.fz (101 + (j + 1))
  have h0 : (0 : Int) ≤ (j : Int) := by omega
  have h1 : (j : Int) < 9 := by omega
  have e1 : ¬ ((j : Int) + 1 < 1) := by omega
  have e2 : ¬ (9 < (j : Int) + 1) := by omega
  have H := hide h
  have G := hide (RGrew.ofR (sp := sp) (grown_set w R (101 + (j + 1)) (.int .i64 (ck.getD (j + 1) 0 + 1))))
  clear h
  have H1 := hide ((unhide H).setCk (j + 1) (ck.getD (j + 1) 0 + 1))
  generalize ck.getD (j + 1) 0 = v at *
  have hw : IntKind.i64.wrap (v + 1) = v + 1 := by rw [IntKind.wrap_i64]; omega
  go_enter Try.func37, Try.ntmps37
  go_wp2_with fail
  first | go_region | skip
  go_wp2
  go_ret2
  first | exact ⟨rfl, unhide H1, unhide G⟩ | exact ⟨rfl, (unhide H1).drew, (unhide G).drew⟩
end
end Go.Proofs.Yticemhnfcelpmaa
