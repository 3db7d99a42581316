/- The contract of a reader's msg. -/
import Derived.Test.YtilkginjppgcoaaMents
namespace Go.Proofs.Ytilkginjppgcoaa
open Go.ChangeShapes Go.WideShapes Go.ChangeAt Go.RowKit

theorem upTo_E (R : Nat) (a : Option Addr) (c : Nat) (l : List Nat) (most k : Nat) (w : World) (h : RdAt R w a c l k) (hl : l.length ≤ maxLen) :
    Calls Try.prog 40 #[.pointer (some ⟨R, 0, none⟩), .int .i64 (most : Int)] w (Ends R a c l w (fun n _ v => v = .int .i64 ((n : Nat) : Int)) (upE l most k)) := by
  have HL := hide hl
  have H := hide h
  clear h hl
  go_enter Try.func40, Try.ntmps40
  go_wp2_with fail
  refine (number_E R a c l k _ (unhide H) (unhide HL)).mono ?_
  rintro e W1 ⟨hg1, hm1⟩
  cases ht : takeE l k with
  | error x =>
    rw [ht] at hm1
    obtain rfl := hm1
    have HE := hide (show upE l most k = .error x from bindE_err ht)
    go_wp2
    rw [unhide HE]
    exact ⟨rfl, hg1, rfl⟩
  | ok p =>
    obtain ⟨n, k2⟩ := p
    rw [ht] at hm1
    obtain ⟨⟨_, rfl, rfl⟩, hr1⟩ := hm1
    by_cases h0 : most < n
    · have HE := hide (show upE l most k = .error 6 by rw [upE, bindE_ok ht, if_pos h0])
      go_wp2_with fail
      refine (giveUp_calls 6 _).mono ?_
      rintro e W2 ⟨rfl, rfl⟩
      go_wp2
      rw [unhide HE]
      exact ⟨rfl, hg1, rfl⟩
    · have HE := hide (show upE l most k = .ok (n, k2) by rw [upE, bindE_ok ht, if_neg h0])
      go_wp2
      go_ret
      rw [unhide HE]
      exact ⟨hg1, ⟨_, rfl, rfl⟩, hr1⟩
theorem RdAt.drew {R : Nat} {w : World} {a : Option Addr} {c : Nat} {l : List Nat} {k : Nat} (h : RdAt R w a c l k) : RdAt R w.drew a c l k := ⟨h.blk, ⟨h.bytes.lt, h.bytes.cell⟩, h.low, h.le⟩
theorem box_cell {w : World} {j : Nat} {cs : Array Value} {T : TypeId} (h : w.heap[j]? = some (.cells cs T (0, 0))) (f : Nat) (v : Value) (hv : cs[f]? = some v) : w.cell? ⟨j, f, none⟩ = some v := by
  rw [cell_of_row _ _ _ _ _ _ h, hv]
theorem box_free {w : World} {j : Nat} {cs : Array Value} {T : TypeId} (h : w.heap[j]? = some (.cells cs T (0, 0))) (f : Nat) : w.frozen? ⟨j, f, none⟩ = false := by
  simp [World.frozen?, h]
/-- A message as a value. -/
abbrev msgCells (m : MsgN) (ve vd : Value) : Array Value := #[.int .i64 (m.kd : Int), .int .i64 (m.fr : Int), .int .i64 (m.to : Int), .int .i64 (m.t : Int), .int .i64 (m.ix : Int), .int .i64 (m.lt : Int), .int .i64 (m.cm : Int), .int .i64 (m.hi : Int), .int .i64 (m.ro : Int), .bool ((m.ok : Int) == 1), ve, vd]
/-- A message that was read, as a value. -/
def MsgIs (base : Nat) (m : MsgN) (w : World) (v : Value) : Prop :=
  ∃ (ep : Option Addr) (en ec : Nat) (sp : Option Addr) (mm cc : Nat), v = .agg (msgCells m (.slice ep en ec) (.slice sp mm cc)) ∧ Hid (m.es.length = en) ∧ OwnEs base w ep ec m.es ∧ Hid (m.d.length = mm) ∧ OwnD base w ep ec m.es sp cc m.d

/-- Twelve fields laid one behind the other. -/
theorem twelve_laid {w : World} {j : Nat} {y0 y1 y2 y3 y4 y5 y6 y7 y8 y9 y10 y11 x0 x1 x2 x3 x4 x5 x6 x7 x8 x9 x10 x11 : Value} {T : TypeId} (h : w.heap[j]? = some (.cells #[y0, y1, y2, y3, y4, y5, y6, y7, y8, y9, y10, y11] T (0, 0))) :
    ((((((((((((w.setCell ⟨j, 0, none⟩ x0).setCell ⟨j, 1, none⟩ x1).setCell ⟨j, 2, none⟩ x2).setCell ⟨j, 3, none⟩ x3).setCell ⟨j, 4, none⟩ x4).setCell ⟨j, 5, none⟩ x5).setCell ⟨j, 6, none⟩ x6).setCell ⟨j, 7, none⟩ x7).setCell ⟨j, 8, none⟩ x8).setCell ⟨j, 9, none⟩ x9).setCell ⟨j, 10, none⟩ x10).setCell ⟨j, 11, none⟩ x11).heap[j]? = some (.cells #[x0, x1, x2, x3, x4, x5, x6, x7, x8, x9, x10, x11] T (0, 0)) ∧ w.grownBy ((((((((((((w.setCell ⟨j, 0, none⟩ x0).setCell ⟨j, 1, none⟩ x1).setCell ⟨j, 2, none⟩ x2).setCell ⟨j, 3, none⟩ x3).setCell ⟨j, 4, none⟩ x4).setCell ⟨j, 5, none⟩ x5).setCell ⟨j, 6, none⟩ x6).setCell ⟨j, 7, none⟩ x7).setCell ⟨j, 8, none⟩ x8).setCell ⟨j, 9, none⟩ x9).setCell ⟨j, 10, none⟩ x10).setCell ⟨j, 11, none⟩ x11) (some j) := by
  have h0 := heap_setCell_same w j 0 _ T x0 h
  have h1 := heap_setCell_same _ j 1 _ T x1 h0
  have h2 := heap_setCell_same _ j 2 _ T x2 h1
  have h3 := heap_setCell_same _ j 3 _ T x3 h2
  have h4 := heap_setCell_same _ j 4 _ T x4 h3
  have h5 := heap_setCell_same _ j 5 _ T x5 h4
  have h6 := heap_setCell_same _ j 6 _ T x6 h5
  have h7 := heap_setCell_same _ j 7 _ T x7 h6
  have h8 := heap_setCell_same _ j 8 _ T x8 h7
  have h9 := heap_setCell_same _ j 9 _ T x9 h8
  have h10 := heap_setCell_same _ j 10 _ T x10 h9
  have h11 := heap_setCell_same _ j 11 _ T x11 h10
  refine ⟨by simpa using h11, ?_⟩
  exact grown_trans (grown_trans (grown_trans (grown_trans (grown_trans (grown_trans (grown_trans (grown_trans (grown_trans (grown_trans (grown_trans (grown_set _ _ _ _) (grown_set _ _ _ _)) (grown_set _ _ _ _)) (grown_set _ _ _ _)) (grown_set _ _ _ _)) (grown_set _ _ _ _)) (grown_set _ _ _ _)) (grown_set _ _ _ _)) (grown_set _ _ _ _)) (grown_set _ _ _ _)) (grown_set _ _ _ _)) (grown_set _ _ _ _)
theorem twelve_cells {w : World} {j : Nat} {x0 x1 x2 x3 x4 x5 x6 x7 x8 x9 x10 x11 : Value} {T : TypeId} (h : w.heap[j]? = some (.cells #[x0, x1, x2, x3, x4, x5, x6, x7, x8, x9, x10, x11] T (0, 0))) : w.cell? ⟨j, 0, none⟩ = some x0 ∧ w.cell? ⟨j, 1, none⟩ = some x1 ∧ w.cell? ⟨j, 2, none⟩ = some x2 ∧ w.cell? ⟨j, 3, none⟩ = some x3 ∧ w.cell? ⟨j, 4, none⟩ = some x4 ∧ w.cell? ⟨j, 5, none⟩ = some x5 ∧ w.cell? ⟨j, 6, none⟩ = some x6 ∧ w.cell? ⟨j, 7, none⟩ = some x7 ∧ w.cell? ⟨j, 8, none⟩ = some x8 ∧ w.cell? ⟨j, 9, none⟩ = some x9 ∧ w.cell? ⟨j, 10, none⟩ = some x10 ∧ w.cell? ⟨j, 11, none⟩ = some x11 := by
  refine ⟨?_, ?_, ?_, ?_, ?_, ?_, ?_, ?_, ?_, ?_, ?_, ?_⟩ <;> exact box_cell h _ _ rfl

set_option maxRecDepth 20000 in
set_option maxHeartbeats 4000000 in
theorem msg_E (R : Nat) (a : Option Addr) (c : Nat) (l : List Nat) (k : Nat) (w : World) (h : RdAt R w a c l k) (hl : l.length ≤ 140737488355328) (hc : l.length ≤ c) (hz : a = none → c = 0) :
    Calls Try.prog 21 #[.pointer (some ⟨R, 0, none⟩)] w (Ends R a c l w (MsgIs w.heap.size) (msgE l k)) := by
  have HL := hide hl
  have HM := hide (show l.length ≤ maxLen by simp only [maxLen]; omega)
  have HC := hide hc
  have HZ := hide hz
  have b2 : Below w.heap.size w ((w.alloc (.cells #[.int .i64 0, .int .i64 0, .int .i64 0, .int .i64 0, .int .i64 0, .int .i64 0, .int .i64 0, .int .i64 0, .int .i64 0, .bool false, .slice none 0 0, .slice none 0 0] 26)).alloc (.cells #[.int .i64 0, .int .i64 0, .int .i64 0, .int .i64 0, .int .i64 0, .int .i64 0, .int .i64 0, .int .i64 0, .int .i64 0, .bool false, .slice none 0 0, .slice none 0 0] 26)) := ((Below.refl _ _).alloc (Nat.le_refl _) _).alloc (by rw [size_alloc]; omega) _
  have RR0 := hide (h.later b2)
  have Hlt := hide h.lt
  have HBlt := hide (fun b off h0 e => block_lt h.bytes h0 b off e)
  have G0 := hide (grown_below (some R) b2)
  have h1 := heap_old (.cells #[.int .i64 0, .int .i64 0, .int .i64 0, .int .i64 0, .int .i64 0, .int .i64 0, .int .i64 0, .int .i64 0, .int .i64 0, .bool false, .slice none 0 0, .slice none 0 0] 26) (heap_new w (.cells #[.int .i64 0, .int .i64 0, .int .i64 0, .int .i64 0, .int .i64 0, .int .i64 0, .int .i64 0, .int .i64 0, .int .i64 0, .bool false, .slice none 0 0, .slice none 0 0] 26))
  have h2 := heap_new (w.alloc (.cells #[.int .i64 0, .int .i64 0, .int .i64 0, .int .i64 0, .int .i64 0, .int .i64 0, .int .i64 0, .int .i64 0, .int .i64 0, .bool false, .slice none 0 0, .slice none 0 0] 26)) (.cells #[.int .i64 0, .int .i64 0, .int .i64 0, .int .i64 0, .int .i64 0, .int .i64 0, .int .i64 0, .int .i64 0, .int .i64 0, .bool false, .slice none 0 0, .slice none 0 0] 26)
  rw [size_alloc] at h2
  have Q0 := hide h1
  have E0 := hide h2
  have S0 := hide (show w.heap.size + 2 ≤ ((w.alloc (.cells #[.int .i64 0, .int .i64 0, .int .i64 0, .int .i64 0, .int .i64 0, .int .i64 0, .int .i64 0, .int .i64 0, .int .i64 0, .bool false, .slice none 0 0, .slice none 0 0] 26)).alloc (.cells #[.int .i64 0, .int .i64 0, .int .i64 0, .int .i64 0, .int .i64 0, .int .i64 0, .int .i64 0, .int .i64 0, .int .i64 0, .bool false, .slice none 0 0, .slice none 0 0] 26)).heap.size by rw [size_alloc, size_alloc]; omega)
  clear h hl hc hz b2 h1 h2
  go_enter Try.func21, Try.ntmps21
  go_wp2_with fail
  generalize (w.alloc (.cells #[.int .i64 0, .int .i64 0, .int .i64 0, .int .i64 0, .int .i64 0, .int .i64 0, .int .i64 0, .int .i64 0, .int .i64 0, .bool false, .slice none 0 0, .slice none 0 0] 26)).alloc (.cells #[.int .i64 0, .int .i64 0, .int .i64 0, .int .i64 0, .int .i64 0, .int .i64 0, .int .i64 0, .int .i64 0, .int .i64 0, .bool false, .slice none 0 0, .slice none 0 0] 26) = W0 at *
  refine (within_E R a c l 1 7 k _ (unhide RR0) (unhide HM)).mono ?_
  rintro e V1 ⟨hg1, hm1⟩
  have GV1 := hide (grown_trans (unhide G0) hg1)
  cases ht1 : oneE l 1 7 k with
  | error x =>
    rw [ht1] at hm1
    obtain rfl := hm1
    have HE := hide (show msgE l k = .error x by rw [msgE, bindE_err ht1])
    go_wp2
    rw [unhide HE]
    exact ⟨rfl, unhide GV1, rfl⟩
  | ok p =>
    obtain ⟨kd, k1⟩ := p
    rw [ht1] at hm1
    obtain ⟨⟨_, rfl, rfl⟩, hr1⟩ := hm1
    have q1 := grown_block hg1 (unhide Q0) (by have := unhide Hlt; omega)
    have q2 := grown_block hg1 (unhide E0) (by have := unhide Hlt; omega)
    have cf := box_cell q2 0 _ rfl
    have ff := box_free q2 0
    have q3 := heap_setCell_same V1 (w.heap.size + 1) 0 _ 26 (.int .i64 (kd : Int)) q2
    have gs := grown_set V1 (w.heap.size + 1) 0 (.int .i64 (kd : Int))
    have Q1 := hide (grown_block gs q1 (by omega))
    have E1 : Hid ((V1.setCell ⟨w.heap.size + 1, 0, none⟩ (.int .i64 (kd : Int))).heap[w.heap.size + 1]? = some (.cells #[.int .i64 (kd : Int), .int .i64 0, .int .i64 0, .int .i64 0, .int .i64 0, .int .i64 0, .int .i64 0, .int .i64 0, .int .i64 0, .bool false, .slice none 0 0, .slice none 0 0] 26 (0, 0))) := hide (by simpa using q3)
    have G1 := hide (grown_new (unhide GV1) gs (by omega))
    have RR1 := hide (hr1.far gs (by have := unhide Hlt; omega) (fun b off h0 e => by have := unhide HBlt b off h0 e; omega))
    have S1 := hide (Nat.le_trans (Nat.le_trans (unhide S0) hg1.size) gs.size)
    clear q1 q2 q3 gs hg1 hr1 GV1 Q0 E0 G0 RR0 S0
    go_wp2_with fail
    generalize V1.setCell ⟨w.heap.size + 1, 0, none⟩ (.int .i64 (kd : Int)) = W1 at *
    clear cf ff
    refine (within_E R a c l 1 9 k1 _ (unhide RR1) (unhide HM)).mono ?_
    rintro e V2 ⟨hg2, hm2⟩
    have GV2 := hide (grown_trans (unhide G1) hg2)
    cases ht2 : oneE l 1 9 k1 with
    | error x =>
      rw [ht2] at hm2
      obtain rfl := hm2
      have HE := hide (show msgE l k = .error x by rw [msgE, bindE_ok ht1, bindE_err ht2])
      go_wp2
      rw [unhide HE]
      exact ⟨rfl, unhide GV2, rfl⟩
    | ok p =>
      obtain ⟨fr, k2⟩ := p
      rw [ht2] at hm2
      obtain ⟨⟨_, rfl, rfl⟩, hr2⟩ := hm2
      have q1 := grown_block hg2 (unhide Q1) (by have := unhide Hlt; omega)
      have q2 := grown_block hg2 (unhide E1) (by have := unhide Hlt; omega)
      have cf := box_cell q2 1 _ rfl
      have ff := box_free q2 1
      have q3 := heap_setCell_same V2 (w.heap.size + 1) 1 _ 26 (.int .i64 (fr : Int)) q2
      have gs := grown_set V2 (w.heap.size + 1) 1 (.int .i64 (fr : Int))
      have Q2 := hide (grown_block gs q1 (by omega))
      have E2 : Hid ((V2.setCell ⟨w.heap.size + 1, 1, none⟩ (.int .i64 (fr : Int))).heap[w.heap.size + 1]? = some (.cells #[.int .i64 (kd : Int), .int .i64 (fr : Int), .int .i64 0, .int .i64 0, .int .i64 0, .int .i64 0, .int .i64 0, .int .i64 0, .int .i64 0, .bool false, .slice none 0 0, .slice none 0 0] 26 (0, 0))) := hide (by simpa using q3)
      have G2 := hide (grown_new (unhide GV2) gs (by omega))
      have RR2 := hide (hr2.far gs (by have := unhide Hlt; omega) (fun b off h0 e => by have := unhide HBlt b off h0 e; omega))
      have S2 := hide (Nat.le_trans (Nat.le_trans (unhide S1) hg2.size) gs.size)
      clear q1 q2 q3 gs hg2 hr2 GV2 Q1 E1 G1 RR1 S1
      go_wp2_with fail
      generalize V2.setCell ⟨w.heap.size + 1, 1, none⟩ (.int .i64 (fr : Int)) = W2 at *
      clear cf ff
      refine (within_E R a c l 1 9 k2 _ (unhide RR2) (unhide HM)).mono ?_
      rintro e V3 ⟨hg3, hm3⟩
      have GV3 := hide (grown_trans (unhide G2) hg3)
      cases ht3 : oneE l 1 9 k2 with
      | error x =>
        rw [ht3] at hm3
        obtain rfl := hm3
        have HE := hide (show msgE l k = .error x by rw [msgE, bindE_ok ht1, bindE_ok ht2, bindE_err ht3])
        go_wp2
        rw [unhide HE]
        exact ⟨rfl, unhide GV3, rfl⟩
      | ok p =>
        obtain ⟨to, k3⟩ := p
        rw [ht3] at hm3
        obtain ⟨⟨_, rfl, rfl⟩, hr3⟩ := hm3
        have q1 := grown_block hg3 (unhide Q2) (by have := unhide Hlt; omega)
        have q2 := grown_block hg3 (unhide E2) (by have := unhide Hlt; omega)
        have cf := box_cell q2 2 _ rfl
        have ff := box_free q2 2
        have q3 := heap_setCell_same V3 (w.heap.size + 1) 2 _ 26 (.int .i64 (to : Int)) q2
        have gs := grown_set V3 (w.heap.size + 1) 2 (.int .i64 (to : Int))
        have Q3 := hide (grown_block gs q1 (by omega))
        have E3 : Hid ((V3.setCell ⟨w.heap.size + 1, 2, none⟩ (.int .i64 (to : Int))).heap[w.heap.size + 1]? = some (.cells #[.int .i64 (kd : Int), .int .i64 (fr : Int), .int .i64 (to : Int), .int .i64 0, .int .i64 0, .int .i64 0, .int .i64 0, .int .i64 0, .int .i64 0, .bool false, .slice none 0 0, .slice none 0 0] 26 (0, 0))) := hide (by simpa using q3)
        have G3 := hide (grown_new (unhide GV3) gs (by omega))
        have RR3 := hide (hr3.far gs (by have := unhide Hlt; omega) (fun b off h0 e => by have := unhide HBlt b off h0 e; omega))
        have S3 := hide (Nat.le_trans (Nat.le_trans (unhide S2) hg3.size) gs.size)
        clear q1 q2 q3 gs hg3 hr3 GV3 Q2 E2 G2 RR2 S2
        go_wp2_with fail
        generalize V3.setCell ⟨w.heap.size + 1, 2, none⟩ (.int .i64 (to : Int)) = W3 at *
        clear cf ff
        refine (within_E R a c l 0 1 k3 _ (unhide RR3) (unhide HM)).mono ?_
        rintro e V4 ⟨hg4, hm4⟩
        have GV4 := hide (grown_trans (unhide G3) hg4)
        cases ht4 : oneE l 0 1 k3 with
        | error x =>
          rw [ht4] at hm4
          obtain rfl := hm4
          have HE := hide (show msgE l k = .error x by rw [msgE, bindE_ok ht1, bindE_ok ht2, bindE_ok ht3, bindE_err ht4])
          go_wp2
          rw [unhide HE]
          exact ⟨rfl, unhide GV4, rfl⟩
        | ok p =>
          obtain ⟨ok, k4⟩ := p
          rw [ht4] at hm4
          obtain ⟨⟨_, rfl, rfl⟩, hr4⟩ := hm4
          have q1 := grown_block hg4 (unhide Q3) (by have := unhide Hlt; omega)
          have q2 := grown_block hg4 (unhide E3) (by have := unhide Hlt; omega)
          have cf := box_cell q2 9 _ rfl
          have ff := box_free q2 9
          have q3 := heap_setCell_same V4 (w.heap.size + 1) 9 _ 26 (.bool ((ok : Int) == 1)) q2
          have gs := grown_set V4 (w.heap.size + 1) 9 (.bool ((ok : Int) == 1))
          have Q4 := hide (grown_block gs q1 (by omega))
          have E4 : Hid ((V4.setCell ⟨w.heap.size + 1, 9, none⟩ (.bool ((ok : Int) == 1))).heap[w.heap.size + 1]? = some (.cells #[.int .i64 (kd : Int), .int .i64 (fr : Int), .int .i64 (to : Int), .int .i64 0, .int .i64 0, .int .i64 0, .int .i64 0, .int .i64 0, .int .i64 0, .bool ((ok : Int) == 1), .slice none 0 0, .slice none 0 0] 26 (0, 0))) := hide (by simpa using q3)
          have G4 := hide (grown_new (unhide GV4) gs (by omega))
          have RR4 := hide (hr4.far gs (by have := unhide Hlt; omega) (fun b off h0 e => by have := unhide HBlt b off h0 e; omega))
          have S4 := hide (Nat.le_trans (Nat.le_trans (unhide S3) hg4.size) gs.size)
          clear q1 q2 q3 gs hg4 hr4 GV4 Q3 E3 G3 RR3 S3
          go_wp2_with fail
          generalize V4.setCell ⟨w.heap.size + 1, 9, none⟩ (.bool ((ok : Int) == 1)) = W4 at *
          clear cf ff
          refine (number_E R a c l k4 _ (unhide RR4) (unhide HM)).mono ?_
          rintro e V5 ⟨hg5, hm5⟩
          have GV5 := hide (grown_trans (unhide G4) hg5)
          cases ht5 : takeE l k4 with
          | error x =>
            rw [ht5] at hm5
            obtain rfl := hm5
            have HE := hide (show msgE l k = .error x by rw [msgE, bindE_ok ht1, bindE_ok ht2, bindE_ok ht3, bindE_ok ht4, bindE_err ht5])
            go_wp2
            rw [unhide HE]
            exact ⟨rfl, unhide GV5, rfl⟩
          | ok p =>
            obtain ⟨t, k5⟩ := p
            rw [ht5] at hm5
            obtain ⟨⟨_, rfl, rfl⟩, hr5⟩ := hm5
            have q1 := grown_block hg5 (unhide Q4) (by have := unhide Hlt; omega)
            have q2 := grown_block hg5 (unhide E4) (by have := unhide Hlt; omega)
            have cf := box_cell q2 3 _ rfl
            have ff := box_free q2 3
            have q3 := heap_setCell_same V5 (w.heap.size + 1) 3 _ 26 (.int .i64 (t : Int)) q2
            have gs := grown_set V5 (w.heap.size + 1) 3 (.int .i64 (t : Int))
            have Q5 := hide (grown_block gs q1 (by omega))
            have E5 : Hid ((V5.setCell ⟨w.heap.size + 1, 3, none⟩ (.int .i64 (t : Int))).heap[w.heap.size + 1]? = some (.cells #[.int .i64 (kd : Int), .int .i64 (fr : Int), .int .i64 (to : Int), .int .i64 (t : Int), .int .i64 0, .int .i64 0, .int .i64 0, .int .i64 0, .int .i64 0, .bool ((ok : Int) == 1), .slice none 0 0, .slice none 0 0] 26 (0, 0))) := hide (by simpa using q3)
            have G5 := hide (grown_new (unhide GV5) gs (by omega))
            have RR5 := hide (hr5.far gs (by have := unhide Hlt; omega) (fun b off h0 e => by have := unhide HBlt b off h0 e; omega))
            have S5 := hide (Nat.le_trans (Nat.le_trans (unhide S4) hg5.size) gs.size)
            clear q1 q2 q3 gs hg5 hr5 GV5 Q4 E4 G4 RR4 S4
            go_wp2_with fail
            generalize V5.setCell ⟨w.heap.size + 1, 3, none⟩ (.int .i64 (t : Int)) = W5 at *
            clear cf ff
            refine (number_E R a c l k5 _ (unhide RR5) (unhide HM)).mono ?_
            rintro e V6 ⟨hg6, hm6⟩
            have GV6 := hide (grown_trans (unhide G5) hg6)
            cases ht6 : takeE l k5 with
            | error x =>
              rw [ht6] at hm6
              obtain rfl := hm6
              have HE := hide (show msgE l k = .error x by rw [msgE, bindE_ok ht1, bindE_ok ht2, bindE_ok ht3, bindE_ok ht4, bindE_ok ht5, bindE_err ht6])
              go_wp2
              rw [unhide HE]
              exact ⟨rfl, unhide GV6, rfl⟩
            | ok p =>
              obtain ⟨ix, k6⟩ := p
              rw [ht6] at hm6
              obtain ⟨⟨_, rfl, rfl⟩, hr6⟩ := hm6
              have q1 := grown_block hg6 (unhide Q5) (by have := unhide Hlt; omega)
              have q2 := grown_block hg6 (unhide E5) (by have := unhide Hlt; omega)
              have cf := box_cell q2 4 _ rfl
              have ff := box_free q2 4
              have q3 := heap_setCell_same V6 (w.heap.size + 1) 4 _ 26 (.int .i64 (ix : Int)) q2
              have gs := grown_set V6 (w.heap.size + 1) 4 (.int .i64 (ix : Int))
              have Q6 := hide (grown_block gs q1 (by omega))
              have E6 : Hid ((V6.setCell ⟨w.heap.size + 1, 4, none⟩ (.int .i64 (ix : Int))).heap[w.heap.size + 1]? = some (.cells #[.int .i64 (kd : Int), .int .i64 (fr : Int), .int .i64 (to : Int), .int .i64 (t : Int), .int .i64 (ix : Int), .int .i64 0, .int .i64 0, .int .i64 0, .int .i64 0, .bool ((ok : Int) == 1), .slice none 0 0, .slice none 0 0] 26 (0, 0))) := hide (by simpa using q3)
              have G6 := hide (grown_new (unhide GV6) gs (by omega))
              have RR6 := hide (hr6.far gs (by have := unhide Hlt; omega) (fun b off h0 e => by have := unhide HBlt b off h0 e; omega))
              have S6 := hide (Nat.le_trans (Nat.le_trans (unhide S5) hg6.size) gs.size)
              clear q1 q2 q3 gs hg6 hr6 GV6 Q5 E5 G5 RR5 S5
              go_wp2_with fail
              generalize V6.setCell ⟨w.heap.size + 1, 4, none⟩ (.int .i64 (ix : Int)) = W6 at *
              clear cf ff
              refine (number_E R a c l k6 _ (unhide RR6) (unhide HM)).mono ?_
              rintro e V7 ⟨hg7, hm7⟩
              have GV7 := hide (grown_trans (unhide G6) hg7)
              cases ht7 : takeE l k6 with
              | error x =>
                rw [ht7] at hm7
                obtain rfl := hm7
                have HE := hide (show msgE l k = .error x by rw [msgE, bindE_ok ht1, bindE_ok ht2, bindE_ok ht3, bindE_ok ht4, bindE_ok ht5, bindE_ok ht6, bindE_err ht7])
                go_wp2
                rw [unhide HE]
                exact ⟨rfl, unhide GV7, rfl⟩
              | ok p =>
                obtain ⟨lt, k7⟩ := p
                rw [ht7] at hm7
                obtain ⟨⟨_, rfl, rfl⟩, hr7⟩ := hm7
                have q1 := grown_block hg7 (unhide Q6) (by have := unhide Hlt; omega)
                have q2 := grown_block hg7 (unhide E6) (by have := unhide Hlt; omega)
                have cf := box_cell q2 5 _ rfl
                have ff := box_free q2 5
                have q3 := heap_setCell_same V7 (w.heap.size + 1) 5 _ 26 (.int .i64 (lt : Int)) q2
                have gs := grown_set V7 (w.heap.size + 1) 5 (.int .i64 (lt : Int))
                have Q7 := hide (grown_block gs q1 (by omega))
                have E7 : Hid ((V7.setCell ⟨w.heap.size + 1, 5, none⟩ (.int .i64 (lt : Int))).heap[w.heap.size + 1]? = some (.cells #[.int .i64 (kd : Int), .int .i64 (fr : Int), .int .i64 (to : Int), .int .i64 (t : Int), .int .i64 (ix : Int), .int .i64 (lt : Int), .int .i64 0, .int .i64 0, .int .i64 0, .bool ((ok : Int) == 1), .slice none 0 0, .slice none 0 0] 26 (0, 0))) := hide (by simpa using q3)
                have G7 := hide (grown_new (unhide GV7) gs (by omega))
                have RR7 := hide (hr7.far gs (by have := unhide Hlt; omega) (fun b off h0 e => by have := unhide HBlt b off h0 e; omega))
                have S7 := hide (Nat.le_trans (Nat.le_trans (unhide S6) hg7.size) gs.size)
                clear q1 q2 q3 gs hg7 hr7 GV7 Q6 E6 G6 RR6 S6
                go_wp2_with fail
                generalize V7.setCell ⟨w.heap.size + 1, 5, none⟩ (.int .i64 (lt : Int)) = W7 at *
                clear cf ff
                refine (number_E R a c l k7 _ (unhide RR7) (unhide HM)).mono ?_
                rintro e V8 ⟨hg8, hm8⟩
                have GV8 := hide (grown_trans (unhide G7) hg8)
                cases ht8 : takeE l k7 with
                | error x =>
                  rw [ht8] at hm8
                  obtain rfl := hm8
                  have HE := hide (show msgE l k = .error x by rw [msgE, bindE_ok ht1, bindE_ok ht2, bindE_ok ht3, bindE_ok ht4, bindE_ok ht5, bindE_ok ht6, bindE_ok ht7, bindE_err ht8])
                  go_wp2
                  rw [unhide HE]
                  exact ⟨rfl, unhide GV8, rfl⟩
                | ok p =>
                  obtain ⟨cm, k8⟩ := p
                  rw [ht8] at hm8
                  obtain ⟨⟨_, rfl, rfl⟩, hr8⟩ := hm8
                  have q1 := grown_block hg8 (unhide Q7) (by have := unhide Hlt; omega)
                  have q2 := grown_block hg8 (unhide E7) (by have := unhide Hlt; omega)
                  have cf := box_cell q2 6 _ rfl
                  have ff := box_free q2 6
                  have q3 := heap_setCell_same V8 (w.heap.size + 1) 6 _ 26 (.int .i64 (cm : Int)) q2
                  have gs := grown_set V8 (w.heap.size + 1) 6 (.int .i64 (cm : Int))
                  have Q8 := hide (grown_block gs q1 (by omega))
                  have E8 : Hid ((V8.setCell ⟨w.heap.size + 1, 6, none⟩ (.int .i64 (cm : Int))).heap[w.heap.size + 1]? = some (.cells #[.int .i64 (kd : Int), .int .i64 (fr : Int), .int .i64 (to : Int), .int .i64 (t : Int), .int .i64 (ix : Int), .int .i64 (lt : Int), .int .i64 (cm : Int), .int .i64 0, .int .i64 0, .bool ((ok : Int) == 1), .slice none 0 0, .slice none 0 0] 26 (0, 0))) := hide (by simpa using q3)
                  have G8 := hide (grown_new (unhide GV8) gs (by omega))
                  have RR8 := hide (hr8.far gs (by have := unhide Hlt; omega) (fun b off h0 e => by have := unhide HBlt b off h0 e; omega))
                  have S8 := hide (Nat.le_trans (Nat.le_trans (unhide S7) hg8.size) gs.size)
                  clear q1 q2 q3 gs hg8 hr8 GV8 Q7 E7 G7 RR7 S7
                  go_wp2_with fail
                  generalize V8.setCell ⟨w.heap.size + 1, 6, none⟩ (.int .i64 (cm : Int)) = W8 at *
                  clear cf ff
                  refine (number_E R a c l k8 _ (unhide RR8) (unhide HM)).mono ?_
                  rintro e V9 ⟨hg9, hm9⟩
                  have GV9 := hide (grown_trans (unhide G8) hg9)
                  cases ht9 : takeE l k8 with
                  | error x =>
                    rw [ht9] at hm9
                    obtain rfl := hm9
                    have HE := hide (show msgE l k = .error x by rw [msgE, bindE_ok ht1, bindE_ok ht2, bindE_ok ht3, bindE_ok ht4, bindE_ok ht5, bindE_ok ht6, bindE_ok ht7, bindE_ok ht8, bindE_err ht9])
                    go_wp2
                    rw [unhide HE]
                    exact ⟨rfl, unhide GV9, rfl⟩
                  | ok p =>
                    obtain ⟨hi, k9⟩ := p
                    rw [ht9] at hm9
                    obtain ⟨⟨_, rfl, rfl⟩, hr9⟩ := hm9
                    have q1 := grown_block hg9 (unhide Q8) (by have := unhide Hlt; omega)
                    have q2 := grown_block hg9 (unhide E8) (by have := unhide Hlt; omega)
                    have cf := box_cell q2 7 _ rfl
                    have ff := box_free q2 7
                    have q3 := heap_setCell_same V9 (w.heap.size + 1) 7 _ 26 (.int .i64 (hi : Int)) q2
                    have gs := grown_set V9 (w.heap.size + 1) 7 (.int .i64 (hi : Int))
                    have Q9 := hide (grown_block gs q1 (by omega))
                    have E9 : Hid ((V9.setCell ⟨w.heap.size + 1, 7, none⟩ (.int .i64 (hi : Int))).heap[w.heap.size + 1]? = some (.cells #[.int .i64 (kd : Int), .int .i64 (fr : Int), .int .i64 (to : Int), .int .i64 (t : Int), .int .i64 (ix : Int), .int .i64 (lt : Int), .int .i64 (cm : Int), .int .i64 (hi : Int), .int .i64 0, .bool ((ok : Int) == 1), .slice none 0 0, .slice none 0 0] 26 (0, 0))) := hide (by simpa using q3)
                    have G9 := hide (grown_new (unhide GV9) gs (by omega))
                    have RR9 := hide (hr9.far gs (by have := unhide Hlt; omega) (fun b off h0 e => by have := unhide HBlt b off h0 e; omega))
                    have S9 := hide (Nat.le_trans (Nat.le_trans (unhide S8) hg9.size) gs.size)
                    clear q1 q2 q3 gs hg9 hr9 GV9 Q8 E8 G8 RR8 S8
                    go_wp2_with fail
                    generalize V9.setCell ⟨w.heap.size + 1, 7, none⟩ (.int .i64 (hi : Int)) = W9 at *
                    clear cf ff
                    refine (number_E R a c l k9 _ (unhide RR9) (unhide HM)).mono ?_
                    rintro e V10 ⟨hg10, hm10⟩
                    have GV10 := hide (grown_trans (unhide G9) hg10)
                    cases ht10 : takeE l k9 with
                    | error x =>
                      rw [ht10] at hm10
                      obtain rfl := hm10
                      have HE := hide (show msgE l k = .error x by rw [msgE, bindE_ok ht1, bindE_ok ht2, bindE_ok ht3, bindE_ok ht4, bindE_ok ht5, bindE_ok ht6, bindE_ok ht7, bindE_ok ht8, bindE_ok ht9, bindE_err ht10])
                      go_wp2
                      rw [unhide HE]
                      exact ⟨rfl, unhide GV10, rfl⟩
                    | ok p =>
                      obtain ⟨ro, k10⟩ := p
                      rw [ht10] at hm10
                      obtain ⟨⟨_, rfl, rfl⟩, hr10⟩ := hm10
                      have q1 := grown_block hg10 (unhide Q9) (by have := unhide Hlt; omega)
                      have q2 := grown_block hg10 (unhide E9) (by have := unhide Hlt; omega)
                      have cf := box_cell q2 8 _ rfl
                      have ff := box_free q2 8
                      have q3 := heap_setCell_same V10 (w.heap.size + 1) 8 _ 26 (.int .i64 (ro : Int)) q2
                      have gs := grown_set V10 (w.heap.size + 1) 8 (.int .i64 (ro : Int))
                      have Q10 := hide (grown_block gs q1 (by omega))
                      have E10 : Hid ((V10.setCell ⟨w.heap.size + 1, 8, none⟩ (.int .i64 (ro : Int))).heap[w.heap.size + 1]? = some (.cells #[.int .i64 (kd : Int), .int .i64 (fr : Int), .int .i64 (to : Int), .int .i64 (t : Int), .int .i64 (ix : Int), .int .i64 (lt : Int), .int .i64 (cm : Int), .int .i64 (hi : Int), .int .i64 (ro : Int), .bool ((ok : Int) == 1), .slice none 0 0, .slice none 0 0] 26 (0, 0))) := hide (by simpa using q3)
                      have G10 := hide (grown_new (unhide GV10) gs (by omega))
                      have RR10 := hide (hr10.far gs (by have := unhide Hlt; omega) (fun b off h0 e => by have := unhide HBlt b off h0 e; omega))
                      have S10 := hide (Nat.le_trans (Nat.le_trans (unhide S9) hg10.size) gs.size)
                      clear q1 q2 q3 gs hg10 hr10 GV10 Q9 E9 G9 RR9 S9
                      go_wp2_with fail
                      generalize V10.setCell ⟨w.heap.size + 1, 8, none⟩ (.int .i64 (ro : Int)) = W10 at *
                      clear cf ff
                      refine (upTo_E R a c l 8 k10 _ (unhide RR10) (unhide HM)).mono ?_
                      rintro e V11 ⟨hg11, hm11⟩
                      have GV11 := hide (grown_trans (unhide G10) hg11)
                      cases ht11 : upE l 8 k10 with
                      | error x =>
                        rw [ht11] at hm11
                        obtain rfl := hm11
                        have HE := hide (show msgE l k = .error x by rw [msgE, bindE_ok ht1, bindE_ok ht2, bindE_ok ht3, bindE_ok ht4, bindE_ok ht5, bindE_ok ht6, bindE_ok ht7, bindE_ok ht8, bindE_ok ht9, bindE_ok ht10, bindE_err ht11])
                        go_wp2
                        rw [unhide HE]
                        exact ⟨rfl, unhide GV11, rfl⟩
                      | ok p =>
                        obtain ⟨n, k11⟩ := p
                        rw [ht11] at hm11
                        obtain ⟨⟨_, rfl, rfl⟩, hr11⟩ := hm11
                        have Q11 := hide (grown_block hg11 (unhide Q10) (by have := unhide Hlt; omega))
                        have E11 := hide (grown_block hg11 (unhide E10) (by have := unhide Hlt; omega))
                        have G11 := hide (unhide GV11)
                        have RR11 := hide hr11
                        have S11 := hide (Nat.le_trans (unhide S10) hg11.size)
                        have hn8 : n ≤ 8 := (upE_le ht11).1
                        have HT := hide (show msgE l k = bindE (entsE l n k11) fun es k => bindE (upE l 32768 k) fun m k => bindE (dataE l m k) fun d k => .ok (⟨kd, fr, to, ok, t, ix, lt, cm, hi, ro, es, d⟩, k) by rw [msgE, bindE_ok ht1, bindE_ok ht2, bindE_ok ht3, bindE_ok ht4, bindE_ok ht5, bindE_ok ht6, bindE_ok ht7, bindE_ok ht8, bindE_ok ht9, bindE_ok ht10, bindE_ok ht11])
                        clear hg11 hr11 GV11 Q10 E10 G10 RR10 S10 ht1 ht2 ht3 ht4 ht5 ht6 ht7 ht8 ht9 ht10 ht11
                        go_wp2_with fail
                        go_loopw [37] (fun i wr => ∃ (j k' : Nat) (es : List EntN) (sp : Option Addr) (cc : Nat), i = .int .i64 (j : Int) ∧ j ≤ n ∧ Hid (es.length = j) ∧ Hid (entsE l j k11 = .ok (es, k')) ∧ Hid (wr.heap[w.heap.size]? = some (.cells #[.int .i64 0, .int .i64 0, .int .i64 0, .int .i64 0, .int .i64 0, .int .i64 0, .int .i64 0, .int .i64 0, .int .i64 0, .bool false, .slice none 0 0, .slice none 0 0] 26)) ∧ Hid (wr.heap[w.heap.size + 1]? = some (.cells #[.int .i64 (kd : Int), .int .i64 (fr : Int), .int .i64 (to : Int), .int .i64 (t : Int), .int .i64 (ix : Int), .int .i64 (lt : Int), .int .i64 (cm : Int), .int .i64 (hi : Int), .int .i64 (ro : Int), .bool ((ok : Int) == 1), .slice sp j cc, .slice none 0 0] 26 (0, 0))) ∧ Hid (w.grownBy wr (some R)) ∧ Hid (RdAt R wr a c l k') ∧ Hid (w.heap.size + 2 ≤ wr.heap.size) ∧ Hid (OwnEs (w.heap.size + 2) wr sp cc es)) (fun i _ => n - (intOf i).toNat)
                        case atStart => exact ⟨0, k11, [], none, 0, rfl, by omega, rfl, rfl, unhide Q11, unhide E11, unhide G11, unhide RR11, unhide S11, OwnEs.ofNil _ _⟩
                        case round =>
                          obtain ⟨j, k', es, sp, cc, rfl, hj, hes, hents, Q, E, G, RR, S, O⟩ := hrel
                          by_cases hjn : j < n
                          · have c10 := box_cell (unhide E) 10 _ rfl
                            have f10 := box_free (unhide E) 10
                            have RD := hide ((unhide RR).drew)
                            cases hte : entryE l k' with
                            | error x =>
                              have HE := hide ((unhide HT).trans (bindE_err (entsE_err (unhide hents) hte hjn)))
                              go_wp2_with fail
                              refine wp_region_any (by kernel_rfl) ?_
                              change wpAny _ _ _ _ _ _ _ (World.drew _)
                              refine wpAny_take (i := 0) (v := .pointer (some ⟨w.heap.size + 1, 10, none⟩)) rfl (by kernel_rfl) (by kernel_rfl) (by kernel_rfl) (fun _ _ _ h => h) (Or.inl ⟨by rfl, by intro w; go_simp⟩) ?_
                              refine wpAny_take (i := 2) (v := .pointer (some ⟨R, 0, none⟩)) rfl (by kernel_rfl) (by kernel_rfl) (by kernel_rfl) (fun _ _ _ h => h) (Or.inl ⟨by rfl, by intro w; go_simp⟩) ?_
                              refine wpAny_ready (rs := [1, 3]) (by kernel_rfl) (by simp) ?_
                              refine AllReady.cons rfl (fun K hK => ?_) (AllReady.cons rfl (fun K hK => ?_) AllReady.nil)
                              · go_simp
                                refine hK _ _ ?_
                                clear hK K
                                refine wpAny_ready (rs := [3]) (by kernel_rfl) (by simp) ?_
                                refine AllReady.cons rfl (fun K hK => ?_) AllReady.nil
                                (go_simp; refine (entry_E R a c l k' _ (unhide RD) (unhide HL) (unhide HC) (unhide HZ)).mono ?_; rintro e1 V ⟨hgv, hmv⟩; rw [hte] at hmv; obtain rfl := hmv; have Ge := hide (grown_trans (unhide G) (show wr.grownBy V (some R) from ⟨hgv.os, hgv.tape, hgv.output, hgv.size, hgv.block⟩)); clear hgv; refine ⟨rfl, unhide Ge, ?_⟩; rw [unhide HE])
                              · (go_simp; refine (entry_E R a c l k' _ (unhide RD) (unhide HL) (unhide HC) (unhide HZ)).mono ?_; rintro e1 V ⟨hgv, hmv⟩; rw [hte] at hmv; obtain rfl := hmv; have Ge := hide (grown_trans (unhide G) (show wr.grownBy V (some R) from ⟨hgv.os, hgv.tape, hgv.output, hgv.size, hgv.block⟩)); clear hgv; refine ⟨rfl, unhide Ge, ?_⟩; rw [unhide HE])
                            | ok p =>
                              obtain ⟨e, k2⟩ := p
                              go_wp2_with fail
                              go_region_law (first
                                | (refine step_appendE rfl (.tmp 40) (.tmp 43) rfl (w.heap.size + 2) wr.heap.size sp j cc es rfl (unhide hes) (by exact unhide Oa) V.heap.size e (dp, dc) rfl (by exact unhide Xa) (by exact unhide Da) (unhide La) (by have := unhide hes; omega) (by exact unhide Sa) ?_; intro sp4 c4 W4 hO4 hg4; have hne := (unhide Oa).blk_ge; have E4 := hide ((hg4.block (w.heap.size + 1) (Array.getElem?_eq_some_iff.1 (unhide Ea)).1 (fun e => by have := hne _ e.symm; omega)).trans (unhide Ea)); have Q4 := hide ((hg4.block w.heap.size (Array.getElem?_eq_some_iff.1 (unhide Qa)).1 (fun e => by have := hne _ e.symm; omega)).trans (unhide Qa)); have d10 := box_cell (unhide E4) 10 _ rfl; have f10' := box_free (unhide E4) 10; have O4 := hide hO4; have G4 := hide hg4; have N4 := hide hne; clear hO4 hg4 hne)
                                | (go_simp; go_at_call 41; refine (entry_E R a c l k' _ (unhide RD) (unhide HL) (unhide HC) (unhide HZ)).mono ?_; rintro e1 V ⟨hgv, hmv⟩; rw [hte] at hmv; obtain ⟨⟨_, rfl, dp, dm, dc, rfl, hdl, hdo⟩, hrv⟩ := hmv; have hdm := unhide hdl; subst hdm; have Ev := hide (grown_block hgv (show wr.drew.heap[w.heap.size + 1]? = _ from unhide E) (by have := unhide Hlt; omega)); have Qv := hide (grown_block hgv (show wr.drew.heap[w.heap.size]? = _ from unhide Q) (by have := unhide Hlt; omega)); have cv := box_cell (unhide Ev) 10 _ rfl; have bV := hide (show Below V.heap.size V (V.alloc (.cells #[.int .i64 (e.1 : Int), .int .i64 (e.2.1 : Int), .int .i64 (e.2.2.1 : Int), .slice dp e.2.2.2.length dc] 36)) from (Below.refl _ _).alloc (Nat.le_refl _) _); have Ea := hide (heap_old (.cells #[.int .i64 (e.1 : Int), .int .i64 (e.2.1 : Int), .int .i64 (e.2.2.1 : Int), .slice dp e.2.2.2.length dc] 36) (unhide Ev)); have Qa := hide (heap_old (.cells #[.int .i64 (e.1 : Int), .int .i64 (e.2.1 : Int), .int .i64 (e.2.2.1 : Int), .slice dp e.2.2.2.length dc] 36) (unhide Qv)); have ca := box_cell (unhide Ea) 10 _ rfl; have Xa := hide (heap_new V (.cells #[.int .i64 (e.1 : Int), .int .i64 (e.2.1 : Int), .int .i64 (e.2.2.1 : Int), .slice dp e.2.2.2.length dc] 36)); have Oa := hide ((show OwnT (w.heap.size + 2) wr.heap.size wr.drew sp cc es from (unhide O).drew.toT).far hgv (by have := unhide Hlt; omega) |>.later (unhide bV)); have La := hide (show ∀ g, blk dp = some g → wr.heap.size ≤ g from fun g hg => (hdo.blk_lt g hg).1); have Da := hide ((hdo.mono (unhide S)).later (unhide bV)); have Ra := hide (hrv.later (unhide bV)); have Sa := hide (show w.heap.size + 2 ≤ (V.alloc (.cells #[.int .i64 (e.1 : Int), .int .i64 (e.2.1 : Int), .int .i64 (e.2.2.1 : Int), .slice dp e.2.2.2.length dc] 36)).heap.size from Nat.le_trans (unhide S) (Nat.le_trans hgv.size (unhide bV).size)); have Ga := hide (grown_trans (grown_trans (unhide G) (show wr.grownBy V (some R) from ⟨hgv.os, hgv.tape, hgv.output, hgv.size, hgv.block⟩)) (grown_below (some R) (unhide bV))); clear hdo hrv hgv hdl))
                              all_goals (have q5 := heap_setCell_same W4 (w.heap.size + 1) 10 _ 26 (.slice sp4 (j + 1) c4) (unhide E4); have gs := grown_set W4 (w.heap.size + 1) 10 (.slice sp4 (j + 1) c4); have E5 : Hid ((W4.setCell ⟨w.heap.size + 1, 10, none⟩ (.slice sp4 (j + 1) c4)).heap[w.heap.size + 1]? = some (.cells #[.int .i64 (kd : Int), .int .i64 (fr : Int), .int .i64 (to : Int), .int .i64 (t : Int), .int .i64 (ix : Int), .int .i64 (lt : Int), .int .i64 (cm : Int), .int .i64 (hi : Int), .int .i64 (ro : Int), .bool ((ok : Int) == 1), .slice sp4 (j + 1) c4, .slice none 0 0] 26 (0, 0))) := hide (by simpa using q5); have Q5 := hide (grown_block gs (unhide Q4) (by omega)); have G5 := hide (grown_new (grown_newO (unhide Ga) (unhide G4) (fun g hg => by have := unhide N4 g hg; omega)) gs (by omega)); have R5 := hide (((unhide Ra).farO (unhide G4) (fun e => by have := unhide N4 _ e; have := unhide Hlt; omega) (fun b off h0 e e' => by have := unhide N4 _ e'; have := unhide HBlt b off h0 e; omega)).far gs (by have := unhide Hlt; omega) (fun b off h0 e => by have := unhide HBlt b off h0 e; omega)); have S5 := hide (Nat.le_trans (Nat.le_trans (unhide Sa) (unhide G4).size) gs.size); have O5 := hide ((unhide O4).far gs (by omega)); have L5 := hide (show (es ++ [e]).length = j + 1 by rw [List.length_append, unhide hes]; rfl); have T5 := hide (entsE_more (unhide hents) hte); clear q5 gs d10 f10' cv ca c10 f10; go_wp2; exact ⟨⟨j + 1, k2, es ++ [e], sp4, c4, by go_num, by omega, unhide L5, unhide T5, unhide Q5, unhide E5, unhide G5, unhide R5, unhide S5, unhide O5⟩, by simp [intOf]; omega⟩)
                          · have hjn' : j = n := by omega
                            subst hjn'
                            have HT' := hide ((unhide HT).trans (bindE_ok (unhide hents)))
                            clear hjn hj HT hents
                            go_wp2_with fail
                            refine (upTo_E R a c l 32768 k' _ (unhide RR) (unhide HM)).mono ?_
                            rintro e V12 ⟨hg12, hm12⟩
                            have GV12 := hide (grown_trans (unhide G) hg12)
                            cases ht12 : upE l 32768 k' with
                            | error x =>
                              rw [ht12] at hm12
                              obtain rfl := hm12
                              have HE := hide ((unhide HT').trans (bindE_err ht12))
                              go_wp2
                              rw [unhide HE]
                              exact ⟨rfl, unhide GV12, rfl⟩
                            | ok p =>
                              obtain ⟨mm, k12⟩ := p
                              rw [ht12] at hm12
                              obtain ⟨⟨_, rfl, rfl⟩, hr12⟩ := hm12
                              have Q12 := hide (grown_block hg12 (unhide Q) (by have := unhide Hlt; omega))
                              have E12 := hide (grown_block hg12 (unhide E) (by have := unhide Hlt; omega))
                              have G12 := hide (unhide GV12)
                              have RR12 := hide hr12
                              have S12 := hide (Nat.le_trans (unhide S) hg12.size)
                              have O12 := hide ((unhide O).far hg12 (by have := unhide Hlt; omega))
                              have HT12 := hide ((unhide HT').trans (bindE_ok ht12))
                              clear hg12 hr12 GV12 Q E G RR S O HT' ht12
                              go_wp2_with fail
                              refine (data_E R a c l mm k12 _ (unhide RR12) (unhide HL) (unhide HC) (unhide HZ)).mono ?_
                              rintro e V13 ⟨hg13, hm13⟩
                              have GV13 := hide (grown_trans (unhide G12) hg13)
                              cases ht13 : dataE l mm k12 with
                              | error x =>
                                rw [ht13] at hm13
                                obtain rfl := hm13
                                have HE := hide ((unhide HT12).trans (bindE_err ht13))
                                go_wp2
                                rw [unhide HE]
                                exact ⟨rfl, unhide GV13, rfl⟩
                              | ok p =>
                                obtain ⟨d, k13⟩ := p
                                rw [ht13] at hm13
                                obtain ⟨⟨_, rfl, dp, dm, dc, rfl, hdl, hdo⟩, hr13⟩ := hm13
                                have HE := hide ((unhide HT12).trans (bindE_ok ht13))
                                have q1 := grown_block hg13 (unhide Q12) (by have := unhide Hlt; omega)
                                have q2 := grown_block hg13 (unhide E12) (by have := unhide Hlt; omega)
                                have cf := box_cell q2 11 _ rfl
                                have ff := box_free q2 11
                                have q3 := heap_setCell_same V13 (w.heap.size + 1) 11 _ 26 (.slice dp dm dc) q2
                                have gs := grown_set V13 (w.heap.size + 1) 11 (.slice dp dm dc)
                                have Q13 := hide (grown_block gs q1 (by omega))
                                have E13 : Hid ((V13.setCell ⟨w.heap.size + 1, 11, none⟩ (.slice dp dm dc)).heap[w.heap.size + 1]? = some (.cells #[.int .i64 (kd : Int), .int .i64 (fr : Int), .int .i64 (to : Int), .int .i64 (t : Int), .int .i64 (ix : Int), .int .i64 (lt : Int), .int .i64 (cm : Int), .int .i64 (hi : Int), .int .i64 (ro : Int), .bool ((ok : Int) == 1), .slice sp j cc, .slice dp dm dc] 26 (0, 0))) := hide (by simpa using q3)
                                have G13 := hide (grown_new (unhide GV13) gs (by omega))
                                have RR13 := hide (hr13.far gs (by have := unhide Hlt; omega) (fun b off h0 e => by have := unhide HBlt b off h0 e; omega))
                                have hd13 := hdo.far gs (by have := unhide S12; omega)
                                have D13 := hide (OwnD.mk (hd13.mono (unhide S12)) ⟨_, ((unhide O12).toT.far hg13 (by have := unhide Hlt; omega)).far gs (by omega), fun g hg => (hd13.blk_lt g hg).1⟩)
                                have O13 := hide (((unhide O12).far hg13 (by have := unhide Hlt; omega)).far gs (by omega))
                                obtain ⟨d0, d1, d2, d3, d4, d5, d6, d7, d8, d9, d10, d11⟩ := twelve_cells (unhide E13)
                                obtain ⟨g0, g1, g2, g3, g4, g5, g6, g7, g8, g9, g10, g11⟩ := twelve_cells (unhide Q13)
                                have fz := box_free (unhide Q13)
                                clear q1 q2 q3 gs hg13 hr13 hdo O12 hd13
                                go_wp2_with fail
                                generalize V13.setCell ⟨w.heap.size + 1, 11, none⟩ (.slice dp dm dc) = W13 at *
                                obtain ⟨q6, s7⟩ := twelve_laid (x0 := .int .i64 (kd : Int)) (x1 := .int .i64 (fr : Int)) (x2 := .int .i64 (to : Int)) (x3 := .int .i64 (t : Int)) (x4 := .int .i64 (ix : Int)) (x5 := .int .i64 (lt : Int)) (x6 := .int .i64 (cm : Int)) (x7 := .int .i64 (hi : Int)) (x8 := .int .i64 (ro : Int)) (x9 := .bool ((ok : Int) == 1)) (x10 := .slice sp j cc) (x11 := .slice dp dm dc) (unhide Q13)
                                obtain ⟨z0, z1, z2, z3, z4, z5, z6, z7, z8, z9, z10, z11⟩ := twelve_cells q6
                                refine bodyPost_ret (v := .agg (msgCells ⟨kd, fr, to, ok, t, ix, lt, cm, hi, ro, es, d⟩ (.slice sp j cc) (.slice dp dm dc))) (by simp [results, Try.results21, go_sem, z0, z1, z2, z3, z4, z5, z6, z7, z8, z9, z10, z11]) rfl ?_
                                rw [unhide HE]
                                exact ⟨grown_new (unhide G13) s7 (Nat.le_refl _), ⟨_, rfl, sp, j, cc, dp, dm, dc, rfl, hes, ((unhide O13).far s7 (by omega)).mono (by omega), hdl, ((unhide D13).far s7 (by omega)).mono (by omega)⟩, (unhide RR13).far s7 (by have := unhide Hlt; omega) (fun b off h0 e => by have := unhide HBlt b off h0 e; omega)⟩
end Go.Proofs.Ytilkginjppgcoaa
