/- The contract of a reader's entry. -/
import Derived.Test.YtijcpmbfhfppmaaGreatDoorRent
namespace Go.Proofs.YtijcpmbfhfppmaaGreatDoor
open Go.ChangeShapes Go.WideShapes Go.ChangeAt Go.RowKit

theorem quad_cells {w : World} {j : Nat} {x y z u : Value} {T : TypeId} (h : w.heap[j]? = some (.cells #[x, y, z, u] T (0, 0))) : (w.cell? ⟨j, 0, none⟩ = some x ∧ w.cell? ⟨j, 1, none⟩ = some y ∧ w.cell? ⟨j, 2, none⟩ = some z ∧ w.cell? ⟨j, 3, none⟩ = some u) ∧
    w.frozen? ⟨j, 0, none⟩ = false ∧ w.frozen? ⟨j, 1, none⟩ = false ∧ w.frozen? ⟨j, 2, none⟩ = false ∧ w.frozen? ⟨j, 3, none⟩ = false := by
  refine ⟨⟨?_, ?_, ?_, ?_⟩, ?_, ?_, ?_, ?_⟩
  · rw [cell_of_row _ _ _ _ _ _ h]; rfl
  · rw [cell_of_row _ _ _ _ _ _ h]; rfl
  · rw [cell_of_row _ _ _ _ _ _ h]; rfl
  · rw [cell_of_row _ _ _ _ _ _ h]; rfl
  all_goals simp [World.frozen?, h]
/-- Four fields laid one behind the other. -/
theorem quad_laid {w : World} {j : Nat} {a b c d x y z u : Value} {T : TypeId} (h : w.heap[j]? = some (.cells #[a, b, c, d] T (0, 0))) :
    ((((w.setCell ⟨j, 0, none⟩ x).setCell ⟨j, 1, none⟩ y).setCell ⟨j, 2, none⟩ z).setCell ⟨j, 3, none⟩ u).heap[j]? = some (.cells #[x, y, z, u] T (0, 0)) ∧
    w.grownBy ((((w.setCell ⟨j, 0, none⟩ x).setCell ⟨j, 1, none⟩ y).setCell ⟨j, 2, none⟩ z).setCell ⟨j, 3, none⟩ u) (some j) := by
  have h1 := heap_setCell_same w j 0 _ T x h
  have h2 := heap_setCell_same _ j 1 _ T y h1
  have h3 := heap_setCell_same _ j 2 _ T z h2
  have h4 := heap_setCell_same _ j 3 _ T u h3
  refine ⟨by simpa using h4, ?_⟩
  exact grown_trans (grown_trans (grown_trans (grown_set _ _ _ _) (grown_set _ _ _ _)) (grown_set _ _ _ _)) (grown_set _ _ _ _)
set_option maxHeartbeats 2000000 in
theorem entry_E (R : Nat) (a : Option Addr) (c : Nat) (l : List Nat) (k : Nat) (w : World) (h : RdAt R w a c l k) (hl : l.length ≤ 140737488355328) (hc : l.length ≤ c) (hz : a = none → c = 0) :
    Calls Tryz.prog 216 #[.pointer (some ⟨R, 0, none⟩)] w (Ends R a c l w (EntIs w.heap.size) (entryE l k)) := by
  have HL := hide hl
  have HM := hide (show l.length ≤ maxLen by simp only [maxLen]; omega)
  have HC := hide hc
  have HZ := hide hz
  have b2 : Below w.heap.size w ((w.alloc (.cells #[.int .i64 0, .int .i64 0, .int .i64 0, .slice none 0 0] 60)).alloc (.cells #[.int .i64 0, .int .i64 0, .int .i64 0, .slice none 0 0] 60)) := ((Below.refl _ _).alloc (Nat.le_refl _) _).alloc (by rw [size_alloc]; omega) _
  have RR0 := hide (h.later b2)
  have Hlt := hide h.lt
  have HBlt := hide (fun b off h0 e => block_lt h.bytes h0 b off e)
  have G0 := hide (grown_below (some R) b2)
  have h1 := heap_old (.cells #[.int .i64 0, .int .i64 0, .int .i64 0, .slice none 0 0] 60) (heap_new w (.cells #[.int .i64 0, .int .i64 0, .int .i64 0, .slice none 0 0] 60))
  have h2 := heap_new (w.alloc (.cells #[.int .i64 0, .int .i64 0, .int .i64 0, .slice none 0 0] 60)) (.cells #[.int .i64 0, .int .i64 0, .int .i64 0, .slice none 0 0] 60)
  rw [size_alloc] at h2
  have Q0 := hide h1
  have E0 := hide h2
  have S0 := hide (show w.heap.size + 2 ≤ ((w.alloc (.cells #[.int .i64 0, .int .i64 0, .int .i64 0, .slice none 0 0] 60)).alloc (.cells #[.int .i64 0, .int .i64 0, .int .i64 0, .slice none 0 0] 60)).heap.size by rw [size_alloc, size_alloc]; omega)
  clear h hl hc hz b2 h1 h2
  go_enter Tryz.func216, Tryz.ntmps216
  go_wp2_with fail
  generalize (w.alloc (.cells #[.int .i64 0, .int .i64 0, .int .i64 0, .slice none 0 0] 60)).alloc (.cells #[.int .i64 0, .int .i64 0, .int .i64 0, .slice none 0 0] 60) = W0 at *

  refine (within_E R a c l 1 3 k _ (unhide RR0) (unhide HM)).mono ?_
  rintro e V1 ⟨hg1, hm1⟩
  have GV1 := hide (grown_trans (unhide G0) hg1)
  cases ht1 : oneE l 1 3 k with
  | error x =>
    rw [ht1] at hm1
    obtain rfl := hm1
    have HE := hide (show entryE l k = .error x by rw [entryE]; simp only [ht1])
    go_wp2
    rw [unhide HE]
    exact ⟨rfl, unhide GV1, rfl⟩
  | ok p =>
    obtain ⟨kd, k1⟩ := p
    rw [ht1] at hm1
    obtain ⟨⟨_, rfl, rfl⟩, hr1⟩ := hm1
    have q1 := grown_block hg1 (unhide Q0) (by have := unhide Hlt; omega)
    have q2 := grown_block hg1 (unhide E0) (by have := unhide Hlt; omega)
    obtain ⟨⟨c0, c1, c2, c3⟩, f0, f1, f2, f3⟩ := quad_cells q2
    have q3 := heap_setCell_same V1 (w.heap.size + 1) 0 _ 60 (.int .i64 (kd : Int)) q2
    have gs := grown_set V1 (w.heap.size + 1) 0 (.int .i64 (kd : Int))
    have Q1 := hide (grown_block gs q1 (by omega))
    have E1 : Hid ((V1.setCell ⟨w.heap.size + 1, 0, none⟩ (.int .i64 (kd : Int))).heap[w.heap.size + 1]? = some (.cells #[.int .i64 (kd : Int), .int .i64 0, .int .i64 0, .slice none 0 0] 60 (0, 0))) := hide (by simpa using q3)
    have G1 := hide (grown_new (unhide GV1) gs (by omega))
    have RR1 := hide (hr1.far gs (by have := unhide Hlt; omega) (fun b off h0 e => by have := unhide HBlt b off h0 e; omega))
    have S1 := hide (Nat.le_trans (Nat.le_trans (unhide S0) hg1.size) gs.size)
    clear q1 q2 q3 gs hg1 hr1 GV1 Q0 E0 G0 RR0 S0
    go_wp2_with fail
    generalize V1.setCell ⟨w.heap.size + 1, 0, none⟩ (.int .i64 (kd : Int)) = W1 at *
    clear c0 c1 c2 c3 f0 f1 f2 f3
    refine (positive_E R a c l k1 _ (unhide RR1) (unhide HM)).mono ?_
    rintro e V2 ⟨hg2, hm2⟩
    have GV2 := hide (grown_trans (unhide G1) hg2)
    cases ht2 : posE l k1 with
    | error x =>
      rw [ht2] at hm2
      obtain rfl := hm2
      have HE := hide (show entryE l k = .error x by rw [entryE]; simp only [ht1, ht2])
      go_wp2
      rw [unhide HE]
      exact ⟨rfl, unhide GV2, rfl⟩
    | ok p =>
      obtain ⟨t, k2⟩ := p
      rw [ht2] at hm2
      obtain ⟨⟨_, rfl, rfl⟩, hr2⟩ := hm2
      have q1 := grown_block hg2 (unhide Q1) (by have := unhide Hlt; omega)
      have q2 := grown_block hg2 (unhide E1) (by have := unhide Hlt; omega)
      obtain ⟨⟨c0, c1, c2, c3⟩, f0, f1, f2, f3⟩ := quad_cells q2
      have q3 := heap_setCell_same V2 (w.heap.size + 1) 1 _ 60 (.int .i64 (t : Int)) q2
      have gs := grown_set V2 (w.heap.size + 1) 1 (.int .i64 (t : Int))
      have Q2 := hide (grown_block gs q1 (by omega))
      have E2 : Hid ((V2.setCell ⟨w.heap.size + 1, 1, none⟩ (.int .i64 (t : Int))).heap[w.heap.size + 1]? = some (.cells #[.int .i64 (kd : Int), .int .i64 (t : Int), .int .i64 0, .slice none 0 0] 60 (0, 0))) := hide (by simpa using q3)
      have G2 := hide (grown_new (unhide GV2) gs (by omega))
      have RR2 := hide (hr2.far gs (by have := unhide Hlt; omega) (fun b off h0 e => by have := unhide HBlt b off h0 e; omega))
      have S2 := hide (Nat.le_trans (Nat.le_trans (unhide S1) hg2.size) gs.size)
      clear q1 q2 q3 gs hg2 hr2 GV2 Q1 E1 G1 RR1 S1
      go_wp2_with fail
      generalize V2.setCell ⟨w.heap.size + 1, 1, none⟩ (.int .i64 (t : Int)) = W2 at *
      clear c0 c1 c2 c3 f0 f1 f2 f3
      refine (positive_E R a c l k2 _ (unhide RR2) (unhide HM)).mono ?_
      rintro e V3 ⟨hg3, hm3⟩
      have GV3 := hide (grown_trans (unhide G2) hg3)
      cases ht3 : posE l k2 with
      | error x =>
        rw [ht3] at hm3
        obtain rfl := hm3
        have HE := hide (show entryE l k = .error x by rw [entryE]; simp only [ht1, ht2, ht3])
        go_wp2
        rw [unhide HE]
        exact ⟨rfl, unhide GV3, rfl⟩
      | ok p =>
        obtain ⟨i, k3⟩ := p
        rw [ht3] at hm3
        obtain ⟨⟨_, rfl, rfl⟩, hr3⟩ := hm3
        have q1 := grown_block hg3 (unhide Q2) (by have := unhide Hlt; omega)
        have q2 := grown_block hg3 (unhide E2) (by have := unhide Hlt; omega)
        obtain ⟨⟨c0, c1, c2, c3⟩, f0, f1, f2, f3⟩ := quad_cells q2
        have q3 := heap_setCell_same V3 (w.heap.size + 1) 2 _ 60 (.int .i64 (i : Int)) q2
        have gs := grown_set V3 (w.heap.size + 1) 2 (.int .i64 (i : Int))
        have Q3 := hide (grown_block gs q1 (by omega))
        have E3 : Hid ((V3.setCell ⟨w.heap.size + 1, 2, none⟩ (.int .i64 (i : Int))).heap[w.heap.size + 1]? = some (.cells #[.int .i64 (kd : Int), .int .i64 (t : Int), .int .i64 (i : Int), .slice none 0 0] 60 (0, 0))) := hide (by simpa using q3)
        have G3 := hide (grown_new (unhide GV3) gs (by omega))
        have RR3 := hide (hr3.far gs (by have := unhide Hlt; omega) (fun b off h0 e => by have := unhide HBlt b off h0 e; omega))
        have S3 := hide (Nat.le_trans (Nat.le_trans (unhide S2) hg3.size) gs.size)
        obtain ⟨⟨d0, _, _, _⟩, _⟩ := quad_cells (unhide E3)
        clear q1 q2 q3 gs hg3 hr3 GV3 Q2 E2 G2 RR2 S2
        go_wp2_with fail
        generalize V3.setCell ⟨w.heap.size + 1, 2, none⟩ (.int .i64 (i : Int)) = W3 at *
        clear c0 c1 c2 c3 f0 f1 f2 f3
        refine (entrySize_E R a c l kd k3 _ (unhide RR3) (unhide HM)).mono ?_
        rintro e V4 ⟨hg4, hm4⟩
        have GV4 := hide (grown_trans (unhide G3) hg4)
        cases ht4 : sizeE l kd k3 with
        | error x =>
          rw [ht4] at hm4
          obtain rfl := hm4
          have HE := hide (show entryE l k = .error x by rw [entryE]; simp only [ht1, ht2, ht3, ht4])
          go_wp2
          rw [unhide HE]
          exact ⟨rfl, unhide GV4, rfl⟩
        | ok p =>
          obtain ⟨n, k4⟩ := p
          rw [ht4] at hm4
          obtain ⟨⟨_, rfl, rfl⟩, hr4⟩ := hm4
          have Q4 := hide (grown_block hg4 (unhide Q3) (by have := unhide Hlt; omega))
          have E4 := hide (grown_block hg4 (unhide E3) (by have := unhide Hlt; omega))
          have G4 := hide (unhide GV4)
          have RR4 := hide hr4
          have S4 := hide (Nat.le_trans (unhide S3) hg4.size)
          clear hg4 hr4 GV4 Q3 E3 G3 RR3 S3 d0
          go_wp2_with fail
          refine (data_E R a c l n k4 _ (unhide RR4) (unhide HL) (unhide HC) (unhide HZ)).mono ?_
          rintro e V5 ⟨hg5, hm5⟩
          have GV5 := hide (grown_trans (unhide G4) hg5)
          cases ht5 : dataE l n k4 with
          | error x =>
            rw [ht5] at hm5
            obtain rfl := hm5
            have HE := hide (show entryE l k = .error x by rw [entryE]; simp only [ht1, ht2, ht3, ht4, ht5])
            go_wp2
            rw [unhide HE]
            exact ⟨rfl, unhide GV5, rfl⟩
          | ok p =>
            obtain ⟨d, k5⟩ := p
            rw [ht5] at hm5
            obtain ⟨⟨_, rfl, sp, m', cc, rfl, hlen, ho5⟩, hr5⟩ := hm5
            have q1 := grown_block hg5 (unhide Q4) (by have := unhide Hlt; omega)
            have q2 := grown_block hg5 (unhide E4) (by have := unhide Hlt; omega)
            obtain ⟨⟨c0, c1, c2, c3⟩, f0, f1, f2, f3⟩ := quad_cells q2
            have q3 := heap_setCell_same V5 (w.heap.size + 1) 3 _ 60 (.slice sp m' cc) q2
            have gs := grown_set V5 (w.heap.size + 1) 3 (.slice sp m' cc)
            have Q5 := hide (grown_block gs q1 (by omega))
            have E5 : Hid ((V5.setCell ⟨w.heap.size + 1, 3, none⟩ (.slice sp m' cc)).heap[w.heap.size + 1]? = some (.cells #[.int .i64 (kd : Int), .int .i64 (t : Int), .int .i64 (i : Int), .slice sp m' cc] 60 (0, 0))) := hide (by simpa using q3)
            have G5 := hide (grown_new (unhide GV5) gs (by omega))
            have RR5 := hide (hr5.far gs (by have := unhide Hlt; omega) (fun b off h0 e => by have := unhide HBlt b off h0 e; omega))
            have S5 := hide (Nat.le_trans (Nat.le_trans (unhide S4) hg5.size) gs.size)
            have O5 := hide (ho5.far gs (by have := unhide S4; omega))
            obtain ⟨⟨d0, d1, d2, d3⟩, _⟩ := quad_cells (unhide E5)
            obtain ⟨⟨g0, g1, g2, g3⟩, e0, e1, e2, e3⟩ := quad_cells (unhide Q5)
            clear q1 q2 q3 gs hg5 hr5 GV5 Q4 E4 G4 RR4 ho5
            go_wp2_with fail
            generalize V5.setCell ⟨w.heap.size + 1, 3, none⟩ (.slice sp m' cc) = W5 at *
            obtain ⟨q6, s7⟩ := quad_laid (x := .int .i64 (kd : Int)) (y := .int .i64 (t : Int)) (z := .int .i64 (i : Int)) (u := .slice sp m' cc) (unhide Q5)
            obtain ⟨⟨z0, z1, z2, z3⟩, _⟩ := quad_cells q6
            refine bodyPost_ret (v := entVal (kd : Int) (t : Int) (i : Int) sp m' cc) (by simp [results, Tryz.results216, go_sem, z0, z1, z2, z3]) rfl ?_
            have HE : entryE l k = .ok ((kd, t, i, d), k5) := by rw [entryE]; simp only [ht1, ht2, ht3, ht4, ht5]
            rw [HE]
            exact ⟨grown_new (unhide G5) s7 (Nat.le_refl _), ⟨_, rfl, sp, m', cc, rfl, hlen, ((unhide O5).far s7 (by have := unhide S4; omega)).mono (by have := unhide S4; omega)⟩, (unhide RR5).far s7 (by have := unhide Hlt; omega) (fun b off h0 e => by have := unhide HBlt b off h0 e; omega)⟩
end Go.Proofs.YtijcpmbfhfppmaaGreatDoor
