/- The contract of a reader's entry. -/
import Derived.Test.YtijcpmbfhfppmaaGreatDoorB06
import Derived.Test.YtijcpmbfhfppmaaGreatDoorB03
import Derived.Test.YtijcpmbfhfppmaaGreatDoorB05
import Derived.Deep.RegionHeld3
section
namespace Go.Proofs.YtijcpmbfhfppmaaGreatDoor
open Go.ChangeShapes Go.WideShapes Go.ChangeAt Go.RowKit

theorem quad_cells {w : World} {j : Nat} {x y z u : Value} {T : TypeId} (h : w.heap[j]? = some (.cells #[x, y, z, u] T (0, 0))) : (w.cell? ⟨j, 0, none⟩ = some x ∧ w.cell? ⟨j, 1, none⟩ = some y ∧ w.cell? ⟨j, 2, none⟩ = some z ∧ w.cell? ⟨j, 3, none⟩ = some u) ∧
    w.frozen? ⟨j, 0, none⟩ = false ∧ w.frozen? ⟨j, 1, none⟩ = false ∧ w.frozen? ⟨j, 2, none⟩ = false ∧ w.frozen? ⟨j, 3, none⟩ = false := by
  refine ⟨⟨?_, ?_, ?_, ?_⟩, ?_, ?_, ?_, ?_⟩
  · rw [cell_of_row _ _ _ _ _ _ h]; rfl
  · rw [cell_of_row _ _ _ _ _ _ h]; rfl
  · rw [cell_of_row _ _ _ _ _ _ h]; rfl
  · rw [cell_of_row _ _ _ _ _ _ h]; rfl
  all_goals simp [World.frozen?, h]
/-- Four fields laid one behind the other. -/
theorem quad_laid {w : World} {j : Nat} {a b c d x y z u : Value} {T : TypeId} (h : w.heap[j]? = some (.cells #[a, b, c, d] T (0, 0))) :
    ((((w.setCell ⟨j, 0, none⟩ x).setCell ⟨j, 1, none⟩ y).setCell ⟨j, 2, none⟩ z).setCell ⟨j, 3, none⟩ u).heap[j]? = some (.cells #[x, y, z, u] T (0, 0)) ∧
    w.grownBy ((((w.setCell ⟨j, 0, none⟩ x).setCell ⟨j, 1, none⟩ y).setCell ⟨j, 2, none⟩ z).setCell ⟨j, 3, none⟩ u) (some j) := by
  have h1 := heap_setCell_same w j 0 _ T x h
  have h2 := heap_setCell_same _ j 1 _ T y h1
  have h3 := heap_setCell_same _ j 2 _ T z h2
  have h4 := heap_setCell_same _ j 3 _ T u h3
  refine ⟨by simpa using h4, ?_⟩
  exact grown_trans (grown_trans (grown_trans (grown_set _ _ _ _) (grown_set _ _ _ _)) (grown_set _ _ _ _)) (grown_set _ _ _ _)
set_option maxHeartbeats 2000000 in
theorem entry_E (R : Nat) (a : Option Addr) (c : Nat) (l : List Nat) (k : Nat) (w : World) (h : RdAt R w a c l k) (hl : l.length ≤ 140737488355328) (hc : l.length ≤ c) (hz : a = none → c = 0) :
    Calls Tryz.prog 216 #[.pointer (some ⟨R, 0, none⟩)] w (Ends R a c l w (EntIs w.heap.size) (entryE l k)) := by
  have HL := hide hl
  have HM := hide (show l.length ≤ maxLen by simp only [maxLen]; omega)
  have HC := hide hc
  have HZ := hide hz
  have b2 : Below w.heap.size w ((w.alloc (.cells #[.int .i64 0, .int .i64 0, .int .i64 0, .slice none 0 0] 60)).alloc (.cells #[.int .i64 0, .int .i64 0, .int .i64 0, .slice none 0 0] 60)) := ((Below.refl _ _).alloc (Nat.le_refl _) _).alloc (by rw [size_alloc]; omega) _
  have RR0 := hide (h.later b2)
  have Hlt := hide h.lt
  have HBlt := hide (fun b off h0 e => block_lt h.bytes h0 b off e)
  have G0 := hide (grown_below (some R) b2)
  have h1 := heap_old (.cells #[.int .i64 0, .int .i64 0, .int .i64 0, .slice none 0 0] 60) (heap_new w (.cells #[.int .i64 0, .int .i64 0, .int .i64 0, .slice none 0 0] 60))
  have h2 := heap_new (w.alloc (.cells #[.int .i64 0, .int .i64 0, .int .i64 0, .slice none 0 0] 60)) (.cells #[.int .i64 0, .int .i64 0, .int .i64 0, .slice none 0 0] 60)
  rw [size_alloc] at h2
  have Q0 := hide h1
  have E0 := hide h2
  have S0 := hide (show w.heap.size + 2 ≤ ((w.alloc (.cells #[.int .i64 0, .int .i64 0, .int .i64 0, .slice none 0 0] 60)).alloc (.cells #[.int .i64 0, .int .i64 0, .int .i64 0, .slice none 0 0] 60)).heap.size by rw [size_alloc, size_alloc]; omega)
  clear h hl hc hz b2 h1 h2
  go_enter Tryz.func216, Tryz.ntmps216
  go_wp2_with fail
  generalize (w.alloc (.cells #[.int .i64 0, .int .i64 0, .int .i64 0, .slice none 0 0] 60)).alloc (.cells #[.int .i64 0, .int .i64 0, .int .i64 0, .slice none 0 0] 60) = W0 at *

  refine (within_E R a c l 1 3 k _ (unhide RR0) (unhide HM)).mono ?_
  rintro e V1 ⟨hg1, hm1⟩
  have GV1 := hide (grown_trans (unhide G0) hg1)
  cases ht1 : oneE l 1 3 k with
  | error x =>
    rw [ht1] at hm1
    obtain rfl := hm1
    have HE := hide (show entryE l k = .error x by rw [entryE]; simp only [ht1])
    go_wp2
    rw [unhide HE]
    exact ⟨rfl, unhide GV1, rfl⟩
  | ok p =>
    obtain ⟨kd, k1⟩ := p
    rw [ht1] at hm1
    obtain ⟨⟨_, rfl, rfl⟩, hr1⟩ := hm1
    have q1 := grown_block hg1 (unhide Q0) (by have := unhide Hlt; omega)
    have q2 := grown_block hg1 (unhide E0) (by have := unhide Hlt; omega)
    obtain ⟨⟨c0, c1, c2, c3⟩, f0, f1, f2, f3⟩ := quad_cells q2
    have q3 := heap_setCell_same V1 (w.heap.size + 1) 0 _ 60 (.int .i64 (kd : Int)) q2
    have gs := grown_set V1 (w.heap.size + 1) 0 (.int .i64 (kd : Int))
    have Q1 := hide (grown_block gs q1 (by omega))
    have E1 : Hid ((V1.setCell ⟨w.heap.size + 1, 0, none⟩ (.int .i64 (kd : Int))).heap[w.heap.size + 1]? = some (.cells #[.int .i64 (kd : Int), .int .i64 0, .int .i64 0, .slice none 0 0] 60 (0, 0))) := hide (by simpa using q3)
    have G1 := hide (grown_new (unhide GV1) gs (by omega))
    have RR1 := hide (hr1.far gs (by have := unhide Hlt; omega) (fun b off h0 e => by have := unhide HBlt b off h0 e; omega))
    have S1 := hide (Nat.le_trans (Nat.le_trans (unhide S0) hg1.size) gs.size)
    clear q1 q2 q3 gs hg1 hr1 GV1 Q0 E0 G0 RR0 S0
    go_wp2_with fail
    generalize V1.setCell ⟨w.heap.size + 1, 0, none⟩ (.int .i64 (kd : Int)) = W1 at *
    clear c0 c1 c2 c3 f0 f1 f2 f3
    refine (positive_E R a c l k1 _ (unhide RR1) (unhide HM)).mono ?_
    rintro e V2 ⟨hg2, hm2⟩
    have GV2 := hide (grown_trans (unhide G1) hg2)
    cases ht2 : posE l k1 with
    | error x =>
      rw [ht2] at hm2
      obtain rfl := hm2
      have HE := hide (show entryE l k = .error x by rw [entryE]; simp only [ht1, ht2])
      go_wp2
      rw [unhide HE]
      exact ⟨rfl, unhide GV2, rfl⟩
    | ok p =>
      obtain ⟨t, k2⟩ := p
      rw [ht2] at hm2
      obtain ⟨⟨_, rfl, rfl⟩, hr2⟩ := hm2
      have q1 := grown_block hg2 (unhide Q1) (by have := unhide Hlt; omega)
      have q2 := grown_block hg2 (unhide E1) (by have := unhide Hlt; omega)
      obtain ⟨⟨c0, c1, c2, c3⟩, f0, f1, f2, f3⟩ := quad_cells q2
      have q3 := heap_setCell_same V2 (w.heap.size + 1) 1 _ 60 (.int .i64 (t : Int)) q2
      have gs := grown_set V2 (w.heap.size + 1) 1 (.int .i64 (t : Int))
      have Q2 := hide (grown_block gs q1 (by omega))
      have E2 : Hid ((V2.setCell ⟨w.heap.size + 1, 1, none⟩ (.int .i64 (t : Int))).heap[w.heap.size + 1]? = some (.cells #[.int .i64 (kd : Int), .int .i64 (t : Int), .int .i64 0, .slice none 0 0] 60 (0, 0))) := hide (by simpa using q3)
      have G2 := hide (grown_new (unhide GV2) gs (by omega))
      have RR2 := hide (hr2.far gs (by have := unhide Hlt; omega) (fun b off h0 e => by have := unhide HBlt b off h0 e; omega))
      have S2 := hide (Nat.le_trans (Nat.le_trans (unhide S1) hg2.size) gs.size)
      clear q1 q2 q3 gs hg2 hr2 GV2 Q1 E1 G1 RR1 S1
      go_wp2_with fail
      generalize V2.setCell ⟨w.heap.size + 1, 1, none⟩ (.int .i64 (t : Int)) = W2 at *
      clear c0 c1 c2 c3 f0 f1 f2 f3
      refine (positive_E R a c l k2 _ (unhide RR2) (unhide HM)).mono ?_
      rintro e V3 ⟨hg3, hm3⟩
      have GV3 := hide (grown_trans (unhide G2) hg3)
      cases ht3 : posE l k2 with
      | error x =>
        rw [ht3] at hm3
        obtain rfl := hm3
        have HE := hide (show entryE l k = .error x by rw [entryE]; simp only [ht1, ht2, ht3])
        go_wp2
        rw [unhide HE]
        exact ⟨rfl, unhide GV3, rfl⟩
      | ok p =>
        obtain ⟨i, k3⟩ := p
        rw [ht3] at hm3
        obtain ⟨⟨_, rfl, rfl⟩, hr3⟩ := hm3
        have q1 := grown_block hg3 (unhide Q2) (by have := unhide Hlt; omega)
        have q2 := grown_block hg3 (unhide E2) (by have := unhide Hlt; omega)
        obtain ⟨⟨c0, c1, c2, c3⟩, f0, f1, f2, f3⟩ := quad_cells q2
        have q3 := heap_setCell_same V3 (w.heap.size + 1) 2 _ 60 (.int .i64 (i : Int)) q2
        have gs := grown_set V3 (w.heap.size + 1) 2 (.int .i64 (i : Int))
        have Q3 := hide (grown_block gs q1 (by omega))
        have E3 : Hid ((V3.setCell ⟨w.heap.size + 1, 2, none⟩ (.int .i64 (i : Int))).heap[w.heap.size + 1]? = some (.cells #[.int .i64 (kd : Int), .int .i64 (t : Int), .int .i64 (i : Int), .slice none 0 0] 60 (0, 0))) := hide (by simpa using q3)
        have G3 := hide (grown_new (unhide GV3) gs (by omega))
        have RR3 := hide (hr3.far gs (by have := unhide Hlt; omega) (fun b off h0 e => by have := unhide HBlt b off h0 e; omega))
        have S3 := hide (Nat.le_trans (Nat.le_trans (unhide S2) hg3.size) gs.size)
        obtain ⟨⟨d0, _, _, _⟩, _⟩ := quad_cells (unhide E3)
        clear q1 q2 q3 gs hg3 hr3 GV3 Q2 E2 G2 RR2 S2
        go_wp2_with fail
        generalize V3.setCell ⟨w.heap.size + 1, 2, none⟩ (.int .i64 (i : Int)) = W3 at *
        clear c0 c1 c2 c3 f0 f1 f2 f3
        refine (entrySize_E R a c l kd k3 _ (unhide RR3) (unhide HM)).mono ?_
        rintro e V4 ⟨hg4, hm4⟩
        have GV4 := hide (grown_trans (unhide G3) hg4)
        cases ht4 : sizeE l kd k3 with
        | error x =>
          rw [ht4] at hm4
          obtain rfl := hm4
          have HE := hide (show entryE l k = .error x by rw [entryE]; simp only [ht1, ht2, ht3, ht4])
          go_wp2
          rw [unhide HE]
          exact ⟨rfl, unhide GV4, rfl⟩
        | ok p =>
          obtain ⟨n, k4⟩ := p
          rw [ht4] at hm4
          obtain ⟨⟨_, rfl, rfl⟩, hr4⟩ := hm4
          have Q4 := hide (grown_block hg4 (unhide Q3) (by have := unhide Hlt; omega))
          have E4 := hide (grown_block hg4 (unhide E3) (by have := unhide Hlt; omega))
          have G4 := hide (unhide GV4)
          have RR4 := hide hr4
          have S4 := hide (Nat.le_trans (unhide S3) hg4.size)
          clear hg4 hr4 GV4 Q3 E3 G3 RR3 S3 d0
          go_wp2_with fail
          refine (data_E R a c l n k4 _ (unhide RR4) (unhide HL) (unhide HC) (unhide HZ)).mono ?_
          rintro e V5 ⟨hg5, hm5⟩
          have GV5 := hide (grown_trans (unhide G4) hg5)
          cases ht5 : dataE l n k4 with
          | error x =>
            rw [ht5] at hm5
            obtain rfl := hm5
            have HE := hide (show entryE l k = .error x by rw [entryE]; simp only [ht1, ht2, ht3, ht4, ht5])
            go_wp2
            rw [unhide HE]
            exact ⟨rfl, unhide GV5, rfl⟩
          | ok p =>
            obtain ⟨d, k5⟩ := p
            rw [ht5] at hm5
            obtain ⟨⟨_, rfl, sp, m', cc, rfl, hlen, ho5⟩, hr5⟩ := hm5
            have q1 := grown_block hg5 (unhide Q4) (by have := unhide Hlt; omega)
            have q2 := grown_block hg5 (unhide E4) (by have := unhide Hlt; omega)
            obtain ⟨⟨c0, c1, c2, c3⟩, f0, f1, f2, f3⟩ := quad_cells q2
            have q3 := heap_setCell_same V5 (w.heap.size + 1) 3 _ 60 (.slice sp m' cc) q2
            have gs := grown_set V5 (w.heap.size + 1) 3 (.slice sp m' cc)
            have Q5 := hide (grown_block gs q1 (by omega))
            have E5 : Hid ((V5.setCell ⟨w.heap.size + 1, 3, none⟩ (.slice sp m' cc)).heap[w.heap.size + 1]? = some (.cells #[.int .i64 (kd : Int), .int .i64 (t : Int), .int .i64 (i : Int), .slice sp m' cc] 60 (0, 0))) := hide (by simpa using q3)
            have G5 := hide (grown_new (unhide GV5) gs (by omega))
            have RR5 := hide (hr5.far gs (by have := unhide Hlt; omega) (fun b off h0 e => by have := unhide HBlt b off h0 e; omega))
            have S5 := hide (Nat.le_trans (Nat.le_trans (unhide S4) hg5.size) gs.size)
            have O5 := hide (ho5.far gs (by have := unhide S4; omega))
            obtain ⟨⟨d0, d1, d2, d3⟩, _⟩ := quad_cells (unhide E5)
            obtain ⟨⟨g0, g1, g2, g3⟩, e0, e1, e2, e3⟩ := quad_cells (unhide Q5)
            clear q1 q2 q3 gs hg5 hr5 GV5 Q4 E4 G4 RR4 ho5
            go_wp2_with fail
            generalize V5.setCell ⟨w.heap.size + 1, 3, none⟩ (.slice sp m' cc) = W5 at *
            obtain ⟨q6, s7⟩ := quad_laid (x := .int .i64 (kd : Int)) (y := .int .i64 (t : Int)) (z := .int .i64 (i : Int)) (u := .slice sp m' cc) (unhide Q5)
            obtain ⟨⟨z0, z1, z2, z3⟩, _⟩ := quad_cells q6
            refine bodyPost_ret (v := entVal (kd : Int) (t : Int) (i : Int) sp m' cc) (by simp [results, Tryz.results216, go_sem, z0, z1, z2, z3]) rfl ?_
            have HE : entryE l k = .ok ((kd, t, i, d), k5) := by rw [entryE]; simp only [ht1, ht2, ht3, ht4, ht5]
            rw [HE]
            exact ⟨grown_new (unhide G5) s7 (Nat.le_refl _), ⟨_, rfl, sp, m', cc, rfl, hlen, ((unhide O5).far s7 (by have := unhide S4; omega)).mono (by have := unhide S4; omega)⟩, (unhide RR5).far s7 (by have := unhide Hlt; omega) (fun b off h0 e => by have := unhide HBlt b off h0 e; omega)⟩
end Go.Proofs.YtijcpmbfhfppmaaGreatDoor
end
/- Plain: a message from a place on. -/
section
namespace Go.Proofs.YtijcpmbfhfppmaaGreatDoor

/-- An entry in numbers: kind, term, index, data. -/
abbrev EntN := Nat × Nat × Nat × List Nat
def bindE {α β : Type} (r : Except Nat (α × Nat)) (f : α → Nat → Except Nat (β × Nat)) : Except Nat (β × Nat) :=
  match r with
  | .error x => .error x
  | .ok (a, k) => f a k
def entsE (l : List Nat) : Nat → Nat → Except Nat (List EntN × Nat)
  | 0, k => .ok ([], k)
  | n + 1, k => bindE (entryE l k) fun e k => bindE (entsE l n k) fun es k => .ok (e :: es, k)
def upE (l : List Nat) (most k : Nat) : Except Nat (Nat × Nat) := bindE (takeE l k) fun n k => if most < n then .error 6 else .ok (n, k)
structure MsgN where
  kd : Nat
  fr : Nat
  to : Nat
  ok : Nat
  t : Nat
  ix : Nat
  lt : Nat
  cm : Nat
  hi : Nat
  ro : Nat
  es : List EntN
  d : List Nat
/-- A message from a place on. -/
def msgE (l : List Nat) (k : Nat) : Except Nat (MsgN × Nat) :=
  bindE (oneE l 1 7 k) fun kd k => bindE (oneE l 1 9 k) fun fr k => bindE (oneE l 1 9 k) fun to k => bindE (oneE l 0 1 k) fun ok k =>
  bindE (takeE l k) fun t k => bindE (takeE l k) fun ix k => bindE (takeE l k) fun lt k => bindE (takeE l k) fun cm k => bindE (takeE l k) fun hi k => bindE (takeE l k) fun ro k =>
  bindE (upE l 8 k) fun n k => bindE (entsE l n k) fun es k => bindE (upE l 32768 k) fun m k => bindE (dataE l m k) fun d k => .ok (⟨kd, fr, to, ok, t, ix, lt, cm, hi, ro, es, d⟩, k)
theorem bindE_err {α β : Type} {r : Except Nat (α × Nat)} {f : α → Nat → Except Nat (β × Nat)} {x : Nat} (h : r = .error x) : bindE r f = .error x := by rw [h]; rfl
theorem bindE_ok {α β : Type} {r : Except Nat (α × Nat)} {f : α → Nat → Except Nat (β × Nat)} {a : α} {k : Nat} (h : r = .ok (a, k)) : bindE r f = f a k := by rw [h]; rfl
/-- One entry more at the end. -/
theorem entsE_step {l : List Nat} : ∀ {n k k1 : Nat} {es : List EntN}, entsE l n k = .ok (es, k1) → ∀ (j : Nat), entsE l (n + j) k = bindE (entsE l j k1) fun es2 k2 => .ok (es ++ es2, k2)
  | 0, k, k1, es, h, j => by
    simp only [entsE, Except.ok.injEq, Prod.mk.injEq] at h
    obtain ⟨rfl, rfl⟩ := h
    rw [Nat.zero_add]
    cases entsE l j k <;> rfl
  | n + 1, k, k1, es, h, j => by
    rw [entsE] at h
    rw [show n + 1 + j = (n + j) + 1 by omega, entsE]
    cases h1 : entryE l k with
    | error x => rw [bindE_err h1] at h; cases h
    | ok p =>
      obtain ⟨e, k'⟩ := p
      rw [bindE_ok h1] at h
      rw [bindE_ok rfl]
      cases h2 : entsE l n k' with
      | error x => rw [bindE_err h2] at h; cases h
      | ok q =>
        obtain ⟨es', k''⟩ := q
        rw [bindE_ok h2] at h
        simp only [Except.ok.injEq, Prod.mk.injEq] at h
        obtain ⟨rfl, rfl⟩ := h
        rw [entsE_step h2 j]
        cases entsE l j k'' <;> rfl
theorem bindE_inv {α β : Type} {r : Except Nat (α × Nat)} {f : α → Nat → Except Nat (β × Nat)} {z : β × Nat} (h : bindE r f = .ok z) : ∃ a k, r = .ok (a, k) ∧ f a k = .ok z := by
  unfold bindE at h
  split at h
  · cases h
  · exact ⟨_, _, rfl, h⟩
/-- A message that is read: its pieces. -/
theorem msgE_inv {l : List Nat} {k k' : Nat} {m : MsgN} (h : msgE l k = .ok (m, k')) : ∃ k1 k2 k3 k4 k5 k6 k7 k8 k9 k10 n k11 k12 q k13,
    oneE l 1 7 k = .ok (m.kd, k1) ∧ oneE l 1 9 k1 = .ok (m.fr, k2) ∧ oneE l 1 9 k2 = .ok (m.to, k3) ∧ oneE l 0 1 k3 = .ok (m.ok, k4) ∧ takeE l k4 = .ok (m.t, k5) ∧ takeE l k5 = .ok (m.ix, k6) ∧ takeE l k6 = .ok (m.lt, k7) ∧ takeE l k7 = .ok (m.cm, k8) ∧ takeE l k8 = .ok (m.hi, k9) ∧ takeE l k9 = .ok (m.ro, k10) ∧
    upE l 8 k10 = .ok (n, k11) ∧ entsE l n k11 = .ok (m.es, k12) ∧ upE l 32768 k12 = .ok (q, k13) ∧ dataE l q k13 = .ok (m.d, k') := by
  obtain ⟨a1, k1, h1, h⟩ := bindE_inv h
  obtain ⟨a2, k2, h2, h⟩ := bindE_inv h
  obtain ⟨a3, k3, h3, h⟩ := bindE_inv h
  obtain ⟨a4, k4, h4, h⟩ := bindE_inv h
  obtain ⟨a5, k5, h5, h⟩ := bindE_inv h
  obtain ⟨a6, k6, h6, h⟩ := bindE_inv h
  obtain ⟨a7, k7, h7, h⟩ := bindE_inv h
  obtain ⟨a8, k8, h8, h⟩ := bindE_inv h
  obtain ⟨a9, k9, h9, h⟩ := bindE_inv h
  obtain ⟨a10, k10, h10, h⟩ := bindE_inv h
  obtain ⟨n, k11, h11, h⟩ := bindE_inv h
  obtain ⟨es, k12, h12, h⟩ := bindE_inv h
  obtain ⟨q, k13, h13, h⟩ := bindE_inv h
  obtain ⟨d, k14, h14, h⟩ := bindE_inv h
  simp only [Except.ok.injEq, Prod.mk.injEq] at h
  obtain ⟨rfl, rfl⟩ := h
  exact ⟨k1, k2, k3, k4, k5, k6, k7, k8, k9, k10, n, k11, k12, q, k13, h1, h2, h3, h4, h5, h6, h7, h8, h9, h10, h11, h12, h13, h14⟩
end Go.Proofs.YtijcpmbfhfppmaaGreatDoor
end
/- Entries in memory: one's own rows of entries. -/
section
namespace Go.Proofs.YtijcpmbfhfppmaaGreatDoor
open Go.ChangeShapes Go.WideShapes Go.ChangeAt Go.RowKit

/-- The four cells of an entry. -/
def entRow (e : EntN) (h : Option Addr × Nat) : List Value := [.int .i64 (e.1 : Int), .int .i64 (e.2.1 : Int), .int .i64 (e.2.2.1 : Int), .slice h.1 e.2.2.2.length h.2]
def rowsV (es : List EntN) (hs : List (Option Addr × Nat)) : List Value := (es.zip hs).flatMap fun p => entRow p.1 p.2
theorem rowsV_length : ∀ (es : List EntN) (hs : List (Option Addr × Nat)), hs.length = es.length → (rowsV es hs).length = es.length * 4
  | [], [], _ => rfl
  | e :: es, h :: hs, hl => by
    have := rowsV_length es hs (by simpa using hl)
    simp only [rowsV, List.zip_cons_cons, List.flatMap_cons, List.length_append, List.length_cons] at this ⊢
    rw [this]
    simp only [entRow, List.length_cons, List.length_nil]
    omega
theorem rowsV_snoc (es : List EntN) (hs : List (Option Addr × Nat)) (e : EntN) (h : Option Addr × Nat) (hl : hs.length = es.length) : rowsV (es ++ [e]) (hs ++ [h]) = rowsV es hs ++ entRow e h := by
  unfold rowsV
  rw [List.zip_append hl.symm, List.flatMap_append]
  simp
/-- One's own entries, with their data; no two share a block. -/
structure OwnH (base : Nat) (w : World) (sp : Option Addr) (c : Nat) (es : List EntN) (hs : List (Option Addr × Nat)) : Prop where
  len : hs.length = es.length
  row : w.ownsRow base 60 4 (.slice sp es.length c) es.length (rowsV es hs)
  dat : ∀ i, i < es.length → OwnB base w (hs.getD i (none, 0)).1 (hs.getD i (none, 0)).2 (es.getD i default).2.2.2
  apart : ∀ i k, i < k → k < es.length → ∀ g, blk (hs.getD i (none, 0)).1 = some g → blk (hs.getD k (none, 0)).1 ≠ some g
structure OwnEs (base : Nat) (w : World) (sp : Option Addr) (c : Nat) (es : List EntN) : Prop where
  own : ∃ hs : List (Option Addr × Nat), OwnH base w sp c es hs
/-- The same, and all data lie below a block. -/
structure OwnT (base top : Nat) (w : World) (sp : Option Addr) (c : Nat) (es : List EntN) : Prop where
  own : ∃ hs : List (Option Addr × Nat), OwnH base w sp c es hs ∧ ∀ i, i < es.length → ∀ g, blk (hs.getD i (none, 0)).1 = some g → g < top
theorem OwnEs.ex {base : Nat} {w : World} {sp : Option Addr} {c : Nat} {es : List EntN} (h : OwnEs base w sp c es) : ∃ hs : List (Option Addr × Nat), hs.length = es.length ∧ w.ownsRow base 60 4 (.slice sp es.length c) es.length (rowsV es hs) ∧ ∀ i, i < es.length → OwnB base w (hs.getD i (none, 0)).1 (hs.getD i (none, 0)).2 (es.getD i default).2.2.2 := by
  obtain ⟨hs, h⟩ := h.own
  exact ⟨hs, h.len, h.row, h.dat⟩
theorem OwnEs.ofNil (base : Nat) (w : World) : OwnEs base w none 0 [] := ⟨[], rfl, w.ownsRow_nil base 60 4, by simp, by simp⟩
theorem ownsRow_far {base : Nat} {w w' : World} {e : TypeId} {size n j : Nat} {v : Value} {xs : List Value} (h : w.ownsRow base e size v n xs) (hg : w.grownBy w' (some j)) (hj : j < base) : w'.ownsRow base e size v n xs := by
  refine ⟨h.1, ?_⟩
  rcases h.2 with hv | ⟨g, cap, cur, hv, hbg, hgg, r⟩
  · exact .inl hv
  · exact .inr ⟨g, cap, cur, hv, hbg, (hg.block g (Array.getElem?_eq_some_iff.1 hgg).1 (fun e => by have := Option.some.inj e; omega)).trans hgg, r⟩
theorem ownsRow_later {base : Nat} {w w' : World} {e : TypeId} {size n : Nat} {v : Value} {xs : List Value} (h : w.ownsRow base e size v n xs) (hb : Below w.heap.size w w') : w'.ownsRow base e size v n xs := by
  refine ⟨h.1, ?_⟩
  rcases h.2 with hv | ⟨g, cap, cur, hv, hbg, hgg, r⟩
  · exact .inl hv
  · exact .inr ⟨g, cap, cur, hv, hbg, (hb.block g (Array.getElem?_eq_some_iff.1 hgg).1).trans hgg, r⟩
theorem OwnH.far {base : Nat} {w w' : World} {sp : Option Addr} {c j : Nat} {es : List EntN} {hs : List (Option Addr × Nat)} (h : OwnH base w sp c es hs) (hg : w.grownBy w' (some j)) (hj : j < base) : OwnH base w' sp c es hs :=
  ⟨h.len, ownsRow_far h.row hg hj, fun i hi => (h.dat i hi).far hg hj, h.apart⟩
theorem OwnH.later {base : Nat} {w w' : World} {sp : Option Addr} {c : Nat} {es : List EntN} {hs : List (Option Addr × Nat)} (h : OwnH base w sp c es hs) (hb : Below w.heap.size w w') : OwnH base w' sp c es hs :=
  ⟨h.len, ownsRow_later h.row hb, fun i hi => (h.dat i hi).later hb, h.apart⟩
theorem OwnH.mono {base base' : Nat} {w : World} {sp : Option Addr} {c : Nat} {es : List EntN} {hs : List (Option Addr × Nat)} (h : OwnH base w sp c es hs) (hb : base' ≤ base) : OwnH base' w sp c es hs := by
  refine ⟨h.len, ⟨h.row.1, ?_⟩, fun i hi => (h.dat i hi).mono hb, h.apart⟩
  rcases h.row.2 with hv | ⟨g, cap, cur, hv, hbg, r⟩
  · exact .inl hv
  · exact .inr ⟨g, cap, cur, hv, by omega, r⟩
theorem OwnH.drew {base : Nat} {w : World} {sp : Option Addr} {c : Nat} {es : List EntN} {hs : List (Option Addr × Nat)} (h : OwnH base w sp c es hs) : OwnH base w.drew sp c es hs :=
  ⟨h.len, h.row, fun i hi => ⟨(h.dat i hi).owns, (h.dat i hi).lt⟩, h.apart⟩
theorem OwnEs.far {base : Nat} {w w' : World} {sp : Option Addr} {c j : Nat} {es : List EntN} (h : OwnEs base w sp c es) (hg : w.grownBy w' (some j)) (hj : j < base) : OwnEs base w' sp c es := by
  obtain ⟨hs, h⟩ := h.own
  exact ⟨hs, h.far hg hj⟩
theorem OwnEs.later {base : Nat} {w w' : World} {sp : Option Addr} {c : Nat} {es : List EntN} (h : OwnEs base w sp c es) (hb : Below w.heap.size w w') : OwnEs base w' sp c es := by
  obtain ⟨hs, h⟩ := h.own
  exact ⟨hs, h.later hb⟩
theorem OwnEs.mono {base base' : Nat} {w : World} {sp : Option Addr} {c : Nat} {es : List EntN} (h : OwnEs base w sp c es) (hb : base' ≤ base) : OwnEs base' w sp c es := by
  obtain ⟨hs, h⟩ := h.own
  exact ⟨hs, h.mono hb⟩
theorem OwnEs.drew {base : Nat} {w : World} {sp : Option Addr} {c : Nat} {es : List EntN} (h : OwnEs base w sp c es) : OwnEs base w.drew sp c es := by
  obtain ⟨hs, h⟩ := h.own
  exact ⟨hs, h.drew⟩
theorem OwnT.far {base top : Nat} {w w' : World} {sp : Option Addr} {c j : Nat} {es : List EntN} (h : OwnT base top w sp c es) (hg : w.grownBy w' (some j)) (hj : j < base) : OwnT base top w' sp c es := by
  obtain ⟨hs, h, ht⟩ := h.own
  exact ⟨hs, h.far hg hj, ht⟩
theorem OwnT.later {base top : Nat} {w w' : World} {sp : Option Addr} {c : Nat} {es : List EntN} (h : OwnT base top w sp c es) (hb : Below w.heap.size w w') : OwnT base top w' sp c es := by
  obtain ⟨hs, h, ht⟩ := h.own
  exact ⟨hs, h.later hb, ht⟩
/-- Bytes lie in no block of entries. -/
theorem OwnB.notEnts {base base' : Nat} {w : World} {sp sp' : Option Addr} {c c' n : Nat} {l : List Nat} {xs : List Value} (h : OwnB base w sp c l) (h' : w.ownsRow base' 60 4 (.slice sp' n c') n xs) : ∀ g, blk sp = some g → blk sp' ≠ some g := by
  intro g hg hg'
  rcases h.owns.2 with ⟨hv, _⟩ | ⟨g1, cap, cur, hv, _, hh, _⟩
  · simp only [Value.slice.injEq] at hv
    rw [hv.1] at hg
    cases hg
  · simp only [Value.slice.injEq] at hv
    rw [hv.1] at hg
    obtain rfl : g1 = g := by simpa [blk] using hg
    rcases h'.2 with ⟨hv', _⟩ | ⟨g2, cap', cur', hv', _, hh', _⟩
    · simp only [Value.slice.injEq] at hv'
      rw [hv'.1] at hg'
      cases hg'
    · simp only [Value.slice.injEq] at hv'
      rw [hv'.1] at hg'
      obtain rfl : g2 = g1 := by simpa [blk] using hg'
      rw [hh] at hh'
      simp at hh'
theorem OwnB.grownNe {base : Nat} {w w' : World} {sp : Option Addr} {c : Nat} {l : List Nat} {o : Option Nat} (h : OwnB base w sp c l) (hg : w.grownBy w' o) (hne : ∀ g, blk sp = some g → o ≠ some g) : OwnB base w' sp c l := by
  refine ⟨⟨h.owns.1, ?_⟩, h.lt⟩
  rcases h.owns.2 with hv | ⟨g, cap, cur, hv, hbg, hgg, r⟩
  · exact .inl hv
  · refine .inr ⟨g, cap, cur, hv, hbg, (hg.block g (Array.getElem?_eq_some_iff.1 hgg).1 (fun e => ?_)).trans hgg, r⟩
    simp only [Value.slice.injEq] at hv
    exact hne g (by rw [hv.1]; rfl) e.symm
theorem infoE : (Tryz.prog.info? 60).map (fun i => (i.zero, i.size, i.bytes)) = some (some (.agg #[.int .i64 0, .int .i64 0, .int .i64 0, .slice none 0 0]), 4, 48) := by kernel_rfl
/-- Any entry is appended: what it leaves besides. -/
theorem step_appendX {w : World} {ops : Array Oper} {o : Oper} {a : Act} {K : Act → World → Prop} {Q : Exit → Act → World → Prop} {E : Prop} (hgd : o.guard = none) (s x : Operand)
    (ho : o.op = .call { callee := .builtin .append, args := #[s, x], argTypes := #[27, 27] })
    (base : Nat) (sp : Option Addr) (n c : Nat) (es : List EntN) (hs : a.eval s = .slice sp n c) (hn : es.length = n) (hown : OwnEs base w sp c es) (B : Nat) (k t i : Int) (dp : Option Addr) (dm dc : Nat) (hx : a.eval x = .slice (some ⟨B, 0, none⟩) 1 1)
    (hB : w.heap[B]? = some (.cells #[.int .i64 k, .int .i64 t, .int .i64 i, .slice dp dm dc] 60 (0, 0))) (hlen : es.length ≤ 1048576) (hbase : base ≤ w.heap.size)
    (hk : ∀ sp' c' w', w.grownBy w' (blk sp) → K (a.put o.dst (.slice sp' (n + 1) c')) w') :
    if Region.wanted o (yielded ops a.tmps) = true then Oper.wp Tryz.prog o a w K Q else E := by
  subst hn
  have hw : Region.wanted o (yielded ops a.tmps) = true := by simp [Region.wanted, hgd]
  rw [if_pos hw]
  obtain ⟨hs', hl, hrow, _⟩ := hown.ex
  obtain ⟨i0, hi, hz0, hz1, hz2⟩ := info_parts infoE
  obtain ⟨v', w', hrun, h1, h2, _, _⟩ := run_append_own_at (P := Tryz.prog) w base 27 o.type 60 i0 _ 4 48 Tryz.underlying27 hi hz0 hz1 hz2 rfl (by omega) _ _ _ hrow ⟨B, 0, none⟩ 1 1 [.int .i64 k, .int .i64 t, .int .i64 i, .slice dp dm dc] rfl
    (fun j u hu => by have := World.news_of_block hB j u; simp only at this; exact this hu) (by intro u hu; simp only [List.mem_cons, List.not_mem_nil, or_false] at hu; rcases hu with rfl | rfl | rfl | rfl <;> rfl) (by simp only [maxLen]; omega) (by omega) hbase
  have hv : ∃ sp' c', v' = .slice sp' (es.length + 1) c' := by
    rcases h1.2 with ⟨hv, h0⟩ | ⟨g, cap, cur, hv, _⟩
    · omega
    · exact ⟨_, _, hv⟩
  obtain ⟨sp', c', rfl⟩ := hv
  rw [ownBlock_slice] at h2
  unfold Oper.wp
  simp [execOp, ho, resolve, invoke, builtin, hs, hx, hrun, Result.andThen]
  exact hk sp' c' w' h2
/-- One's own bytes that lie apart from the data of one's own entries, which lie further down. -/
structure OwnD (base : Nat) (w : World) (ep : Option Addr) (ec : Nat) (es : List EntN) (sp : Option Addr) (c : Nat) (l : List Nat) : Prop where
  own : OwnB base w sp c l
  ap : ∃ top, OwnT base top w ep ec es ∧ ∀ g, blk sp = some g → top ≤ g
theorem OwnD.bytes {base : Nat} {w : World} {ep : Option Addr} {ec : Nat} {es : List EntN} {sp : Option Addr} {c : Nat} {l : List Nat} (h : OwnD base w ep ec es sp c l) : BytesAt w sp l := h.own.bytes
theorem OwnD.far {base : Nat} {w w' : World} {ep : Option Addr} {ec : Nat} {es : List EntN} {sp : Option Addr} {c j : Nat} {l : List Nat} (h : OwnD base w ep ec es sp c l) (hg : w.grownBy w' (some j)) (hj : j < base) : OwnD base w' ep ec es sp c l := by
  obtain ⟨top, ht, hl⟩ := h.ap
  exact ⟨h.own.far hg hj, top, ht.far hg hj, hl⟩
theorem OwnD.later {base : Nat} {w w' : World} {ep : Option Addr} {ec : Nat} {es : List EntN} {sp : Option Addr} {c : Nat} {l : List Nat} (h : OwnD base w ep ec es sp c l) (hb : Below w.heap.size w w') : OwnD base w' ep ec es sp c l := by
  obtain ⟨top, ht, hl⟩ := h.ap
  exact ⟨h.own.later hb, top, ht.later hb, hl⟩
theorem OwnD.mono {base base' : Nat} {w : World} {ep : Option Addr} {ec : Nat} {es : List EntN} {sp : Option Addr} {c : Nat} {l : List Nat} (h : OwnD base w ep ec es sp c l) (hb : base' ≤ base) : OwnD base' w ep ec es sp c l := by
  obtain ⟨top, ⟨hs, ht, hh⟩, hl⟩ := h.ap
  exact ⟨h.own.mono hb, top, ⟨hs, ht.mono hb, hh⟩, hl⟩
end Go.Proofs.YtijcpmbfhfppmaaGreatDoor
end
/- The contract of tollgateref02.SameEntry. -/
section
namespace Go.Proofs.YtijcpmbfhfppmaaGreatDoor
open Go.ChangeShapes Go.WideShapes Go.ChangeAt Go.RowKit
theorem str_eq_same (l : List Nat) : ((strOf l).toList == (strOf l).toList) = true := by simp
set_option maxHeartbeats 1000000 in
theorem sameEntry_yes (k t i : Int) (a a' : Option Addr) (n n' c c' : Nat) (l : List Nat) (w : World) (hn : l.length = n) (hn' : l.length = n') (hb : BytesAt w a l) (hb' : BytesAt w a' l) :
    Calls Tryz.prog 59 #[entVal k t i a n c, entVal k t i a' n' c'] w fun e w' => e = .returned (.bool true) ∧ Below w.heap.size w w' := by
  have x0 := heap_old (entB k t i a' n' c') (heap_new w (entB k t i a n c))
  have x1 := heap_new (w.alloc (entB k t i a n c)) (entB k t i a' n' c')
  rw [size_alloc] at x1
  obtain ⟨c0, c1, c2, c3⟩ := entB_cells x0
  obtain ⟨d0, d1, d2, d3⟩ := entB_cells x1
  have bA : Below w.heap.size w ((w.alloc (entB k t i a n c)).alloc (entB k t i a' n' c')) := ((Below.refl _ _).alloc (Nat.le_refl _) _).alloc (by rw [size_alloc]; omega) _
  have s1 := run_string8 (c := c) n hn (hb.later bA)
  have s2 := run_string8 (c := c') n' hn' (hb'.later bA)
  have t1 := str_eq_same l
  have BA := hide bA
  clear x0 x1 bA hb hb' hn hn'
  go_enter Tryz.func59, Tryz.ntmps59
  go_wp2
  go_ret
  exact ⟨rfl, unhide BA⟩
end Go.Proofs.YtijcpmbfhfppmaaGreatDoor
end
/- Entries read in memory; the contracts of tollgateref02.SameEntries, SameMsg. -/
section
namespace Go.Proofs.YtijcpmbfhfppmaaGreatDoor
open Go.ChangeShapes Go.WideShapes Go.ChangeAt Go.RowKit

/-- An entry with its fields as they come. -/
abbrev EntI := Int × Int × Int × List Nat
/-- The entries of a slice as they lie in memory. -/
structure EntsAt (w : World) (a : Option Addr) (es : List EntI) : Prop where
  cell : ∀ i (hi : i < es.length), ∃ b off dp dc, a = some ⟨b, off, none⟩ ∧ w.cell? ⟨b, off + i * 4, none⟩ = some (.int .i64 (es[i]).1) ∧ w.cell? ⟨b, off + i * 4 + 1, none⟩ = some (.int .i64 (es[i]).2.1) ∧
    w.cell? ⟨b, off + i * 4 + 2, none⟩ = some (.int .i64 (es[i]).2.2.1) ∧ w.cell? ⟨b, off + i * 4 + 3, none⟩ = some (.slice dp (es[i]).2.2.2.length dc) ∧ BytesAt w dp (es[i]).2.2.2 ∧ (dp = none → dc = 0)
theorem EntsAt.later {w w' : World} {a : Option Addr} {es : List EntI} (h : EntsAt w a es) (hb : Below w.heap.size w w') : EntsAt w' a es :=
  ⟨fun i hi => by
    obtain ⟨b, off, dp, dc, h0, h1, h2, h3, h4, h5, h6⟩ := h.cell i hi
    exact ⟨b, off, dp, dc, h0, cell_later hb h1, cell_later hb h2, cell_later hb h3, cell_later hb h4, h5.later hb, h6⟩⟩
def toI (e : EntN) : EntI := (e.1, e.2.1, e.2.2.1, e.2.2.2)
theorem rowsV_get : ∀ (es : List EntN) (hs : List (Option Addr × Nat)) (i f : Nat) (hi : i < es.length) (hh : i < hs.length) (_ : f < 4), (rowsV es hs)[i * 4 + f]? = (entRow es[i] hs[i])[f]?
  | [], _, i, _, hi, _, _ => by simp at hi
  | _ :: _, [], _, _, _, hh, _ => by simp at hh
  | e :: es, h :: hs, 0, f, _, _, hf => by
    simp only [rowsV, List.zip_cons_cons, List.flatMap_cons, Nat.zero_mul, Nat.zero_add, List.getElem_cons_zero]
    rw [List.getElem?_append_left (by simp only [entRow, List.length_cons, List.length_nil]; omega)]
  | e :: es, h :: hs, i + 1, f, hi, hh, hf => by
    have ih := rowsV_get es hs i f (by simpa using hi) (by simpa using hh) hf
    simp only [rowsV, List.zip_cons_cons, List.flatMap_cons, List.getElem_cons_succ] at ih ⊢
    rw [List.getElem?_append_right (by simp only [entRow, List.length_cons, List.length_nil]; omega)]
    have e4 : (i + 1) * 4 + f - (entRow e h).length = i * 4 + f := by simp only [entRow, List.length_cons, List.length_nil]; omega
    rw [e4]
    exact ih
theorem OwnEs.ents {base : Nat} {w : World} {sp : Option Addr} {c : Nat} {es : List EntN} (h : OwnEs base w sp c es) : EntsAt w sp (es.map toI) := by
  obtain ⟨hs, hl, hrow, hdat⟩ := h.ex
  refine ⟨fun i hi => ?_⟩
  rw [List.length_map] at hi
  rcases hrow.2 with ⟨_, h0⟩ | ⟨g, cap, cur, hv, _, hg, _, _, _, ht⟩
  · omega
  · simp only [Value.slice.injEq] at hv
    obtain ⟨rfl, _, _⟩ := hv
    have hih : i < hs.length := by omega
    have key : ∀ f, f < 4 → w.cell? ⟨g, 0 + i * 4 + f, none⟩ = (entRow es[i] hs[i])[f]? := by
      intro f hf
      rw [cell_of_row w g _ cur _ _ hg, Nat.zero_add]
      have e := rowsV_get es hs i f hi hih hf
      rw [← ht, List.getElem?_take, if_pos (by omega)] at e
      rw [← Array.getElem?_toList, e]
    have hd := hdat i hi
    have e1 : hs.getD i (none, 0) = hs[i] := by rw [List.getD_eq_getElem?_getD, List.getElem?_eq_getElem hih]; rfl
    have e2 : es.getD i default = es[i] := by rw [List.getD_eq_getElem?_getD, List.getElem?_eq_getElem hi]; rfl
    rw [e1, e2] at hd
    refine ⟨g, 0, hs[i].1, hs[i].2, rfl, ?_, ?_, ?_, ?_, ?_, ?_⟩
    · have := key 0 (by omega); simpa [entRow, toI] using this
    · have := key 1 (by omega); simpa [entRow, toI] using this
    · have := key 2 (by omega); simpa [entRow, toI] using this
    · have := key 3 (by omega); simpa [entRow, toI] using this
    · simpa [toI] using hd.bytes
    · intro e
      rcases hd.owns.2 with ⟨hv, _⟩ | ⟨g', cap', cur', hv, _⟩
      · simp only [Value.slice.injEq] at hv; exact hv.2.2
      · simp only [Value.slice.injEq] at hv; rw [hv.1] at e; cases e
end Go.Proofs.YtijcpmbfhfppmaaGreatDoor
end
/- Entries as they come in one's own memory; the contracts of tollgateref02.CopyEntries, CopyMsg. -/
section
namespace Go.Proofs.YtijcpmbfhfppmaaGreatDoor
open Go.ChangeShapes Go.WideShapes Go.ChangeAt Go.RowKit

/-- The four cells of an entry as it comes. -/
def entRowI (e : EntI) (h : Option Addr × Nat) : List Value := [.int .i64 e.1, .int .i64 e.2.1, .int .i64 e.2.2.1, .slice h.1 e.2.2.2.length h.2]
def rowsI (es : List EntI) (hs : List (Option Addr × Nat)) : List Value := (es.zip hs).flatMap fun p => entRowI p.1 p.2
/-- One's own entries as they come, with their data. -/
structure OwnEI (base : Nat) (w : World) (sp : Option Addr) (c : Nat) (es : List EntI) : Prop where
  ex : ∃ hs : List (Option Addr × Nat), hs.length = es.length ∧ w.ownsRow base 60 4 (.slice sp es.length c) es.length (rowsI es hs) ∧ ∀ i, i < es.length → OwnB base w (hs.getD i (none, 0)).1 (hs.getD i (none, 0)).2 (es.getD i default).2.2.2
theorem OwnEI.ofNil (base : Nat) (w : World) : OwnEI base w none 0 [] := ⟨[], rfl, w.ownsRow_nil base 60 4, by simp⟩
theorem OwnEI.later {base : Nat} {w w' : World} {sp : Option Addr} {c : Nat} {es : List EntI} (h : OwnEI base w sp c es) (hb : Below w.heap.size w w') : OwnEI base w' sp c es := by
  obtain ⟨hs, h1, h2, h3⟩ := h.ex
  exact ⟨hs, h1, ownsRow_later h2 hb, fun i hi => (h3 i hi).later hb⟩
theorem OwnEI.mono {base base' : Nat} {w : World} {sp : Option Addr} {c : Nat} {es : List EntI} (h : OwnEI base w sp c es) (hb : base' ≤ base) : OwnEI base' w sp c es := by
  obtain ⟨hs, h1, h2, h3⟩ := h.ex
  refine ⟨hs, h1, ⟨h2.1, ?_⟩, fun i hi => (h3 i hi).mono hb⟩
  rcases h2.2 with hv | ⟨g, cap, cur, hv, hbg, r⟩
  · exact .inl hv
  · exact .inr ⟨g, cap, cur, hv, by omega, r⟩
theorem rowsI_get : ∀ (es : List EntI) (hs : List (Option Addr × Nat)) (i f : Nat) (hi : i < es.length) (hh : i < hs.length) (_ : f < 4), (rowsI es hs)[i * 4 + f]? = (entRowI es[i] hs[i])[f]?
  | [], _, i, _, hi, _, _ => by simp at hi
  | _ :: _, [], _, _, _, hh, _ => by simp at hh
  | e :: es, h :: hs, 0, f, _, _, hf => by
    simp only [rowsI, List.zip_cons_cons, List.flatMap_cons, Nat.zero_mul, Nat.zero_add, List.getElem_cons_zero]
    rw [List.getElem?_append_left (by simp only [entRowI, List.length_cons, List.length_nil]; omega)]
  | e :: es, h :: hs, i + 1, f, hi, hh, hf => by
    have ih := rowsI_get es hs i f (by simpa using hi) (by simpa using hh) hf
    simp only [rowsI, List.zip_cons_cons, List.flatMap_cons, List.getElem_cons_succ] at ih ⊢
    rw [List.getElem?_append_right (by simp only [entRowI, List.length_cons, List.length_nil]; omega)]
    have e4 : (i + 1) * 4 + f - (entRowI e h).length = i * 4 + f := by simp only [entRowI, List.length_cons, List.length_nil]; omega
    rw [e4]
    exact ih
theorem OwnEI.ents {base : Nat} {w : World} {sp : Option Addr} {c : Nat} {es : List EntI} (h : OwnEI base w sp c es) : EntsAt w sp es := by
  obtain ⟨hs, hl, hrow, hdat⟩ := h.ex
  refine ⟨fun i hi => ?_⟩
  rcases hrow.2 with ⟨_, h0⟩ | ⟨g, cap, cur, hv, _, hg, _, _, _, ht⟩
  · omega
  · simp only [Value.slice.injEq] at hv
    obtain ⟨rfl, _, _⟩ := hv
    have hih : i < hs.length := by omega
    have key : ∀ f, f < 4 → w.cell? ⟨g, 0 + i * 4 + f, none⟩ = (entRowI es[i] hs[i])[f]? := by
      intro f hf
      rw [cell_of_row w g _ cur _ _ hg, Nat.zero_add]
      have e := rowsI_get es hs i f hi hih hf
      rw [← ht, List.getElem?_take, if_pos (by omega)] at e
      rw [← Array.getElem?_toList, e]
    have hd := hdat i hi
    have e1 : hs.getD i (none, 0) = hs[i] := by rw [List.getD_eq_getElem?_getD, List.getElem?_eq_getElem hih]; rfl
    have e2 : es.getD i default = es[i] := by rw [List.getD_eq_getElem?_getD, List.getElem?_eq_getElem hi]; rfl
    rw [e1, e2] at hd
    refine ⟨g, 0, hs[i].1, hs[i].2, rfl, ?_, ?_, ?_, ?_, ?_, ?_⟩
    · have := key 0 (by omega); simpa [entRowI] using this
    · have := key 1 (by omega); simpa [entRowI] using this
    · have := key 2 (by omega); simpa [entRowI] using this
    · have := key 3 (by omega); simpa [entRowI] using this
    · simpa using hd.bytes
    · intro e
      rcases hd.owns.2 with ⟨hv, _⟩ | ⟨g', cap', cur', hv, _⟩
      · simp only [Value.slice.injEq] at hv; exact hv.2.2
      · simp only [Value.slice.injEq] at hv; rw [hv.1] at e; cases e

/-- Bytes lie in no block of another type. -/
theorem OwnB.ne_block {base : Nat} {w : World} {sp : Option Addr} {c : Nat} {l : List Nat} (h : OwnB base w sp c l) {g : Nat} {cs : Array Value} {T : TypeId} {fr : Nat × Nat} (hg : w.heap[g]? = some (.cells cs T fr)) (hT : T ≠ 5) : blk sp ≠ some g := by
  intro hs
  rcases h.owns.2 with ⟨hv, _⟩ | ⟨g1, cap, cur, hv, _, hh, _⟩
  · simp only [Value.slice.injEq] at hv
    rw [hv.1] at hs
    cases hs
  · simp only [Value.slice.injEq] at hv
    rw [hv.1] at hs
    obtain rfl : g1 = g := by simpa [blk] using hs
    rw [hh] at hg
    simp only [Option.some.injEq, Obj.cells.injEq] at hg
    exact hT hg.2.1.symm
theorem OwnEI.empty (w : World) (base : Nat) (hb : base ≤ w.heap.size) : OwnEI base (w.alloc (.cells #[] 60)) (some ⟨w.heap.size, 0, none⟩) 0 [] :=
  ⟨[], rfl, ⟨rfl, .inr ⟨w.heap.size, 0, #[], rfl, hb, heap_new _ _, Nat.le_refl _, by simp [maxLen], rfl, rfl⟩⟩, by simp⟩
end Go.Proofs.YtijcpmbfhfppmaaGreatDoor
end
