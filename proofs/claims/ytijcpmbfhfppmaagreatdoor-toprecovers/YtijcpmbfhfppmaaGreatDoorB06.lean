/- The contracts of a reader's hard, of wire.GetHard. -/
import Derived.Test.YtijcpmbfhfppmaaGreatDoorB02
import Derived.Test.YtijcpmbfhfppmaaGreatDoorB05
import Derived.Test.YtijcpmbfhfppmaaGreatDoorB03
section
namespace Go.Proofs.YtijcpmbfhfppmaaGreatDoor
open Go.ChangeShapes Go.WideShapes Go.ChangeAt Go.RowKit

theorem RdAt.later {R : Nat} {w w' : World} {a : Option Addr} {c : Nat} {l : List Nat} {k : Nat} (h : RdAt R w a c l k) (hb : Below w.heap.size w w') : RdAt R w' a c l k :=
  ⟨(hb.block R (Array.getElem?_eq_some_iff.1 h.blk).1).trans h.blk, h.bytes.later hb, h.low, h.le⟩
theorem RdAt.lt {R : Nat} {w : World} {a : Option Addr} {c : Nat} {l : List Nat} {k : Nat} (h : RdAt R w a c l k) : R < w.heap.size := (Array.getElem?_eq_some_iff.1 h.blk).1
theorem grown_block {w w' : World} {R j : Nat} {o : Obj} (hg : w.grownBy w' (some R)) (hj : w.heap[j]? = some o) (hne : j ≠ R) : w'.heap[j]? = some o :=
  (hg.block j (Array.getElem?_eq_some_iff.1 hj).1 (fun e => hne (Option.some.inj e))).trans hj

theorem RdAt.far {R : Nat} {w w' : World} {a : Option Addr} {c : Nat} {l : List Nat} {k j : Nat} (h : RdAt R w a c l k) (hg : w.grownBy w' (some j)) (hj : j ≠ R) (hb : ∀ b off, 0 < l.length → a = some ⟨b, off, none⟩ → b ≠ j) : RdAt R w' a c l k := by
  refine ⟨grown_block hg h.blk (fun e => hj e.symm), ⟨h.bytes.lt, fun i hi => ?_⟩, h.low, h.le⟩
  obtain ⟨b, off, h1, h2⟩ := h.bytes.cell i hi
  refine ⟨b, off, h1, ?_⟩
  rw [hg.cell_far ⟨b, off + i, none⟩ (World.block_lt_of_cell? _ _ h2) (by simpa using hb b off (by omega) h1)]
  exact h2
/-- Two steps that change a reader and a new block are one that changes the reader, seen from ahead. -/
theorem grown_new {w w1 w2 : World} {R j : Nat} (h : w.grownBy w1 (some R)) (k : w1.grownBy w2 (some j)) (hj : w.heap.size ≤ j) : w.grownBy w2 (some R) :=
  ⟨k.os.trans h.os, k.tape.trans h.tape, k.output.trans h.output, Nat.le_trans h.size k.size, fun i hi hne => (k.block i (Nat.lt_of_lt_of_le hi h.size) (fun e => by have := Option.some.inj e; omega)).trans (h.block i hi hne)⟩
theorem pair_cells {w : World} {j : Nat} {x y : Value} {T : TypeId} (h : w.heap[j]? = some (.cells #[x, y] T (0, 0))) : w.cell? ⟨j, 0, none⟩ = some x ∧ w.cell? ⟨j, 1, none⟩ = some y ∧ w.frozen? ⟨j, 0, none⟩ = false ∧ w.frozen? ⟨j, 1, none⟩ = false := by
  refine ⟨?_, ?_, ?_, ?_⟩
  · rw [cell_of_row _ _ _ _ _ _ h]; rfl
  · rw [cell_of_row _ _ _ _ _ _ h]; rfl
  · simp [World.frozen?, h]
  · simp [World.frozen?, h]
set_option maxHeartbeats 1000000 in
theorem hard_E (R : Nat) (a : Option Addr) (c : Nat) (l : List Nat) (k : Nat) (w : World) (h : RdAt R w a c l k) (hl : l.length ≤ maxLen) :
    Calls Tryz.prog 213 #[.pointer (some ⟨R, 0, none⟩)] w (Ends R a c l w (fun (p : Nat × Nat) _ v => v = .agg #[.int .i64 (p.1 : Int), .int .i64 (p.2 : Int)]) (hardE l k)) := by
  have HL := hide hl
  have b2 : Below w.heap.size w ((w.alloc (.cells #[.int .i64 0, .int .i64 0] 29)).alloc (.cells #[.int .i64 0, .int .i64 0] 29)) := ((Below.refl _ _).alloc (Nat.le_refl _) _).alloc (by rw [size_alloc]; omega) _
  have HR := hide (h.later b2)
  have Hlt := hide h.lt
  have HBlt := hide (fun b off h0 e => block_lt h.bytes h0 b off e)
  have HG := hide (grown_below (some R) b2)
  have h1 := heap_old (.cells #[.int .i64 0, .int .i64 0] 29) (heap_new w (.cells #[.int .i64 0, .int .i64 0] 29))
  have h2 := heap_new (w.alloc (.cells #[.int .i64 0, .int .i64 0] 29)) (.cells #[.int .i64 0, .int .i64 0] 29)
  rw [size_alloc] at h2
  have H1 := hide h1
  have H2 := hide h2
  clear h hl b2 h1 h2
  go_enter Tryz.func213, Tryz.ntmps213
  go_wp2_with fail
  generalize (w.alloc (.cells #[.int .i64 0, .int .i64 0] 29)).alloc (.cells #[.int .i64 0, .int .i64 0] 29) = W at *
  refine (number_E R a c l k W (unhide HR) (unhide HL)).mono ?_
  rintro e W1 ⟨hg1, hm1⟩
  have G1 := hide (grown_trans (unhide HG) hg1)
  cases ht1 : takeE l k with
  | error x =>
    rw [ht1] at hm1
    obtain rfl := hm1
    go_wp2
    refine ⟨rfl, unhide G1, ?_⟩
    rw [hardE, ht1]
  | ok p =>
    obtain ⟨t, k2⟩ := p
    rw [ht1] at hm1
    obtain ⟨⟨v, rfl, rfl⟩, hr1⟩ := hm1
    have q1 := grown_block hg1 (unhide H1) (by have := unhide Hlt; omega)
    have q2 := grown_block hg1 (unhide H2) (by have := unhide Hlt; omega)
    obtain ⟨c0, c1, f0, f1⟩ := pair_cells q2
    have q3 := heap_setCell_same W1 (w.heap.size + 1) 0 _ 29 (.int .i64 (t : Int)) q2
    have gs := grown_set W1 (w.heap.size + 1) 0 (.int .i64 (t : Int))
    have q1' := grown_block gs q1 (by omega)
    have G1' := hide (grown_new (unhide G1) gs (by omega))
    have hr1' := hide (hr1.far gs (by have := unhide Hlt; omega) (fun b off h0 e => by have := unhide HBlt b off h0 e; omega))
    have Q1 := hide q1'
    have Q3 := hide q3
    clear q1 q2 q3 gs q1' hg1 hr1 G1
    go_wp2_with fail
    generalize W1.setCell ⟨w.heap.size + 1, 0, none⟩ (.int .i64 (t : Int)) = W2 at *
    clear c0 c1 f0 f1
    refine (number_E R a c l k2 W2 (unhide hr1') (unhide HL)).mono ?_
    rintro e W3 ⟨hg3, hm3⟩
    have G3 := hide (grown_trans (unhide G1') hg3)
    cases ht2 : takeE l k2 with
    | error x =>
      rw [ht2] at hm3
      obtain rfl := hm3
      go_wp2
      refine ⟨rfl, unhide G3, ?_⟩
      rw [hardE, ht1]
      simp only [ht2]
    | ok p =>
      obtain ⟨v, k3⟩ := p
      rw [ht2] at hm3
      obtain ⟨⟨_, rfl, rfl⟩, hr3⟩ := hm3
      have q1 := grown_block hg3 (unhide Q1) (by have := unhide Hlt; omega)
      have q2 := grown_block hg3 (unhide Q3) (by have := unhide Hlt; omega)
      obtain ⟨c0, c1, f0, f1⟩ := pair_cells q2
      have q4 := heap_setCell_same W3 (w.heap.size + 1) 1 _ 29 (.int .i64 (v : Int)) q2
      have gs := grown_set W3 (w.heap.size + 1) 1 (.int .i64 (v : Int))
      have q1' := grown_block gs q1 (by omega)
      have G4 := hide (grown_new (unhide G3) gs (by omega))
      have hr4 := hide (hr3.far gs (by have := unhide Hlt; omega) (fun b off h0 e => by have := unhide HBlt b off h0 e; omega))
      obtain ⟨d0, d1, _, _⟩ := pair_cells q4
      obtain ⟨g0, g1, e0, e1⟩ := pair_cells q1'
      have Q5 := hide q1'
      clear q1 q2 q4 gs q1' hg3 hr3 G3 Q1 Q3 c0 f0
      by_cases h9 : 9 < v
      · go_wp2_with fail
        refine (giveUp_calls 4 _).mono ?_
        rintro e W5 ⟨rfl, rfl⟩
        go_wp2
        refine ⟨rfl, unhide G4, ?_⟩
        rw [hardE, ht1]
        simp only [ht2, if_pos h9]
      · go_wp2_with fail
        generalize W3.setCell ⟨w.heap.size + 1, 1, none⟩ (.int .i64 (v : Int)) = W4 at *
        have q5 := heap_setCell_same W4 w.heap.size 0 _ 29 (.int .i64 (t : Int)) (unhide Q5)
        have q6 := heap_setCell_same _ w.heap.size 1 _ 29 (.int .i64 (v : Int)) q5
        have s5 := grown_set W4 w.heap.size 0 (.int .i64 (t : Int))
        have s6 := grown_set (W4.setCell ⟨w.heap.size, 0, none⟩ (.int .i64 (t : Int))) w.heap.size 1 (.int .i64 (v : Int))
        have s7 := grown_trans s5 s6
        generalize (W4.setCell ⟨w.heap.size, 0, none⟩ (.int .i64 (t : Int))).setCell ⟨w.heap.size, 1, none⟩ (.int .i64 (v : Int)) = W6 at *
        obtain ⟨z0, z1, _, _⟩ := pair_cells q6
        refine bodyPost_ret (v := .agg #[.int .i64 (t : Int), .int .i64 (v : Int)]) (by simp [results, Tryz.results213, go_sem, z0, z1]) rfl ?_
        refine ⟨grown_new (unhide G4) s7 (Nat.le_refl _), ?_⟩
        rw [hardE, ht1]
        simp only [ht2, if_neg h9]
        exact ⟨⟨_, rfl, rfl⟩, (unhide hr4).far s7 (by have := unhide Hlt; omega) (fun b off h0 e => by have := unhide HBlt b off h0 e; omega)⟩
theorem end_E (R : Nat) (a : Option Addr) (c : Nat) (l : List Nat) (k : Nat) (w : World) (h : RdAt R w a c l k) :
    Calls Tryz.prog 214 #[.pointer (some ⟨R, 0, none⟩)] w fun e w' => w.grownBy w' (some R) ∧ (k < l.length ∧ e = .panicked (given 4) ∨ ¬ k < l.length ∧ e = .returned (.tuple #[])) := by
  by_cases hk : k < l.length
  · refine (end_more R a c l k w h hk).mono ?_
    rintro e w' ⟨rfl, _, hg⟩
    exact ⟨hg, .inl ⟨hk, rfl⟩⟩
  · refine (end_ok R a c l k w h (Nat.le_antisymm h.le (by omega))).mono ?_
    rintro e w' ⟨rfl, _, hg⟩
    exact ⟨hg, .inr ⟨hk, rfl⟩⟩

/-- How the closure of GetHard ends. -/
def HardEnds (R G : Nat) (w : World) (r : Except Nat (Nat × Nat)) (e : Ending) (w' : World) : Prop :=
  Kept R G w w' ∧
  match r with
  | .ok (t, v) => e = .returned (.tuple #[]) ∧ w'.heap[G]? = some (.cells #[.int .i64 (t : Int), .int .i64 (v : Int)] 29 (0, 0))
  | .error x => e = .panicked (given x)
theorem kept_new {w w1 w2 : World} {R G : Nat} (h : w.grownBy w1 (some R)) (k : w1.grownBy w2 (some G)) : Kept R G w w2 := (Kept.ofGrown h).trans (Kept.ofGrown' k)
set_option maxHeartbeats 1000000 in
theorem getHard1_E (R G : Nat) (x y : Value) (a : Option Addr) (c : Nat) (l : List Nat) (k : Nat) (w : World) (h : RdAt R w a c l k) (hl : l.length ≤ maxLen) (hG : w.heap[G]? = some (.cells #[x, y] 29 (0, 0))) (hne : G ≠ R) (hbG : ∀ b off, 0 < l.length → a = some ⟨b, off, none⟩ → b ≠ G) :
    Calls Tryz.prog 212 #[.pointer (some ⟨R, 0, none⟩), .pointer (some ⟨G, 0, none⟩)] w (HardEnds R G w (wholeE l (hardE l k))) := by
  have HL := hide hl
  have HR := hide h
  have HG := hide hG
  have HB := hide hbG
  clear h hl hG hbG
  go_enter Tryz.func212, Tryz.ntmps212
  go_wp2_with fail
  refine (hard_E R a c l k _ (unhide HR) (unhide HL)).mono ?_
  rintro e W1 ⟨hg1, hm1⟩
  have G1 := hide hg1
  cases ht1 : hardE l k with
  | error x =>
    rw [ht1] at hm1
    obtain rfl := hm1
    go_wp2
    refine ⟨rfl, Kept.ofGrown (unhide G1), ?_⟩
    simp only [wholeE]
  | ok p =>
    obtain ⟨⟨t, v⟩, k2⟩ := p
    rw [ht1] at hm1
    obtain ⟨⟨_, rfl, rfl⟩, hr1⟩ := hm1
    have q1 := grown_block hg1 (unhide HG) hne
    obtain ⟨c0, c1, f0, f1⟩ := pair_cells q1
    have q5 := heap_setCell_same W1 G 0 _ 29 (.int .i64 (t : Int)) q1
    have q6 := heap_setCell_same _ G 1 _ 29 (.int .i64 (v : Int)) q5
    have s7 := grown_trans (grown_set W1 G 0 (.int .i64 (t : Int))) (grown_set (W1.setCell ⟨G, 0, none⟩ (.int .i64 (t : Int))) G 1 (.int .i64 (v : Int)))
    have hr2 := hide (hr1.far s7 hne (unhide HB))
    have K2 := hide (kept_new (unhide G1) s7)
    have Q6 := hide q6
    clear q1 q5 q6 s7 hr1 hg1 G1
    simp only
    go_wp2_with fail
    generalize (W1.setCell ⟨G, 0, none⟩ (.int .i64 (t : Int))).setCell ⟨G, 1, none⟩ (.int .i64 (v : Int)) = W2 at *
    clear c0 c1 f0 f1
    refine (end_E R a c l k2 W2 (unhide hr2)).mono ?_
    rintro e W3 ⟨hg3, ⟨hk, rfl⟩ | ⟨hk, rfl⟩⟩
    · have K3 := hide ((unhide K2).trans (Kept.ofGrown hg3))
      clear hg3
      go_wp2
      refine ⟨rfl, unhide K3, ?_⟩
      simp only [wholeE, if_pos hk]
    · have K3 := hide ((unhide K2).trans (Kept.ofGrown hg3))
      have Q7 := hide (grown_block hg3 (unhide Q6) hne)
      clear hg3
      go_wp2
      go_end0
      refine ⟨unhide K3, ?_⟩
      simp only [ht1, wholeE, if_neg hk]
      exact ⟨trivial, unhide Q7⟩
theorem enter_hard (c : Array Value) (w : World) : (callFunc 212 c).run Tryz.prog w = .ok (.enter 212 c) w := by
  simp [callFunc, go_sem, Tryz.func212]
  rw [if_neg (by decide +kernel), if_neg (fun h => by cases h)]
theorem given_inj {x y : Nat} (h : Ending.panicked (given x) = .panicked (given y)) : x = y := by
  simp only [given, Ending.panicked.injEq, List.cons.injEq, PanicEntry.mk.injEq, Value.iface.injEq, Value.agg.injEq, and_true, true_and] at h
  have := congrArg (fun z : Array Value => z[0]?) h
  simp at this
  omega
/-- What GetHard answers. -/
def hardV (r : Except Nat (Nat × Nat)) : Value :=
  match r with
  | .ok (t, v) => .tuple #[.agg #[.int .i64 (t : Int), .int .i64 (v : Int)], .int .i64 0]
  | .error x => .tuple #[.agg #[.int .i64 0, .int .i64 0], .int .i64 (x : Int)]
set_option maxHeartbeats 1000000 in
theorem getHard_calls (a : Option Addr) (m c : Nat) (l : List Nat) (w : World) (hm : l.length = m) (hl : l.length ≤ maxLen) (hb : BytesAt w a l) :
    Calls Tryz.prog 186 #[.slice a m c] w fun e w' => e = .returned (hardV (wholeE l (hardE l 0))) ∧ Below w.heap.size w w' := by
  subst hm
  have HB := hide hb
  have HL := hide hl
  clear hb hl
  have hmf : ∀ (fn : Fn) (first cap : Array Value) (w : World), (Instr.makeFunc fn first cap).run Tryz.prog w = .ok (.func fn first cap) w := fun _ _ _ _ => rfl
  go_enter Tryz.func186, Tryz.ntmps186
  go_wp2_with fail
  have h0 := heap_new w (.cells #[.int .i64 0, .int .i64 0] 29)
  have h1 := heap_new (w.alloc (.cells #[.int .i64 0, .int .i64 0] 29)) (.cells #[.int .i64 0, .int .i64 0] 29)
  have h2 := heap_new ((w.alloc (.cells #[.int .i64 0, .int .i64 0] 29)).alloc (.cells #[.int .i64 0, .int .i64 0] 29)) (.cells #[.slice a l.length c, .int .i64 0] 242)
  have k0 := heap_old (.cells #[.slice a l.length c, .int .i64 0] 242) (heap_old (.cells #[.int .i64 0, .int .i64 0] 29) h0)
  have k1 := heap_old (.cells #[.slice a l.length c, .int .i64 0] 242) h1
  rw [size_alloc] at k1
  rw [size_alloc, size_alloc] at h2
  have hbl : Below w.heap.size w (((w.alloc (.cells #[.int .i64 0, .int .i64 0] 29)).alloc (.cells #[.int .i64 0, .int .i64 0] 29)).alloc (.cells #[.slice a l.length c, .int .i64 0] 242)) :=
    (((Below.refl _ _).alloc (Nat.le_refl _) _).alloc (by rw [size_alloc]; omega) _).alloc (by rw [size_alloc, size_alloc]; omega) _
  have hsz : (((w.alloc (.cells #[.int .i64 0, .int .i64 0] 29)).alloc (.cells #[.int .i64 0, .int .i64 0] 29)).alloc (.cells #[.slice a l.length c, .int .i64 0] 242)).heap.size = w.heap.size + 3 := by rw [size_alloc, size_alloc, size_alloc]
  generalize ((w.alloc (.cells #[.int .i64 0, .int .i64 0] 29)).alloc (.cells #[.int .i64 0, .int .i64 0] 29)).alloc (.cells #[.slice a l.length c, .int .i64 0] 242) = W at *
  clear h0 h1
  have hbl2 : Below w.heap.size w (W.alloc (.cells #[.int .i64 0] 49)) := hbl.alloc hbl.size _
  have hE := heap_new W (.cells #[.int .i64 0] 49)
  have hr : RdAt (w.heap.size + 1 + 1) (W.alloc (.cells #[.int .i64 0] 49)) a c l 0 := rd_new (unhide HB) hbl2 (by omega) (heap_old _ h2) (Nat.zero_le _)
  have hG := heap_old (.cells #[.int .i64 0] 49) k1
  have hres := heap_old (.cells #[.int .i64 0] 49) k0
  refine (caught_calls 212 _ W enter_hard _ (getHard1_E (w.heap.size + 1 + 1) (w.heap.size + 1) _ _ a c l 0 _ hr (unhide HL) hG (by omega) (fun b off h0 e => by have := block_lt (unhide HB) h0 b off e; omega)) ?_ ?_).mono ?_
  · rintro e w1 ⟨hk1, _⟩
    exact (hk1.block _ (by rw [size_alloc]; omega) (by omega) (by omega)).trans hE
  · rintro e w1 ⟨_, hm1⟩
    cases ht : wholeE l (hardE l 0) with
    | error x => rw [ht] at hm1; exact .inr ⟨x, hm1⟩
    | ok p => obtain ⟨t, v⟩ := p; rw [ht] at hm1; exact .inl hm1.1
  · rintro e w2 ⟨e1, w1, ⟨hk1, hm1⟩, hg, he⟩
    have HF := hide ((hbl2.trans (hk1.below (by rw [size_alloc]; omega) (by omega) (by omega))).trans ((Below.refl w.heap.size w1).grown hg (by have := hk1.size; rw [size_alloc] at this; omega) (fun j e => by have := Option.some.inj e; omega)))
    have r2 := grown_block hg ((hk1.block _ (by rw [size_alloc]; omega) (by omega) (by omega)).trans hres) (by omega)
    obtain ⟨p0, p1, f0, f1⟩ := pair_cells r2
    have HR2 := hide r2
    clear r2 hE hr hres hbl2 hbl h2 k0 k1 hG
    cases ht : wholeE l (hardE l 0) with
    | error x =>
      rw [ht] at hm1
      obtain rfl := hm1
      obtain ⟨y, hy, rfl⟩ := he.resolve_left (fun h => by cases h.1)
      obtain rfl := given_inj hy
      have hx0 : ¬ (x : Int) = 0 := by have := wholeE_pos ht (fun y hy => hardE_pos hy); omega
      clear hy he hk1 hg
      go_wp2_with fail
      have q5 := heap_setCell_same w2 w.heap.size 0 _ 29 (.int .i64 0) (unhide HR2)
      have q6 := heap_setCell_same _ w.heap.size 1 _ 29 (.int .i64 0) q5
      obtain ⟨z0, z1, _, _⟩ := pair_cells q6
      refine bodyPost_ret (v := hardV (.error x)) (by simp [results, Tryz.results186, go_sem, z0, z1, hardV]) rfl ?_
      exact ⟨by rw [ht], ((unhide HF).setCell (p := ⟨w.heap.size, 0, none⟩) (Nat.le_refl _) _).setCell (p := ⟨w.heap.size, 1, none⟩) (Nat.le_refl _) _⟩
    | ok p =>
      obtain ⟨t, v⟩ := p
      rw [ht] at hm1
      obtain ⟨rfl, hgot⟩ := hm1
      obtain ⟨_, rfl⟩ := he.resolve_right (fun ⟨_, h, _⟩ => by cases h)
      obtain ⟨g0, g1, _, _⟩ := pair_cells (grown_block hg hgot (by omega))
      clear he hk1 hg hgot
      go_wp2_with fail
      have q5 := heap_setCell_same w2 w.heap.size 0 _ 29 (.int .i64 (t : Int)) (unhide HR2)
      have q6 := heap_setCell_same _ w.heap.size 1 _ 29 (.int .i64 (v : Int)) q5
      obtain ⟨z0, z1, _, _⟩ := pair_cells q6
      refine bodyPost_ret (v := hardV (.ok (t, v))) (by simp [results, Tryz.results186, go_sem, z0, z1, hardV]) rfl ?_
      exact ⟨by rw [ht], ((unhide HF).setCell (p := ⟨w.heap.size, 0, none⟩) (Nat.le_refl _) _).setCell (p := ⟨w.heap.size, 1, none⟩) (Nat.le_refl _) _⟩
end Go.Proofs.YtijcpmbfhfppmaaGreatDoor
end
/- Small laws of memory for the texts of logs. -/
section
namespace Go.Proofs.YtijcpmbfhfppmaaGreatDoor
open Go.ChangeShapes Go.WideShapes Go.ChangeAt Go.RowKit

theorem box_cell {w : World} {j : Nat} {cs : Array Value} {T : TypeId} (h : w.heap[j]? = some (.cells cs T (0, 0))) (f : Nat) (v : Value) (hv : cs[f]? = some v) : w.cell? ⟨j, f, none⟩ = some v := by
  rw [cell_of_row _ _ _ _ _ _ h, hv]
theorem later_block {w w' : World} {j : Nat} {o : Obj} (hb : Below w.heap.size w w') (h : w.heap[j]? = some o) : w'.heap[j]? = some o := (hb.block j (Array.getElem?_eq_some_iff.1 h).1).trans h
theorem froz_of {W : World} {E : Nat} {cs : Array Value} {t : Nat} (h : W.heap[E]? = some (.cells cs t (0, 0))) (i : Nat) : W.frozen? ⟨E, i, none⟩ = false := by simp [World.frozen?, h]
theorem cell_aside (W : World) {A B i k : Nat} (v : Value) (h : B ≠ A) : (W.setCell ⟨A, i, none⟩ v).cell? ⟨B, k, none⟩ = W.cell? ⟨B, k, none⟩ :=
  World.cell?_of_block (heap_setCell_other W ⟨A, i, none⟩ B v (fun e => h (by simpa using e)))
end Go.Proofs.YtijcpmbfhfppmaaGreatDoor
end
/- Logs: records of marks and hard states. -/
section
namespace Go.Proofs.YtijcpmbfhfppmaaGreatDoor
open Go.ChangeShapes Go.WideShapes Go.ChangeAt Go.RowKit
set_option linter.unusedVariables false

def markB (i t : Nat) : List Nat := recB 1 (numB i ++ numB t)
def hardB (t v : Nat) : List Nat := recB 2 (numB t ++ numB v)
set_option maxRecDepth 20000 in
set_option maxHeartbeats 4000000 in
theorem markRecord_calls (i t : Nat) (w : World) (hi : i ≤ 1099511627776) (ht : t ≤ 1099511627776) :
    Calls Tryz.prog 131 #[.agg #[.int .i64 (i : Int), .int .i64 (t : Int)]] w fun e w' => ∃ g m, e = .returned (.slice (some ⟨g, 0, none⟩) m m) ∧ Hid ((markB i t).length = m) ∧ OwnB w.heap.size w' (some ⟨g, 0, none⟩) m (markB i t) ∧ Below w.heap.size w w' := by
  have b1 : Below w.heap.size w (w.alloc (.cells #[.int .i64 (i : Int), .int .i64 (t : Int)] 31)) := (Below.refl _ _).alloc (Nat.le_refl _) _
  have X1 := heap_new w (.cells #[.int .i64 (i : Int), .int .i64 (t : Int)] 31)
  obtain ⟨c0, c1, _, _⟩ := pair_cells X1
  have B1 := hide b1
  have XX := hide X1
  have hli := numB_six i hi
  have hlt := numB_six t ht
  have N1 := hide (fun W => number_yes i W hi)
  have N2 := hide (fun W => number_yes t W ht)
  clear b1 X1 hi ht
  go_enter Tryz.func131, Tryz.ntmps131
  go_wp2_with fail
  clear c0 c1
  generalize w.alloc _ = W1 at *
  go_at_call 160
  refine (unhide N1 _).mono ?_
  rintro e W2 ⟨sp2, n2, k2, rfl, hn2, o2, b2⟩
  have O2 := hide (o2.mono (unhide B1).size)
  have B2 := hide ((unhide B1).trans (b2.mono (unhide B1).size))
  have XX := hide (later_block b2 (unhide XX))
  obtain ⟨c0, c1, _, _⟩ := pair_cells (unhide XX)
  clear b2 o2
  go_wp2_with fail
  clear c0 c1
  go_at_call 160
  refine (unhide N2 _).mono ?_
  rintro e W3 ⟨sp3, n3, k3, rfl, hn3, o3, b3⟩
  have O2 := hide ((unhide O2).later b3)
  have Y3 := hide o3.bytes
  have Z3 := hide (show sp3 = none → k3 = 0 from (show Bx W2.heap.size W3 sp3 k3 (numB t) from o3.toBx).nil0)
  have B3 := hide ((unhide B2).trans (b3.mono (unhide B2).size))
  clear b3 o3
  have HS := hide (show (numB i).length + n3 ≤ 140737488355328 by rw [← unhide hn3]; omega)
  go_wp2_with (at_builtin; refine wpList_append8 rfl (.tmp 19) (.tmp 20) rfl w.heap.size sp2 n2 k2 (numB i) rfl (unhide hn2) (by exact unhide O2) sp3 n3 k3 rfl (numB t) (unhide hn3) (by exact unhide Y3) (unhide Z3) (unhide HS) (by exact (unhide B3).size) ?_; intro sp4 n4 c4 W4 hn4 ho4 hg4 hb4)
  have B4 := hide ((unhide B3).trans hb4)
  have FC := hide (framed_calls 1 sp4 n4 c4 (numB i ++ numB t) W4 (by omega) (unhide hn4) (by exact ho4.bytes) (show sp4 = none → c4 = 0 from (show Bx w.heap.size W4 sp4 c4 (numB i ++ numB t) from ho4.toBx).nil0) (by rw [← unhide hn4, List.length_append]; omega))
  clear ho4 hg4 hb4
  go_wp2_with fail
  go_at_call 104
  refine (unhide FC).mono ?_
  rintro e W5 ⟨g, m, rfl, hm, o5, b5⟩
  have O5 := hide (o5.mono (unhide B4).size)
  have B5 := hide ((unhide B4).trans (b5.mono (unhide B4).size))
  clear o5 b5
  go_wp2
  go_ret
  exact ⟨g, m, rfl, hm, unhide O5, unhide B5⟩
set_option maxRecDepth 20000 in
set_option maxHeartbeats 4000000 in
theorem hardRecord_yes (t v : Nat) (w : World) (ht : t ≤ 1099511627776) (hv : v ≤ 9) :
    Calls Tryz.prog 69 #[.agg #[.int .i64 (t : Int), .int .i64 (v : Int)]] w fun e w' => ∃ g m, e = .returned (.tuple #[.slice (some ⟨g, 0, none⟩) m m, .int .i64 0]) ∧ Hid ((hardB t v).length = m) ∧ OwnB w.heap.size w' (some ⟨g, 0, none⟩) m (hardB t v) ∧ Below w.heap.size w w' := by
  have b1 : Below w.heap.size w (w.alloc (.cells #[.int .i64 (t : Int), .int .i64 (v : Int)] 29)) := (Below.refl _ _).alloc (Nat.le_refl _) _
  have X1 := heap_new w (.cells #[.int .i64 (t : Int), .int .i64 (v : Int)] 29)
  obtain ⟨c0, c1, _, _⟩ := pair_cells X1
  have B1 := hide b1
  have hlt := numB_six t ht
  have hlv := numB_six v (by omega)
  have N1 := hide (fun W => putHard_yes t v W ht hv)
  clear b1 X1 ht hv
  go_enter Tryz.func69, Tryz.ntmps69
  go_wp2_with fail
  clear c0 c1
  generalize w.alloc _ = W1 at *
  go_at_call 106
  refine (unhide N1 _).mono ?_
  rintro e W2 ⟨sp2, n2, k2, rfl, hn2, o2, b2⟩
  have B2 := hide ((unhide B1).trans (b2.mono (unhide B1).size))
  have FC := hide (framed_calls 2 sp2 n2 k2 (numB t ++ numB v) W2 (by omega) (unhide hn2) (by exact o2.bytes) (show sp2 = none → k2 = 0 from (show Bx W1.heap.size W2 sp2 k2 (numB t ++ numB v) from o2.toBx).nil0) (by rw [← unhide hn2, List.length_append]; omega))
  clear b2 o2
  go_wp2_with fail
  go_at_call 104
  refine (unhide FC).mono ?_
  rintro e W5 ⟨g, m, rfl, hm, o5, b5⟩
  have O5 := hide (o5.mono (unhide B2).size)
  have B5 := hide ((unhide B2).trans (b5.mono (unhide B2).size))
  clear o5 b5
  go_wp2
  go_ret2
  exact ⟨g, m, rfl, hm, unhide O5, unhide B5⟩
set_option maxRecDepth 20000 in
set_option maxHeartbeats 4000000 in
theorem hardRecord_no (t v : Int) (w : World) (h : ¬ (0 ≤ t ∧ t ≤ 1099511627776 ∧ 0 ≤ v ∧ v ≤ 9)) :
    Calls Tryz.prog 69 #[.agg #[.int .i64 t, .int .i64 v]] w fun e w' => e = .returned (.tuple #[.slice none 0 0, .int .i64 2]) ∧ Below w.heap.size w w' := by
  have b1 : Below w.heap.size w (w.alloc (.cells #[.int .i64 t, .int .i64 v] 29)) := (Below.refl _ _).alloc (Nat.le_refl _) _
  have X1 := heap_new w (.cells #[.int .i64 t, .int .i64 v] 29)
  obtain ⟨c0, c1, _, _⟩ := pair_cells X1
  have B1 := hide b1
  have N1 := hide (fun W => putHard_no t v W h)
  clear b1 X1 h
  go_enter Tryz.func69, Tryz.ntmps69
  go_wp2_with fail
  clear c0 c1
  generalize w.alloc _ = W1 at *
  go_at_call 106
  refine (unhide N1 _).mono ?_
  rintro e W2 ⟨rfl, b2⟩
  have B2 := hide ((unhide B1).trans (b2.mono (unhide B1).size))
  clear b2
  go_wp2
  go_ret2
  exact ⟨rfl, unhide B2⟩
end Go.Proofs.YtijcpmbfhfppmaaGreatDoor
end
/- The contracts of a reader's oneWithin, positive, entrySize, data. -/
section
namespace Go.Proofs.YtijcpmbfhfppmaaGreatDoor
open Go.ChangeShapes Go.WideShapes Go.ChangeAt Go.RowKit

theorem within_E (R : Nat) (a : Option Addr) (c : Nat) (l : List Nat) (x y k : Nat) (w : World) (h : RdAt R w a c l k) (hl : l.length ≤ maxLen) :
    Calls Tryz.prog 232 #[.pointer (some ⟨R, 0, none⟩), .int .i64 (x : Int), .int .i64 (y : Int)] w (Ends R a c l w (fun n _ v => v = .int .i64 ((n : Nat) : Int)) (oneE l x y k)) := by
  have HL := hide hl
  have H := hide h
  clear h hl
  go_enter Tryz.func232, Tryz.ntmps232
  go_wp2_with fail
  by_cases hk : k < l.length
  · have hx := getD_lt (unhide H).bytes.lt k
    refine (one_ok R a c l k _ (unhide H) hk (unhide HL)).mono ?_
    rintro e W1 ⟨rfl, hr1, hg1⟩
    generalize hz : l.getD k 0 = z at *
    have HR := hide hr1
    have HG := hide hg1
    have HZ := hide hz
    clear hr1 hg1 hz
    go_wp2_with fail
    by_cases hw : x ≤ z ∧ z ≤ y
    · refine (within_yes z x y _ (by omega)).mono ?_
      rintro e W2 ⟨rfl, rfl⟩
      have HE := hide (show oneE l x y k = .ok (z, k + 1) by rw [oneE, if_pos hk, unhide HZ, if_pos hw])
      clear hw
      go_wp2
      go_ret
      rw [unhide HE]
      exact ⟨unhide HG, ⟨_, rfl, rfl⟩, unhide HR⟩
    · refine (within_no z x y _ (by omega)).mono ?_
      rintro e W2 ⟨rfl, rfl⟩
      have HE := hide (show oneE l x y k = .error 4 by rw [oneE, if_pos hk, unhide HZ, if_neg hw])
      clear hw
      go_wp2_with fail
      refine (giveUp_calls 4 _).mono ?_
      rintro e W2 ⟨rfl, rfl⟩
      go_wp2
      rw [unhide HE]
      exact ⟨rfl, unhide HG, rfl⟩
  · refine (one_short R a c l k _ (unhide H) (Nat.le_antisymm (unhide H).le (by omega))).mono ?_
    rintro e W1 ⟨rfl, hr1, hg1⟩
    have HE := hide (show oneE l x y k = .error 3 by rw [oneE, if_neg hk])
    go_wp2
    rw [unhide HE]
    exact ⟨rfl, hg1, rfl⟩
theorem positive_E (R : Nat) (a : Option Addr) (c : Nat) (l : List Nat) (k : Nat) (w : World) (h : RdAt R w a c l k) (hl : l.length ≤ maxLen) :
    Calls Tryz.prog 233 #[.pointer (some ⟨R, 0, none⟩)] w (Ends R a c l w (fun n _ v => v = .int .i64 ((n : Nat) : Int)) (posE l k)) := by
  have HL := hide hl
  have H := hide h
  clear h hl
  go_enter Tryz.func233, Tryz.ntmps233
  go_wp2_with fail
  refine (number_E R a c l k _ (unhide H) (unhide HL)).mono ?_
  rintro e W1 ⟨hg1, hm1⟩
  cases ht : takeE l k with
  | error x =>
    rw [ht] at hm1
    obtain rfl := hm1
    have HE := hide (show posE l k = .error x by rw [posE, ht])
    go_wp2
    rw [unhide HE]
    exact ⟨rfl, hg1, rfl⟩
  | ok p =>
    obtain ⟨n, k2⟩ := p
    rw [ht] at hm1
    obtain ⟨⟨_, rfl, rfl⟩, hr1⟩ := hm1
    by_cases h0 : n = 0
    · have HE := hide (show posE l k = .error 4 by rw [posE, ht]; simp only [if_pos h0])
      go_wp2_with fail
      refine (giveUp_calls 4 _).mono ?_
      rintro e W2 ⟨rfl, rfl⟩
      go_wp2
      rw [unhide HE]
      exact ⟨rfl, hg1, rfl⟩
    · have HE := hide (show posE l k = .ok (n, k2) by rw [posE, ht]; simp only [if_neg h0])
      go_wp2
      go_ret
      rw [unhide HE]
      exact ⟨hg1, ⟨_, rfl, rfl⟩, hr1⟩
theorem entrySize_E (R : Nat) (a : Option Addr) (c : Nat) (l : List Nat) (kd k : Nat) (w : World) (h : RdAt R w a c l k) (hl : l.length ≤ maxLen) :
    Calls Tryz.prog 235 #[.pointer (some ⟨R, 0, none⟩), .int .i64 (kd : Int)] w (Ends R a c l w (fun n _ v => v = .int .i64 ((n : Nat) : Int)) (sizeE l kd k)) := by
  have HL := hide hl
  have H := hide h
  clear h hl
  go_enter Tryz.func235, Tryz.ntmps235
  go_wp2_with fail
  refine (number_E R a c l k _ (unhide H) (unhide HL)).mono ?_
  rintro e W1 ⟨hg1, hm1⟩
  cases ht : takeE l k with
  | error x =>
    rw [ht] at hm1
    obtain rfl := hm1
    have HE := hide (show sizeE l kd k = .error x by rw [sizeE, ht])
    go_wp2
    rw [unhide HE]
    exact ⟨rfl, hg1, rfl⟩
  | ok p =>
    obtain ⟨n, k2⟩ := p
    rw [ht] at hm1
    obtain ⟨⟨_, rfl, rfl⟩, hr1⟩ := hm1
    by_cases h0 : kd = 1 ∧ 0 < n
    · have HE := hide (show sizeE l kd k = .error 4 by rw [sizeE, ht]; simp only [if_pos h0])
      obtain ⟨rfl, hn⟩ := h0
      go_wp2_with fail
      refine (giveUp_calls 4 _).mono ?_
      rintro e W2 ⟨rfl, rfl⟩
      go_wp2
      rw [unhide HE]
      exact ⟨rfl, hg1, rfl⟩
    · by_cases h1 : 2048 < n
      · have HE := hide (show sizeE l kd k = .error 6 by rw [sizeE, ht]; simp only [if_neg h0, if_pos h1])
        have hk : ¬ kd = 1 := fun e => h0 ⟨e, by omega⟩
        clear h0
        go_wp2_with fail
        refine (giveUp_calls 6 _).mono ?_
        rintro e W2 ⟨rfl, rfl⟩
        go_wp2
        rw [unhide HE]
        exact ⟨rfl, hg1, rfl⟩
      · have HE := hide (show sizeE l kd k = .ok (n, k2) by rw [sizeE, ht]; simp only [if_neg h0, if_neg h1])
        by_cases hk : kd = 1
        · have hn : n = 0 := by omega
          subst hk hn
          clear h0
          go_wp2
          go_ret
          rw [unhide HE]
          exact ⟨hg1, ⟨_, rfl, rfl⟩, hr1⟩
        · clear h0
          go_wp2
          go_ret
          rw [unhide HE]
          exact ⟨hg1, ⟨_, rfl, rfl⟩, hr1⟩
set_option maxHeartbeats 1000000 in
theorem data_E (R : Nat) (a : Option Addr) (c : Nat) (l : List Nat) (n k : Nat) (w : World) (h : RdAt R w a c l k) (hl : l.length ≤ 140737488355328) (hc : l.length ≤ c) (hz : a = none → c = 0) :
    Calls Tryz.prog 234 #[.pointer (some ⟨R, 0, none⟩), .int .i64 (n : Int)] w (Ends R a c l w (fun d w' v => ∃ sp m' c', v = .slice sp m' c' ∧ Hid ((d : List Nat).length = m') ∧ OwnB w.heap.size w' sp c' d) (dataE l n k)) := by
  have c0 := h.c0
  have c1 := h.c1
  have f1 := h.f1
  have hk := h.le
  have H := hide h
  clear h
  go_enter Tryz.func234, Tryz.ntmps234
  by_cases hs : l.length - k < n
  · have HE := hide (show dataE l n k = .error 3 by rw [dataE, if_pos hs])
    go_wp2_with fail
    go_quiet (fail)
    go_wp2_with fail
    refine (giveUp_calls 3 _).mono ?_
    rintro e W2 ⟨rfl, rfl⟩
    go_wp2
    rw [unhide HE]
    exact ⟨rfl, grown_drewN _ _ _, rfl⟩
  · have HE := hide (show dataE l n k = .ok ((l.drop k).take n, k + n) by rw [dataE, if_neg hs])
    have hsl : ∀ u, (Instr.slice 58 (.slice a l.length c) (some (.int .i64 (k : Int))) (some (.int .i64 ((k : Int) + (n : Int)))) none).run Tryz.prog u = .ok (.slice (slp a k c) n (c - k)) u := fun u => by
      have := run_slice_lh8 a l.length c k (k + n) (by omega) (by omega) u
      rw [Nat.add_sub_cancel_left] at this
      rw [← this, Int.natCast_add]
    have HB := hide ((((unhide H).bytes).drop k c hc).take n)
    have HLen := hide (show ((l.drop k).take n).length = n by rw [List.length_take, List.length_drop]; omega)
    have Hz := hide (show slp a k c = none → c - k = 0 by
      intro e
      unfold slp at e
      split at e
      · omega
      · cases a with
        | none => have := hz rfl; omega
        | some x => cases e)
    generalize slp a k c = p at *
    go_wp2_with fail
    go_quiet (fail)
    go_wp2_with fail
    have hadd : IntKind.i64.wrap ((k : Int) + (n : Int)) = (k : Int) + (n : Int) := by rw [IntKind.wrap_i64]; omega
    have HD := hide (show BytesAt (w.drewN nq).drew p ((l.drop k).take n) from ⟨(unhide HB).lt, (unhide HB).cell⟩)
    have HD' := hide (show BytesAt (w.drewN nq) p ((l.drop k).take n) from ⟨(unhide HB).lt, (unhide HB).cell⟩)
    go_region_held3 (fun w' => w'.cell? ⟨R, 0, none⟩ = some (.slice a l.length c) ∧ w'.cell? ⟨R, 1, none⟩ = some (.int .i64 (k : Int)) ∧ (Instr.slice 58 (.slice a l.length c) (some (.int .i64 (k : Int))) (some (.int .i64 ((k : Int) + (n : Int)))) none).run Tryz.prog w' = .ok (.slice p n (c - k)) w')
      (first
        | exact ⟨c0, c1, hsl _⟩
        | exact ⟨(hg3.cell_far ⟨R, 0, none⟩ (World.block_lt_of_cell? _ _ c0) (by intro e; cases e)).trans c0, (hg3.cell_far ⟨R, 1, none⟩ (World.block_lt_of_cell? _ _ c1) (by intro e; cases e)).trans c1, hsl _⟩)
      (first
        | (refine step_append8L rfl (.const (.slice none 0 0)) (.tmp 33) rfl w.heap.size none 0 0 [] rfl rfl (OwnB.ofNil _ _) p n (c - k) rfl ((l.drop k).take n) (unhide HLen) (by first | exact unhide HD | exact unhide HD') (unhide Hz) (by simp only [List.length_nil]; omega) (Nat.le_refl _) ?_; intro sp3 n3 k3 W3 hn3 ho3 hg3 hl3))
    rw [List.nil_append] at hn3 ho3
    have hb3 : Below w.heap.size w W3 := ⟨hg3.os, hg3.tape, hg3.output, hg3.size, fun j hj => hg3.block j hj (fun e => by cases e)⟩
    have hr3 := (unhide H).later hb3
    have f3 := hr3.f1
    have c3 := hr3.c1
    have HR4 := hide (hr3.moved (k + n) (by omega))
    have HG4 := hide (grown_trans (grown_below (some R) hb3) (grown_set W3 R 1 (.int .i64 ((k + n : Nat) : Int))))
    have HO4 := hide (ho3.far (grown_set W3 R 1 (.int .i64 ((k + n : Nat) : Int))) (unhide H).lt)
    rw [show (((k + n : Nat) : Int)) = (k : Int) + (n : Int) from Int.natCast_add k n] at HR4 HG4 HO4
    clear hb3 hr3 ho3 hg3 hl3
    go_wp2
    go_ret
    rw [unhide HE]
    exact ⟨unhide HG4, ⟨_, rfl, sp3, n3, k3, rfl, hn3, unhide HO4⟩, unhide HR4⟩

/-- An entry as a value. -/
abbrev entVal (k t i : Int) (a : Option Addr) (n c : Nat) : Value := .agg #[.int .i64 k, .int .i64 t, .int .i64 i, .slice a n c]
/-- An entry that was read, as a value. -/
def EntIs (base : Nat) (p : Nat × Nat × Nat × List Nat) (w : World) (v : Value) : Prop :=
  ∃ sp m c, v = entVal p.1 p.2.1 p.2.2.1 sp m c ∧ Hid (p.2.2.2.length = m) ∧ OwnB base w sp c p.2.2.2
end Go.Proofs.YtijcpmbfhfppmaaGreatDoor
end
