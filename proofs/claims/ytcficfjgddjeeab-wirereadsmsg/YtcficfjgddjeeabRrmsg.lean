/- The document's answer of layer 2: GetMsg. -/
import Derived.Test.YtcficfjgddjeeabTms
import Derived.Test.YtcficfjgddjeeabRgmsg
namespace Go.Proofs.Ytcficfjgddjeeab
open Go.ChangeShapes Go.WideShapes Go.ChangeAt Go.RowKit

theorem ScAt.drew {S : Nat} {w : World} {a : Option Addr} {c : Nat} {l : List Nat} {k x : Nat} (h : ScAt S w a c l k x) : ScAt S w.drew a c l k x := ⟨h.blk, ⟨h.bytes.lt, h.bytes.cell⟩, h.low, h.le⟩
theorem ScAt.farO {S : Nat} {w w' : World} {a : Option Addr} {c : Nat} {l : List Nat} {k x : Nat} {o : Option Nat} (h : ScAt S w a c l k x) (hg : w.grownBy w' o) (hj : o ≠ some S) (hb : ∀ b off, 0 < l.length → a = some ⟨b, off, none⟩ → o ≠ some b) : ScAt S w' a c l k x := by
  refine ⟨(hg.block S h.lt (fun e => hj e.symm)).trans h.blk, ⟨h.bytes.lt, fun i hi => ?_⟩, h.low, h.le⟩
  obtain ⟨b, off, h1, h2⟩ := h.bytes.cell i hi
  refine ⟨b, off, h1, ?_⟩
  rw [World.cell?_of_block (w := w) (w' := w') (hg.block b (World.block_lt_of_cell? _ _ h2) (fun e => hb b off (by omega) h1 e.symm))]
  exact h2
set_option maxRecDepth 20000 in
set_option maxHeartbeats 8000000 in
theorem refGetMsg_calls (a : Option Addr) (m c : Nat) (l : List Nat) (w : World) (hm : l.length = m) (hl : l.length ≤ 140737488355328) (hc : l.length ≤ c) (hz : a = none → c = 0) (hb : BytesAt w a l) :
    Calls Try.prog 15 #[.slice a m c] w fun e w' => (∃ v, e = .returned v ∧ MsgRes w.heap.size (wholeE l (msgE l 0)) w' v) ∧ Below w.heap.size w w' := by
  subst hm
  have HB := hide hb
  have HL := hide hl
  have HC := hide hc
  have HZ := hide hz
  have HBlt := hide (fun b off h0 e => block_lt hb h0 b off e)
  clear hb hl hc hz
  obtain ⟨kd, k1, x1, N1'⟩ : ∃ v k x, oneS l 1 7 0 0 = (v, k, x) := ⟨_, _, _, rfl⟩
  obtain ⟨fr, k2, x2, N2'⟩ : ∃ v k x, oneS l 1 9 k1 x1 = (v, k, x) := ⟨_, _, _, rfl⟩
  obtain ⟨to, k3, x3, N3'⟩ : ∃ v k x, oneS l 1 9 k2 x2 = (v, k, x) := ⟨_, _, _, rfl⟩
  obtain ⟨ok, k4, x4, N4'⟩ : ∃ v k x, oneS l 0 1 k3 x3 = (v, k, x) := ⟨_, _, _, rfl⟩
  obtain ⟨t, k5, x5, N5'⟩ : ∃ v k x, numS l 0 k4 x4 = (v, k, x) := ⟨_, _, _, rfl⟩
  obtain ⟨ix, k6, x6, N6'⟩ : ∃ v k x, numS l 0 k5 x5 = (v, k, x) := ⟨_, _, _, rfl⟩
  obtain ⟨lt, k7, x7, N7'⟩ : ∃ v k x, numS l 0 k6 x6 = (v, k, x) := ⟨_, _, _, rfl⟩
  obtain ⟨cm, k8, x8, N8'⟩ : ∃ v k x, numS l 0 k7 x7 = (v, k, x) := ⟨_, _, _, rfl⟩
  obtain ⟨hi, k9, x9, N9'⟩ : ∃ v k x, numS l 0 k8 x8 = (v, k, x) := ⟨_, _, _, rfl⟩
  obtain ⟨ro, k10, x10, N10'⟩ : ∃ v k x, numS l 0 k9 x9 = (v, k, x) := ⟨_, _, _, rfl⟩
  obtain ⟨n, k11, x11, N11'⟩ : ∃ v k x, numS l 0 k10 x10 = (v, k, x) := ⟨_, _, _, rfl⟩
  have HP := hide (msg_pre N1' N2' N3' N4' N5' N6' N7' N8' N9' N10' N11')
  have N1 := hide N1'
  have N2 := hide N2'
  have N3 := hide N3'
  have N4 := hide N4'
  have N5 := hide N5'
  have N6 := hide N6'
  have N7 := hide N7'
  have N8 := hide N8'
  have N9 := hide N9'
  have N10 := hide N10'
  have N11 := hide N11'
  clear N1' N2' N3' N4' N5' N6' N7' N8' N9' N10' N11'
  go_enter Try.func15, Try.ntmps15
  go_wp2_with fail
  have r0 := heap_old (.cells #[.int .i64 0, .int .i64 0, .int .i64 0, .int .i64 0, .int .i64 0, .int .i64 0, .int .i64 0, .int .i64 0, .int .i64 0, .bool false, .slice none 0 0, .slice none 0 0] 26) (heap_old (.cells #[.slice a l.length c, .int .i64 0, .int .i64 0] 64) (heap_new w (.cells #[.int .i64 0, .int .i64 0, .int .i64 0, .int .i64 0, .int .i64 0, .int .i64 0, .int .i64 0, .int .i64 0, .int .i64 0, .bool false, .slice none 0 0, .slice none 0 0] 26)))
  have s0 := heap_old (.cells #[.int .i64 0, .int .i64 0, .int .i64 0, .int .i64 0, .int .i64 0, .int .i64 0, .int .i64 0, .int .i64 0, .int .i64 0, .bool false, .slice none 0 0, .slice none 0 0] 26) (heap_new (w.alloc (.cells #[.int .i64 0, .int .i64 0, .int .i64 0, .int .i64 0, .int .i64 0, .int .i64 0, .int .i64 0, .int .i64 0, .int .i64 0, .bool false, .slice none 0 0, .slice none 0 0] 26)) (.cells #[.slice a l.length c, .int .i64 0, .int .i64 0] 64))
  have e0 := heap_new ((w.alloc (.cells #[.int .i64 0, .int .i64 0, .int .i64 0, .int .i64 0, .int .i64 0, .int .i64 0, .int .i64 0, .int .i64 0, .int .i64 0, .bool false, .slice none 0 0, .slice none 0 0] 26)).alloc (.cells #[.slice a l.length c, .int .i64 0, .int .i64 0] 64)) (.cells #[.int .i64 0, .int .i64 0, .int .i64 0, .int .i64 0, .int .i64 0, .int .i64 0, .int .i64 0, .int .i64 0, .int .i64 0, .bool false, .slice none 0 0, .slice none 0 0] 26)
  rw [size_alloc] at s0
  rw [size_alloc, size_alloc] at e0
  have hbl : Below w.heap.size w (((w.alloc (.cells #[.int .i64 0, .int .i64 0, .int .i64 0, .int .i64 0, .int .i64 0, .int .i64 0, .int .i64 0, .int .i64 0, .int .i64 0, .bool false, .slice none 0 0, .slice none 0 0] 26)).alloc (.cells #[.slice a l.length c, .int .i64 0, .int .i64 0] 64)).alloc (.cells #[.int .i64 0, .int .i64 0, .int .i64 0, .int .i64 0, .int .i64 0, .int .i64 0, .int .i64 0, .int .i64 0, .int .i64 0, .bool false, .slice none 0 0, .slice none 0 0] 26)) := (((Below.refl _ _).alloc (Nat.le_refl _) _).alloc (by rw [size_alloc]; omega) _).alloc (by rw [size_alloc, size_alloc]; omega) _
  have Z0 := hide (show w.heap.size + 3 ≤ (((w.alloc (.cells #[.int .i64 0, .int .i64 0, .int .i64 0, .int .i64 0, .int .i64 0, .int .i64 0, .int .i64 0, .int .i64 0, .int .i64 0, .bool false, .slice none 0 0, .slice none 0 0] 26)).alloc (.cells #[.slice a l.length c, .int .i64 0, .int .i64 0] 64)).alloc (.cells #[.int .i64 0, .int .i64 0, .int .i64 0, .int .i64 0, .int .i64 0, .int .i64 0, .int .i64 0, .int .i64 0, .int .i64 0, .bool false, .slice none 0 0, .slice none 0 0] 26)).heap.size by rw [size_alloc, size_alloc, size_alloc]; omega)
  generalize ((w.alloc (.cells #[.int .i64 0, .int .i64 0, .int .i64 0, .int .i64 0, .int .i64 0, .int .i64 0, .int .i64 0, .int .i64 0, .int .i64 0, .bool false, .slice none 0 0, .slice none 0 0] 26)).alloc (.cells #[.slice a l.length c, .int .i64 0, .int .i64 0] 64)).alloc (.cells #[.int .i64 0, .int .i64 0, .int .i64 0, .int .i64 0, .int .i64 0, .int .i64 0, .int .i64 0, .int .i64 0, .int .i64 0, .bool false, .slice none 0 0, .slice none 0 0] 26) = W0 at *
  have S0 := hide (sc_new (unhide HB) hbl (Nat.le_succ _) s0)
  have F0 := hide hbl
  have Q0 := hide r0
  have E0 := hide (show W0.heap[w.heap.size + 2]? = _ from e0)
  clear r0 s0 e0 hbl
  refine (scanOne_calls (w.heap.size + 1) a c l 1 7 0 0 _ (unhide S0) (unhide HL)).mono ?_
  rw [unhide N1]
  rintro e V1 ⟨rfl, sc1, g1⟩
  have q1 := grown_block g1 (unhide Q0) (by omega)
  have q2 := grown_block g1 (unhide E0) (by omega)
  have cf := box_cell q2 0 _ rfl
  have ff := box_free q2 0
  have q3 := heap_setCell_same V1 (w.heap.size + 2) 0 _ 26 (.int .i64 (kd : Int)) q2
  have gs := grown_set V1 (w.heap.size + 2) 0 (.int .i64 (kd : Int))
  have Q1 := hide (grown_block gs q1 (by omega))
  have E1 : Hid ((V1.setCell ⟨w.heap.size + 2, 0, none⟩ (.int .i64 (kd : Int))).heap[w.heap.size + 2]? = some (.cells #[.int .i64 (kd : Int), .int .i64 0, .int .i64 0, .int .i64 0, .int .i64 0, .int .i64 0, .int .i64 0, .int .i64 0, .int .i64 0, .bool false, .slice none 0 0, .slice none 0 0] 26 (0, 0))) := hide (by simpa using q3)
  have F1 := hide (((unhide F0).grown g1 (unhide F0).size (fun j e => by have := Option.some.inj e; omega)).grown gs (Nat.le_trans (unhide F0).size g1.size) (fun j e => by have := Option.some.inj e; omega))
  have S1 := hide (sc1.far gs (by omega) (fun b off h0 e => by have := unhide HBlt b off h0 e; omega))
  have Z1 := hide (Nat.le_trans (Nat.le_trans (unhide Z0) g1.size) gs.size)
  clear q1 q2 q3 gs g1 sc1 Q0 E0 F0 S0 Z0
  go_wp2_with fail
  generalize V1.setCell ⟨w.heap.size + 2, 0, none⟩ (.int .i64 (kd : Int)) = W1 at *
  clear cf ff
  refine (scanOne_calls (w.heap.size + 1) a c l 1 9 k1 x1 _ (unhide S1) (unhide HL)).mono ?_
  rw [unhide N2]
  rintro e V2 ⟨rfl, sc2, g2⟩
  have q1 := grown_block g2 (unhide Q1) (by omega)
  have q2 := grown_block g2 (unhide E1) (by omega)
  have cf := box_cell q2 1 _ rfl
  have ff := box_free q2 1
  have q3 := heap_setCell_same V2 (w.heap.size + 2) 1 _ 26 (.int .i64 (fr : Int)) q2
  have gs := grown_set V2 (w.heap.size + 2) 1 (.int .i64 (fr : Int))
  have Q2 := hide (grown_block gs q1 (by omega))
  have E2 : Hid ((V2.setCell ⟨w.heap.size + 2, 1, none⟩ (.int .i64 (fr : Int))).heap[w.heap.size + 2]? = some (.cells #[.int .i64 (kd : Int), .int .i64 (fr : Int), .int .i64 0, .int .i64 0, .int .i64 0, .int .i64 0, .int .i64 0, .int .i64 0, .int .i64 0, .bool false, .slice none 0 0, .slice none 0 0] 26 (0, 0))) := hide (by simpa using q3)
  have F2 := hide (((unhide F1).grown g2 (unhide F1).size (fun j e => by have := Option.some.inj e; omega)).grown gs (Nat.le_trans (unhide F1).size g2.size) (fun j e => by have := Option.some.inj e; omega))
  have S2 := hide (sc2.far gs (by omega) (fun b off h0 e => by have := unhide HBlt b off h0 e; omega))
  have Z2 := hide (Nat.le_trans (Nat.le_trans (unhide Z1) g2.size) gs.size)
  clear q1 q2 q3 gs g2 sc2 Q1 E1 F1 S1 Z1
  go_wp2_with fail
  generalize V2.setCell ⟨w.heap.size + 2, 1, none⟩ (.int .i64 (fr : Int)) = W2 at *
  clear cf ff
  refine (scanOne_calls (w.heap.size + 1) a c l 1 9 k2 x2 _ (unhide S2) (unhide HL)).mono ?_
  rw [unhide N3]
  rintro e V3 ⟨rfl, sc3, g3⟩
  have q1 := grown_block g3 (unhide Q2) (by omega)
  have q2 := grown_block g3 (unhide E2) (by omega)
  have cf := box_cell q2 2 _ rfl
  have ff := box_free q2 2
  have q3 := heap_setCell_same V3 (w.heap.size + 2) 2 _ 26 (.int .i64 (to : Int)) q2
  have gs := grown_set V3 (w.heap.size + 2) 2 (.int .i64 (to : Int))
  have Q3 := hide (grown_block gs q1 (by omega))
  have E3 : Hid ((V3.setCell ⟨w.heap.size + 2, 2, none⟩ (.int .i64 (to : Int))).heap[w.heap.size + 2]? = some (.cells #[.int .i64 (kd : Int), .int .i64 (fr : Int), .int .i64 (to : Int), .int .i64 0, .int .i64 0, .int .i64 0, .int .i64 0, .int .i64 0, .int .i64 0, .bool false, .slice none 0 0, .slice none 0 0] 26 (0, 0))) := hide (by simpa using q3)
  have F3 := hide (((unhide F2).grown g3 (unhide F2).size (fun j e => by have := Option.some.inj e; omega)).grown gs (Nat.le_trans (unhide F2).size g3.size) (fun j e => by have := Option.some.inj e; omega))
  have S3 := hide (sc3.far gs (by omega) (fun b off h0 e => by have := unhide HBlt b off h0 e; omega))
  have Z3 := hide (Nat.le_trans (Nat.le_trans (unhide Z2) g3.size) gs.size)
  clear q1 q2 q3 gs g3 sc3 Q2 E2 F2 S2 Z2
  go_wp2_with fail
  generalize V3.setCell ⟨w.heap.size + 2, 2, none⟩ (.int .i64 (to : Int)) = W3 at *
  clear cf ff
  refine (scanOne_calls (w.heap.size + 1) a c l 0 1 k3 x3 _ (unhide S3) (unhide HL)).mono ?_
  rw [unhide N4]
  rintro e V4 ⟨rfl, sc4, g4⟩
  have q1 := grown_block g4 (unhide Q3) (by omega)
  have q2 := grown_block g4 (unhide E3) (by omega)
  have cf := box_cell q2 9 _ rfl
  have ff := box_free q2 9
  have q3 := heap_setCell_same V4 (w.heap.size + 2) 9 _ 26 (.bool ((ok : Int) == 1)) q2
  have gs := grown_set V4 (w.heap.size + 2) 9 (.bool ((ok : Int) == 1))
  have Q4 := hide (grown_block gs q1 (by omega))
  have E4 : Hid ((V4.setCell ⟨w.heap.size + 2, 9, none⟩ (.bool ((ok : Int) == 1))).heap[w.heap.size + 2]? = some (.cells #[.int .i64 (kd : Int), .int .i64 (fr : Int), .int .i64 (to : Int), .int .i64 0, .int .i64 0, .int .i64 0, .int .i64 0, .int .i64 0, .int .i64 0, .bool ((ok : Int) == 1), .slice none 0 0, .slice none 0 0] 26 (0, 0))) := hide (by simpa using q3)
  have F4 := hide (((unhide F3).grown g4 (unhide F3).size (fun j e => by have := Option.some.inj e; omega)).grown gs (Nat.le_trans (unhide F3).size g4.size) (fun j e => by have := Option.some.inj e; omega))
  have S4 := hide (sc4.far gs (by omega) (fun b off h0 e => by have := unhide HBlt b off h0 e; omega))
  have Z4 := hide (Nat.le_trans (Nat.le_trans (unhide Z3) g4.size) gs.size)
  clear q1 q2 q3 gs g4 sc4 Q3 E3 F3 S3 Z3
  go_wp2_with fail
  generalize V4.setCell ⟨w.heap.size + 2, 9, none⟩ (.bool ((ok : Int) == 1)) = W4 at *
  clear cf ff
  refine (num_calls (w.heap.size + 1) a c l 0 k4 x4 _ (unhide S4) (unhide HL)).mono ?_
  rw [unhide N5]
  rintro e V5 ⟨rfl, sc5, g5⟩
  have q1 := grown_block g5 (unhide Q4) (by omega)
  have q2 := grown_block g5 (unhide E4) (by omega)
  have cf := box_cell q2 3 _ rfl
  have ff := box_free q2 3
  have q3 := heap_setCell_same V5 (w.heap.size + 2) 3 _ 26 (.int .i64 (t : Int)) q2
  have gs := grown_set V5 (w.heap.size + 2) 3 (.int .i64 (t : Int))
  have Q5 := hide (grown_block gs q1 (by omega))
  have E5 : Hid ((V5.setCell ⟨w.heap.size + 2, 3, none⟩ (.int .i64 (t : Int))).heap[w.heap.size + 2]? = some (.cells #[.int .i64 (kd : Int), .int .i64 (fr : Int), .int .i64 (to : Int), .int .i64 (t : Int), .int .i64 0, .int .i64 0, .int .i64 0, .int .i64 0, .int .i64 0, .bool ((ok : Int) == 1), .slice none 0 0, .slice none 0 0] 26 (0, 0))) := hide (by simpa using q3)
  have F5 := hide (((unhide F4).grown g5 (unhide F4).size (fun j e => by have := Option.some.inj e; omega)).grown gs (Nat.le_trans (unhide F4).size g5.size) (fun j e => by have := Option.some.inj e; omega))
  have S5 := hide (sc5.far gs (by omega) (fun b off h0 e => by have := unhide HBlt b off h0 e; omega))
  have Z5 := hide (Nat.le_trans (Nat.le_trans (unhide Z4) g5.size) gs.size)
  clear q1 q2 q3 gs g5 sc5 Q4 E4 F4 S4 Z4
  go_wp2_with fail
  generalize V5.setCell ⟨w.heap.size + 2, 3, none⟩ (.int .i64 (t : Int)) = W5 at *
  clear cf ff
  refine (num_calls (w.heap.size + 1) a c l 0 k5 x5 _ (unhide S5) (unhide HL)).mono ?_
  rw [unhide N6]
  rintro e V6 ⟨rfl, sc6, g6⟩
  have q1 := grown_block g6 (unhide Q5) (by omega)
  have q2 := grown_block g6 (unhide E5) (by omega)
  have cf := box_cell q2 4 _ rfl
  have ff := box_free q2 4
  have q3 := heap_setCell_same V6 (w.heap.size + 2) 4 _ 26 (.int .i64 (ix : Int)) q2
  have gs := grown_set V6 (w.heap.size + 2) 4 (.int .i64 (ix : Int))
  have Q6 := hide (grown_block gs q1 (by omega))
  have E6 : Hid ((V6.setCell ⟨w.heap.size + 2, 4, none⟩ (.int .i64 (ix : Int))).heap[w.heap.size + 2]? = some (.cells #[.int .i64 (kd : Int), .int .i64 (fr : Int), .int .i64 (to : Int), .int .i64 (t : Int), .int .i64 (ix : Int), .int .i64 0, .int .i64 0, .int .i64 0, .int .i64 0, .bool ((ok : Int) == 1), .slice none 0 0, .slice none 0 0] 26 (0, 0))) := hide (by simpa using q3)
  have F6 := hide (((unhide F5).grown g6 (unhide F5).size (fun j e => by have := Option.some.inj e; omega)).grown gs (Nat.le_trans (unhide F5).size g6.size) (fun j e => by have := Option.some.inj e; omega))
  have S6 := hide (sc6.far gs (by omega) (fun b off h0 e => by have := unhide HBlt b off h0 e; omega))
  have Z6 := hide (Nat.le_trans (Nat.le_trans (unhide Z5) g6.size) gs.size)
  clear q1 q2 q3 gs g6 sc6 Q5 E5 F5 S5 Z5
  go_wp2_with fail
  generalize V6.setCell ⟨w.heap.size + 2, 4, none⟩ (.int .i64 (ix : Int)) = W6 at *
  clear cf ff
  refine (num_calls (w.heap.size + 1) a c l 0 k6 x6 _ (unhide S6) (unhide HL)).mono ?_
  rw [unhide N7]
  rintro e V7 ⟨rfl, sc7, g7⟩
  have q1 := grown_block g7 (unhide Q6) (by omega)
  have q2 := grown_block g7 (unhide E6) (by omega)
  have cf := box_cell q2 5 _ rfl
  have ff := box_free q2 5
  have q3 := heap_setCell_same V7 (w.heap.size + 2) 5 _ 26 (.int .i64 (lt : Int)) q2
  have gs := grown_set V7 (w.heap.size + 2) 5 (.int .i64 (lt : Int))
  have Q7 := hide (grown_block gs q1 (by omega))
  have E7 : Hid ((V7.setCell ⟨w.heap.size + 2, 5, none⟩ (.int .i64 (lt : Int))).heap[w.heap.size + 2]? = some (.cells #[.int .i64 (kd : Int), .int .i64 (fr : Int), .int .i64 (to : Int), .int .i64 (t : Int), .int .i64 (ix : Int), .int .i64 (lt : Int), .int .i64 0, .int .i64 0, .int .i64 0, .bool ((ok : Int) == 1), .slice none 0 0, .slice none 0 0] 26 (0, 0))) := hide (by simpa using q3)
  have F7 := hide (((unhide F6).grown g7 (unhide F6).size (fun j e => by have := Option.some.inj e; omega)).grown gs (Nat.le_trans (unhide F6).size g7.size) (fun j e => by have := Option.some.inj e; omega))
  have S7 := hide (sc7.far gs (by omega) (fun b off h0 e => by have := unhide HBlt b off h0 e; omega))
  have Z7 := hide (Nat.le_trans (Nat.le_trans (unhide Z6) g7.size) gs.size)
  clear q1 q2 q3 gs g7 sc7 Q6 E6 F6 S6 Z6
  go_wp2_with fail
  generalize V7.setCell ⟨w.heap.size + 2, 5, none⟩ (.int .i64 (lt : Int)) = W7 at *
  clear cf ff
  refine (num_calls (w.heap.size + 1) a c l 0 k7 x7 _ (unhide S7) (unhide HL)).mono ?_
  rw [unhide N8]
  rintro e V8 ⟨rfl, sc8, g8⟩
  have q1 := grown_block g8 (unhide Q7) (by omega)
  have q2 := grown_block g8 (unhide E7) (by omega)
  have cf := box_cell q2 6 _ rfl
  have ff := box_free q2 6
  have q3 := heap_setCell_same V8 (w.heap.size + 2) 6 _ 26 (.int .i64 (cm : Int)) q2
  have gs := grown_set V8 (w.heap.size + 2) 6 (.int .i64 (cm : Int))
  have Q8 := hide (grown_block gs q1 (by omega))
  have E8 : Hid ((V8.setCell ⟨w.heap.size + 2, 6, none⟩ (.int .i64 (cm : Int))).heap[w.heap.size + 2]? = some (.cells #[.int .i64 (kd : Int), .int .i64 (fr : Int), .int .i64 (to : Int), .int .i64 (t : Int), .int .i64 (ix : Int), .int .i64 (lt : Int), .int .i64 (cm : Int), .int .i64 0, .int .i64 0, .bool ((ok : Int) == 1), .slice none 0 0, .slice none 0 0] 26 (0, 0))) := hide (by simpa using q3)
  have F8 := hide (((unhide F7).grown g8 (unhide F7).size (fun j e => by have := Option.some.inj e; omega)).grown gs (Nat.le_trans (unhide F7).size g8.size) (fun j e => by have := Option.some.inj e; omega))
  have S8 := hide (sc8.far gs (by omega) (fun b off h0 e => by have := unhide HBlt b off h0 e; omega))
  have Z8 := hide (Nat.le_trans (Nat.le_trans (unhide Z7) g8.size) gs.size)
  clear q1 q2 q3 gs g8 sc8 Q7 E7 F7 S7 Z7
  go_wp2_with fail
  generalize V8.setCell ⟨w.heap.size + 2, 6, none⟩ (.int .i64 (cm : Int)) = W8 at *
  clear cf ff
  refine (num_calls (w.heap.size + 1) a c l 0 k8 x8 _ (unhide S8) (unhide HL)).mono ?_
  rw [unhide N9]
  rintro e V9 ⟨rfl, sc9, g9⟩
  have q1 := grown_block g9 (unhide Q8) (by omega)
  have q2 := grown_block g9 (unhide E8) (by omega)
  have cf := box_cell q2 7 _ rfl
  have ff := box_free q2 7
  have q3 := heap_setCell_same V9 (w.heap.size + 2) 7 _ 26 (.int .i64 (hi : Int)) q2
  have gs := grown_set V9 (w.heap.size + 2) 7 (.int .i64 (hi : Int))
  have Q9 := hide (grown_block gs q1 (by omega))
  have E9 : Hid ((V9.setCell ⟨w.heap.size + 2, 7, none⟩ (.int .i64 (hi : Int))).heap[w.heap.size + 2]? = some (.cells #[.int .i64 (kd : Int), .int .i64 (fr : Int), .int .i64 (to : Int), .int .i64 (t : Int), .int .i64 (ix : Int), .int .i64 (lt : Int), .int .i64 (cm : Int), .int .i64 (hi : Int), .int .i64 0, .bool ((ok : Int) == 1), .slice none 0 0, .slice none 0 0] 26 (0, 0))) := hide (by simpa using q3)
  have F9 := hide (((unhide F8).grown g9 (unhide F8).size (fun j e => by have := Option.some.inj e; omega)).grown gs (Nat.le_trans (unhide F8).size g9.size) (fun j e => by have := Option.some.inj e; omega))
  have S9 := hide (sc9.far gs (by omega) (fun b off h0 e => by have := unhide HBlt b off h0 e; omega))
  have Z9 := hide (Nat.le_trans (Nat.le_trans (unhide Z8) g9.size) gs.size)
  clear q1 q2 q3 gs g9 sc9 Q8 E8 F8 S8 Z8
  go_wp2_with fail
  generalize V9.setCell ⟨w.heap.size + 2, 7, none⟩ (.int .i64 (hi : Int)) = W9 at *
  clear cf ff
  refine (num_calls (w.heap.size + 1) a c l 0 k9 x9 _ (unhide S9) (unhide HL)).mono ?_
  rw [unhide N10]
  rintro e V10 ⟨rfl, sc10, g10⟩
  have q1 := grown_block g10 (unhide Q9) (by omega)
  have q2 := grown_block g10 (unhide E9) (by omega)
  have cf := box_cell q2 8 _ rfl
  have ff := box_free q2 8
  have q3 := heap_setCell_same V10 (w.heap.size + 2) 8 _ 26 (.int .i64 (ro : Int)) q2
  have gs := grown_set V10 (w.heap.size + 2) 8 (.int .i64 (ro : Int))
  have Q10 := hide (grown_block gs q1 (by omega))
  have E10 : Hid ((V10.setCell ⟨w.heap.size + 2, 8, none⟩ (.int .i64 (ro : Int))).heap[w.heap.size + 2]? = some (.cells #[.int .i64 (kd : Int), .int .i64 (fr : Int), .int .i64 (to : Int), .int .i64 (t : Int), .int .i64 (ix : Int), .int .i64 (lt : Int), .int .i64 (cm : Int), .int .i64 (hi : Int), .int .i64 (ro : Int), .bool ((ok : Int) == 1), .slice none 0 0, .slice none 0 0] 26 (0, 0))) := hide (by simpa using q3)
  have F10 := hide (((unhide F9).grown g10 (unhide F9).size (fun j e => by have := Option.some.inj e; omega)).grown gs (Nat.le_trans (unhide F9).size g10.size) (fun j e => by have := Option.some.inj e; omega))
  have S10 := hide (sc10.far gs (by omega) (fun b off h0 e => by have := unhide HBlt b off h0 e; omega))
  have Z10 := hide (Nat.le_trans (Nat.le_trans (unhide Z9) g10.size) gs.size)
  clear q1 q2 q3 gs g10 sc10 Q9 E9 F9 S9 Z9
  go_wp2_with fail
  generalize V10.setCell ⟨w.heap.size + 2, 8, none⟩ (.int .i64 (ro : Int)) = W10 at *
  clear cf ff
  refine (num_calls (w.heap.size + 1) a c l 0 k10 x10 _ (unhide S10) (unhide HL)).mono ?_
  rw [unhide N11]
  rintro e W11 ⟨rfl, sc11, g11⟩
  have Q11 := hide (grown_block g11 (unhide Q10) (by omega))
  have E11 := hide (grown_block g11 (unhide E10) (by omega))
  have F11 := hide ((unhide F10).grown g11 (unhide F10).size (fun j e => by have := Option.some.inj e; omega))
  have S11 := hide sc11
  have Z11 := hide (Nat.le_trans (unhide Z10) g11.size)
  obtain ⟨_, _, ce, _, _⟩ := sc11.cells
  clear g11 sc11 Q10 E10 F10 S10 Z10 N1 N2 N3 N4 N5 N6 N7 N8 N9 N10 N11
  rcases unhide HP with ⟨hx, hn, he⟩ | ⟨hx, ht, he⟩
  · subst hn
    have HX := hide hx
    have hx0 : ((x11 : Int) == 0) = false := by simp; omega
    have hx1 : ¬ (x11 : Int) = 0 := by omega
    have HE := hide (show wholeE l (msgE l 0) = .error x11 by rw [he]; rfl)
    clear he hx HP
    go_wp2_with fail
    go_loopw [7] (fun i wr => i = .int .i64 0 ∧ wr = W11) (fun _ _ => 0)
    case atStart => exact ⟨rfl, rfl⟩
    case round =>
      obtain ⟨rfl, rfl⟩ := hrel
      go_wp2_with fail
      refine (row_bad (w.heap.size + 1) a c l 32768 k11 x11 _ (unhide S11) (unhide HL) (unhide HX)).mono ?_
      rintro e V20 ⟨rfl, sc20, g20⟩
      have q1 := grown_block g20 (unhide Q11) (by omega)
      have q2 := grown_block g20 (unhide E11) (by omega)
      have cf := box_cell q2 11 _ rfl
      have ff := box_free q2 11
      have gs := grown_set V20 (w.heap.size + 2) 11 (.slice none 0 0)
      have Q20 := hide (grown_block gs q1 (by omega))
      have F20 := hide (((unhide F11).grown g20 (unhide F11).size (fun j e => by have := Option.some.inj e; omega)).grown gs (Nat.le_trans (unhide F11).size g20.size) (fun j e => by have := Option.some.inj e; omega))
      have S20 := hide (sc20.far gs (by omega) (fun b off h0 e => by have := unhide HBlt b off h0 e; omega))
      clear q1 q2 gs g20 sc20
      go_wp2_with fail
      generalize V20.setCell ⟨w.heap.size + 2, 11, none⟩ (.slice none 0 0) = W20 at *
      clear cf ff
      refine (scanEnd_calls (w.heap.size + 1) a c l k11 x11 _ (unhide S20)).mono ?_
      rw [endS_bad (unhide HX)]
      rintro e V21 ⟨rfl, sc21, g21⟩
      have Q21 := hide (grown_block g21 (unhide Q20) (by omega))
      have F21 := hide ((unhide F20).grown g21 (unhide F20).size (fun j e => by have := Option.some.inj e; omega))
      obtain ⟨_, _, c4, _, _⟩ := sc21.cells
      obtain ⟨p0, p1, p2, p3, p4, p5, p6, p7, p8, p9, p10, p11⟩ := twelve_cells (unhide Q21)
      have fz := box_free (unhide Q21)
      clear sc21 g21
      go_wp2_with fail
      go_region_held3 (fun w' => w'.cell? ⟨w.heap.size + 1, 2, none⟩ = some (.int .i64 (x11 : Int))) (go_keep) (fail)
      go_wp2_with fail
      obtain ⟨q6, s7⟩ := twelve_laid (x0 := .int .i64 0) (x1 := .int .i64 0) (x2 := .int .i64 0) (x3 := .int .i64 0) (x4 := .int .i64 0) (x5 := .int .i64 0) (x6 := .int .i64 0) (x7 := .int .i64 0) (x8 := .int .i64 0) (x9 := .bool false) (x10 := .slice none 0 0) (x11 := .slice none 0 0) (unhide Q21)
      obtain ⟨z0, z1, z2, z3, z4, z5, z6, z7, z8, z9, z10, z11⟩ := twelve_cells q6
      generalize hW6 : ((((((((((((V21.setCell ⟨w.heap.size, 0, none⟩ (.int .i64 0)).setCell ⟨w.heap.size, 1, none⟩ (.int .i64 0)).setCell ⟨w.heap.size, 2, none⟩ (.int .i64 0)).setCell ⟨w.heap.size, 3, none⟩ (.int .i64 0)).setCell ⟨w.heap.size, 4, none⟩ (.int .i64 0)).setCell ⟨w.heap.size, 5, none⟩ (.int .i64 0)).setCell ⟨w.heap.size, 6, none⟩ (.int .i64 0)).setCell ⟨w.heap.size, 7, none⟩ (.int .i64 0)).setCell ⟨w.heap.size, 8, none⟩ (.int .i64 0)).setCell ⟨w.heap.size, 9, none⟩ (.bool false)).setCell ⟨w.heap.size, 10, none⟩ (.slice none 0 0)).setCell ⟨w.heap.size, 11, none⟩ (.slice none 0 0)) = W6 at *
      have y0 : W6.drew.cell? ⟨w.heap.size, 0, none⟩ = _ := z0
      have y1 : W6.drew.cell? ⟨w.heap.size, 1, none⟩ = _ := z1
      have y2 : W6.drew.cell? ⟨w.heap.size, 2, none⟩ = _ := z2
      have y3 : W6.drew.cell? ⟨w.heap.size, 3, none⟩ = _ := z3
      have y4 : W6.drew.cell? ⟨w.heap.size, 4, none⟩ = _ := z4
      have y5 : W6.drew.cell? ⟨w.heap.size, 5, none⟩ = _ := z5
      have y6 : W6.drew.cell? ⟨w.heap.size, 6, none⟩ = _ := z6
      have y7 : W6.drew.cell? ⟨w.heap.size, 7, none⟩ = _ := z7
      have y8 : W6.drew.cell? ⟨w.heap.size, 8, none⟩ = _ := z8
      have y9 : W6.drew.cell? ⟨w.heap.size, 9, none⟩ = _ := z9
      have y10 : W6.drew.cell? ⟨w.heap.size, 10, none⟩ = _ := z10
      have y11 : W6.drew.cell? ⟨w.heap.size, 11, none⟩ = _ := z11
      refine bodyPost_ret (v := .tuple #[.agg #[.int .i64 0, .int .i64 0, .int .i64 0, .int .i64 0, .int .i64 0, .int .i64 0, .int .i64 0, .int .i64 0, .int .i64 0, .bool false, .slice none 0 0, .slice none 0 0], .int .i64 (x11 : Int)]) (by simp [results, Try.results15, go_sem, y0, y1, y2, y3, y4, y5, y6, y7, y8, y9, y10, y11]) rfl ?_
      refine ⟨⟨_, rfl, ?_⟩, ((unhide F21).grown s7 (unhide F21).size (fun j e => Nat.le_of_eq (Option.some.inj e))).drew⟩
      rw [unhide HE]
      exact rfl
  · subst hx
    by_cases h8 : 8 < n
    · have HX := hide (show (6 : Nat) ≠ 0 by decide)
      have HE := hide (show wholeE l (msgE l 0) = .error 6 by rw [he, bindE_err (show upE l 8 k10 = .error 6 by rw [upE, bindE_ok ht, if_pos h8])]; rfl)
      clear he ht HP
      go_wp2_with fail
      refine (fail_calls (w.heap.size + 1) a c l k11 6 _ (unhide S11)).mono ?_
      rintro e W12 ⟨rfl, sc12, g12⟩
      have Q12 := hide (grown_block g12 (unhide Q11) (by omega))
      have E12 := hide (grown_block g12 (unhide E11) (by omega))
      have F12 := hide ((unhide F11).grown g12 (unhide F11).size (fun j e => by have := Option.some.inj e; omega))
      have S12 := hide sc12
      obtain ⟨_, _, ce', _, _⟩ := sc12.cells
      clear sc12 g12 ce Q11 E11 F11 S11
      go_wp2_with fail
      go_loopw [7] (fun i wr => i = .int .i64 0 ∧ wr = W12) (fun _ _ => 0)
      case atStart => exact ⟨rfl, rfl⟩
      case round =>
        obtain ⟨rfl, rfl⟩ := hrel
        have hn0 : (0 : Int) < (n : Int) := by omega
        go_wp2_with fail
        refine (row_bad (w.heap.size + 1) a c l 32768 k11 6 _ (unhide S12) (unhide HL) (unhide HX)).mono ?_
        rintro e V22 ⟨rfl, sc22, g22⟩
        have q1 := grown_block g22 (unhide Q12) (by omega)
        have q2 := grown_block g22 (unhide E12) (by omega)
        have cf := box_cell q2 11 _ rfl
        have ff := box_free q2 11
        have gs := grown_set V22 (w.heap.size + 2) 11 (.slice none 0 0)
        have Q22 := hide (grown_block gs q1 (by omega))
        have F22 := hide (((unhide F12).grown g22 (unhide F12).size (fun j e => by have := Option.some.inj e; omega)).grown gs (Nat.le_trans (unhide F12).size g22.size) (fun j e => by have := Option.some.inj e; omega))
        have S22 := hide (sc22.far gs (by omega) (fun b off h0 e => by have := unhide HBlt b off h0 e; omega))
        clear q1 q2 gs g22 sc22
        go_wp2_with fail
        generalize V22.setCell ⟨w.heap.size + 2, 11, none⟩ (.slice none 0 0) = W22 at *
        clear cf ff
        refine (scanEnd_calls (w.heap.size + 1) a c l k11 6 _ (unhide S22)).mono ?_
        rw [endS_bad (unhide HX)]
        rintro e V23 ⟨rfl, sc23, g23⟩
        have Q23 := hide (grown_block g23 (unhide Q22) (by omega))
        have F23 := hide ((unhide F22).grown g23 (unhide F22).size (fun j e => by have := Option.some.inj e; omega))
        obtain ⟨_, _, c4, _, _⟩ := sc23.cells
        obtain ⟨p0, p1, p2, p3, p4, p5, p6, p7, p8, p9, p10, p11⟩ := twelve_cells (unhide Q23)
        have fz := box_free (unhide Q23)
        clear sc23 g23
        go_wp2_with fail
        go_region_held3 (fun w' => w'.cell? ⟨w.heap.size + 1, 2, none⟩ = some (.int .i64 6)) (go_keep) (fail)
        go_wp2_with fail
        obtain ⟨q6, s7⟩ := twelve_laid (x0 := .int .i64 0) (x1 := .int .i64 0) (x2 := .int .i64 0) (x3 := .int .i64 0) (x4 := .int .i64 0) (x5 := .int .i64 0) (x6 := .int .i64 0) (x7 := .int .i64 0) (x8 := .int .i64 0) (x9 := .bool false) (x10 := .slice none 0 0) (x11 := .slice none 0 0) (unhide Q23)
        obtain ⟨z0, z1, z2, z3, z4, z5, z6, z7, z8, z9, z10, z11⟩ := twelve_cells q6
        generalize hW6 : ((((((((((((V23.setCell ⟨w.heap.size, 0, none⟩ (.int .i64 0)).setCell ⟨w.heap.size, 1, none⟩ (.int .i64 0)).setCell ⟨w.heap.size, 2, none⟩ (.int .i64 0)).setCell ⟨w.heap.size, 3, none⟩ (.int .i64 0)).setCell ⟨w.heap.size, 4, none⟩ (.int .i64 0)).setCell ⟨w.heap.size, 5, none⟩ (.int .i64 0)).setCell ⟨w.heap.size, 6, none⟩ (.int .i64 0)).setCell ⟨w.heap.size, 7, none⟩ (.int .i64 0)).setCell ⟨w.heap.size, 8, none⟩ (.int .i64 0)).setCell ⟨w.heap.size, 9, none⟩ (.bool false)).setCell ⟨w.heap.size, 10, none⟩ (.slice none 0 0)).setCell ⟨w.heap.size, 11, none⟩ (.slice none 0 0)) = W6 at *
        have y0 : W6.drew.cell? ⟨w.heap.size, 0, none⟩ = _ := z0
        have y1 : W6.drew.cell? ⟨w.heap.size, 1, none⟩ = _ := z1
        have y2 : W6.drew.cell? ⟨w.heap.size, 2, none⟩ = _ := z2
        have y3 : W6.drew.cell? ⟨w.heap.size, 3, none⟩ = _ := z3
        have y4 : W6.drew.cell? ⟨w.heap.size, 4, none⟩ = _ := z4
        have y5 : W6.drew.cell? ⟨w.heap.size, 5, none⟩ = _ := z5
        have y6 : W6.drew.cell? ⟨w.heap.size, 6, none⟩ = _ := z6
        have y7 : W6.drew.cell? ⟨w.heap.size, 7, none⟩ = _ := z7
        have y8 : W6.drew.cell? ⟨w.heap.size, 8, none⟩ = _ := z8
        have y9 : W6.drew.cell? ⟨w.heap.size, 9, none⟩ = _ := z9
        have y10 : W6.drew.cell? ⟨w.heap.size, 10, none⟩ = _ := z10
        have y11 : W6.drew.cell? ⟨w.heap.size, 11, none⟩ = _ := z11
        refine bodyPost_ret (v := .tuple #[.agg #[.int .i64 0, .int .i64 0, .int .i64 0, .int .i64 0, .int .i64 0, .int .i64 0, .int .i64 0, .int .i64 0, .int .i64 0, .bool false, .slice none 0 0, .slice none 0 0], .int .i64 6]) (by simp [results, Try.results15, go_sem, y0, y1, y2, y3, y4, y5, y6, y7, y8, y9, y10, y11]) rfl ?_
        refine ⟨⟨_, rfl, ?_⟩, ((unhide F23).grown s7 (unhide F23).size (fun j e => Nat.le_of_eq (Option.some.inj e))).drew⟩
        rw [unhide HE]
        exact rfl
    · have HE0 := hide (show msgE l 0 = bindE (entsE l n k11) fun es k => bindE (rowE l 32768 k) fun d k => .ok (⟨kd, fr, to, ok, t, ix, lt, cm, hi, ro, es, d⟩, k) by rw [he, bindE_ok (show upE l 8 k10 = .ok (n, k11) by rw [upE, bindE_ok ht, if_neg h8])]; congr 1; funext es k; exact row_up l 32768 k _)
      clear he ht HP
      go_wp2_with fail
      go_loopw [7] (fun i wr => ∃ (j : Nat) (sp : Option Addr) (en cc : Nat), i = .int .i64 (j : Int) ∧ j ≤ n ∧ Hid (wr.heap[w.heap.size]? = some (.cells #[.int .i64 0, .int .i64 0, .int .i64 0, .int .i64 0, .int .i64 0, .int .i64 0, .int .i64 0, .int .i64 0, .int .i64 0, .bool false, .slice none 0 0, .slice none 0 0] 26)) ∧ Hid (wr.heap[w.heap.size + 2]? = some (.cells #[.int .i64 (kd : Int), .int .i64 (fr : Int), .int .i64 (to : Int), .int .i64 (t : Int), .int .i64 (ix : Int), .int .i64 (lt : Int), .int .i64 (cm : Int), .int .i64 (hi : Int), .int .i64 (ro : Int), .bool ((ok : Int) == 1), .slice sp en cc, .slice none 0 0] 26 (0, 0))) ∧ Hid (Below w.heap.size w wr) ∧ Hid (w.heap.size + 3 ≤ wr.heap.size) ∧ Hid ((∃ (es : List EntN) (k' : Nat), es.length = j ∧ en = j ∧ entsE l j k11 = .ok (es, k') ∧ ScAt (w.heap.size + 1) wr a c l k' 0 ∧ OwnEs (w.heap.size + 3) wr sp cc es) ∨ (∃ (y k' : Nat), y ≠ 0 ∧ entsE l n k11 = .error y ∧ ScAt (w.heap.size + 1) wr a c l k' y))) (fun i _ => n - (intOf i).toNat)
      case atStart => exact ⟨0, none, 0, 0, rfl, by omega, unhide Q11, unhide E11, unhide F11, unhide Z11, .inl ⟨[], k11, rfl, rfl, rfl, unhide S11, OwnEs.ofNil _ _⟩⟩
      case round =>
        obtain ⟨j, sp, en, cc, rfl, hj, Q, E, F, Z, hst⟩ := hrel
        clear Q11 E11 F11 Z11 S11 ce
        rcases unhide hst with ⟨es, k', hes, rfl, hents, hs, ho⟩ | ⟨y, k', hy, hents, hs⟩
        · have HS := hide hs
          have HO := hide ho
          have HEnt := hide hents
          obtain ⟨_, _, ce, _, _⟩ := hs.cells
          clear hst hs ho hents
          by_cases hjn : en < n
          · have c10 := box_cell (unhide E) 10 _ rfl
            have f10 := box_free (unhide E) 10
            have hjn' : (en : Int) < (n : Int) := by omega
            cases hte : entryE l k' with
            | error y =>
              have hy := entryE_pos hte
              have HErr := hide (entsE_err (unhide HEnt) hte hjn)
              go_wp2_with fail
              go_region_law (first
                | (refine step_appendX rfl (.tmp 69) (.tmp 72) rfl (w.heap.size + 3) sp en cc es rfl hes (by exact unhide Oa) V.heap.size ekd et ei dp dm dc rfl (by exact unhide Xa) (by omega) (by exact unhide Za) ?_; intro sp4 c4 W4 hg4; have hne := (unhide Oa).blk_ge; have E4 := hide ((hg4.block (w.heap.size + 2) (Array.getElem?_eq_some_iff.1 (unhide Ea)).1 (fun e => by have := hne _ e.symm; omega)).trans (unhide Ea)); have Q4 := hide ((hg4.block w.heap.size (Array.getElem?_eq_some_iff.1 (unhide Qa)).1 (fun e => by have := hne _ e.symm; omega)).trans (unhide Qa)); have d10 := box_cell (unhide E4) 10 _ rfl; have f10' := box_free (unhide E4) 10; have G4 := hide hg4; have N4 := hide hne; clear hg4 hne)
                | (go_simp; go_at_call 37; refine (scanEntry_calls (w.heap.size + 1) a c l k' _ (unhide HS).drew (unhide HL) (unhide HC) (unhide HZ)).mono ?_; rintro e1 V ⟨hmv, hgv⟩; rw [hte] at hmv; obtain ⟨⟨ekd, et, ei, dp, dm, dc, rfl⟩, k2, hsv⟩ := hmv; have Ev := hide (grown_block hgv (show wr.drew.heap[w.heap.size + 2]? = _ from unhide E) (by omega)); have Qv := hide (grown_block hgv (show wr.drew.heap[w.heap.size]? = _ from unhide Q) (by omega)); have cv := box_cell (unhide Ev) 10 _ rfl; have bV := hide (show Below V.heap.size V (V.alloc (.cells #[.int .i64 ekd, .int .i64 et, .int .i64 ei, .slice dp dm dc] 39)) from (Below.refl _ _).alloc (Nat.le_refl _) _); have Ea := hide (heap_old (.cells #[.int .i64 ekd, .int .i64 et, .int .i64 ei, .slice dp dm dc] 39) (unhide Ev)); have Qa := hide (heap_old (.cells #[.int .i64 ekd, .int .i64 et, .int .i64 ei, .slice dp dm dc] 39) (unhide Qv)); have ca := box_cell (unhide Ea) 10 _ rfl; have Xa := hide (heap_new V (.cells #[.int .i64 ekd, .int .i64 et, .int .i64 ei, .slice dp dm dc] 39)); have Oa := hide (((unhide HO).drew.far hgv (by omega)).later (unhide bV)); have Sa := hide (hsv.later (unhide bV)); have Za := hide (show w.heap.size + 3 ≤ (V.alloc (.cells #[.int .i64 ekd, .int .i64 et, .int .i64 ei, .slice dp dm dc] 39)).heap.size from Nat.le_trans (unhide Z) (Nat.le_trans hgv.size (unhide bV).size)); have Fa := hide (((unhide F).grown (show wr.grownBy V (some (w.heap.size + 1)) from ⟨hgv.os, hgv.tape, hgv.output, hgv.size, hgv.block⟩) (unhide F).size (fun j e => by have := Option.some.inj e; omega)).trans ((unhide bV).mono (Nat.le_trans (unhide F).size hgv.size))); clear hsv hgv))
              all_goals (have q5 := heap_setCell_same W4 (w.heap.size + 2) 10 _ 26 (.slice sp4 (en + 1) c4) (unhide E4); have gs := grown_set W4 (w.heap.size + 2) 10 (.slice sp4 (en + 1) c4); have E5 : Hid ((W4.setCell ⟨w.heap.size + 2, 10, none⟩ (.slice sp4 (en + 1) c4)).heap[w.heap.size + 2]? = some (.cells #[.int .i64 (kd : Int), .int .i64 (fr : Int), .int .i64 (to : Int), .int .i64 (t : Int), .int .i64 (ix : Int), .int .i64 (lt : Int), .int .i64 (cm : Int), .int .i64 (hi : Int), .int .i64 (ro : Int), .bool ((ok : Int) == 1), .slice sp4 (en + 1) c4, .slice none 0 0] 26 (0, 0))) := hide (by simpa using q5); have Q5 := hide (grown_block gs (unhide Q4) (by omega)); have F5 := hide ((below_newO (unhide Fa) (unhide G4) (fun g hg => by have := unhide N4 g hg; omega)).grown gs (Nat.le_trans (unhide Fa).size (unhide G4).size) (fun j e => by have := Option.some.inj e; omega)); have S5 := hide (((unhide Sa).farO (unhide G4) (fun e => by have := unhide N4 _ e; omega) (fun b off h0 e e' => by have := unhide N4 _ e'; have := unhide HBlt b off h0 e; omega)).far gs (by omega) (fun b off h0 e => by have := unhide HBlt b off h0 e; omega)); have Z5 := hide (Nat.le_trans (Nat.le_trans (unhide Za) (unhide G4).size) gs.size); clear q5 gs d10 f10' cv ca c10 f10 ce; go_wp2; exact ⟨⟨en + 1, sp4, en + 1, c4, by go_num, by omega, unhide Q5, unhide E5, unhide F5, unhide Z5, .inr ⟨y, k2, hy, unhide HErr, unhide S5⟩⟩, by simp [intOf]; omega⟩)
            | ok p =>
              obtain ⟨e, k2⟩ := p
              have HMore := hide (entsE_more (unhide HEnt) hte)
              go_wp2_with fail
              go_region_law (first
                | (refine step_appendE rfl (.tmp 69) (.tmp 72) rfl (w.heap.size + 3) sp en cc es rfl hes (by exact unhide Oa) V.heap.size e (dp, dc) rfl (by exact unhide Xa) (by exact unhide Da) (by omega) (by exact unhide Za) ?_; intro sp4 c4 W4 hO4 hg4; have hne := (unhide Oa).blk_ge; have E4 := hide ((hg4.block (w.heap.size + 2) (Array.getElem?_eq_some_iff.1 (unhide Ea)).1 (fun e => by have := hne _ e.symm; omega)).trans (unhide Ea)); have Q4 := hide ((hg4.block w.heap.size (Array.getElem?_eq_some_iff.1 (unhide Qa)).1 (fun e => by have := hne _ e.symm; omega)).trans (unhide Qa)); have d10 := box_cell (unhide E4) 10 _ rfl; have f10' := box_free (unhide E4) 10; have G4 := hide hg4; have N4 := hide hne; have O4 := hide hO4; clear hO4 hg4 hne)
                | (go_simp; go_at_call 37; refine (scanEntry_calls (w.heap.size + 1) a c l k' _ (unhide HS).drew (unhide HL) (unhide HC) (unhide HZ)).mono ?_; rintro e1 V ⟨hmv, hgv⟩; rw [hte] at hmv; obtain ⟨⟨dp, dm, dc, rfl, hdl, hdo⟩, hsv⟩ := hmv; have hdm := unhide hdl; subst hdm; have Ev := hide (grown_block hgv (show wr.drew.heap[w.heap.size + 2]? = _ from unhide E) (by omega)); have Qv := hide (grown_block hgv (show wr.drew.heap[w.heap.size]? = _ from unhide Q) (by omega)); have cv := box_cell (unhide Ev) 10 _ rfl; have bV := hide (show Below V.heap.size V (V.alloc (.cells #[.int .i64 (e.1 : Int), .int .i64 (e.2.1 : Int), .int .i64 (e.2.2.1 : Int), .slice dp e.2.2.2.length dc] 39)) from (Below.refl _ _).alloc (Nat.le_refl _) _); have Ea := hide (heap_old (.cells #[.int .i64 (e.1 : Int), .int .i64 (e.2.1 : Int), .int .i64 (e.2.2.1 : Int), .slice dp e.2.2.2.length dc] 39) (unhide Ev)); have Qa := hide (heap_old (.cells #[.int .i64 (e.1 : Int), .int .i64 (e.2.1 : Int), .int .i64 (e.2.2.1 : Int), .slice dp e.2.2.2.length dc] 39) (unhide Qv)); have ca := box_cell (unhide Ea) 10 _ rfl; have Xa := hide (heap_new V (.cells #[.int .i64 (e.1 : Int), .int .i64 (e.2.1 : Int), .int .i64 (e.2.2.1 : Int), .slice dp e.2.2.2.length dc] 39)); have Oa := hide (((unhide HO).drew.far hgv (by omega)).later (unhide bV)); have Sa := hide (hsv.later (unhide bV)); have Za := hide (show w.heap.size + 3 ≤ (V.alloc (.cells #[.int .i64 (e.1 : Int), .int .i64 (e.2.1 : Int), .int .i64 (e.2.2.1 : Int), .slice dp e.2.2.2.length dc] 39)).heap.size from Nat.le_trans (unhide Z) (Nat.le_trans hgv.size (unhide bV).size)); have Fa := hide (((unhide F).grown (show wr.grownBy V (some (w.heap.size + 1)) from ⟨hgv.os, hgv.tape, hgv.output, hgv.size, hgv.block⟩) (unhide F).size (fun j e => by have := Option.some.inj e; omega)).trans ((unhide bV).mono (Nat.le_trans (unhide F).size hgv.size))); have Da := hide ((hdo.mono (unhide Z)).later (unhide bV)); clear hdo hsv hgv hdl))
              all_goals (have q5 := heap_setCell_same W4 (w.heap.size + 2) 10 _ 26 (.slice sp4 (en + 1) c4) (unhide E4); have gs := grown_set W4 (w.heap.size + 2) 10 (.slice sp4 (en + 1) c4); have E5 : Hid ((W4.setCell ⟨w.heap.size + 2, 10, none⟩ (.slice sp4 (en + 1) c4)).heap[w.heap.size + 2]? = some (.cells #[.int .i64 (kd : Int), .int .i64 (fr : Int), .int .i64 (to : Int), .int .i64 (t : Int), .int .i64 (ix : Int), .int .i64 (lt : Int), .int .i64 (cm : Int), .int .i64 (hi : Int), .int .i64 (ro : Int), .bool ((ok : Int) == 1), .slice sp4 (en + 1) c4, .slice none 0 0] 26 (0, 0))) := hide (by simpa using q5); have Q5 := hide (grown_block gs (unhide Q4) (by omega)); have F5 := hide ((below_newO (unhide Fa) (unhide G4) (fun g hg => by have := unhide N4 g hg; omega)).grown gs (Nat.le_trans (unhide Fa).size (unhide G4).size) (fun j e => by have := Option.some.inj e; omega)); have S5 := hide (((unhide Sa).farO (unhide G4) (fun e => by have := unhide N4 _ e; omega) (fun b off h0 e e' => by have := unhide N4 _ e'; have := unhide HBlt b off h0 e; omega)).far gs (by omega) (fun b off h0 e => by have := unhide HBlt b off h0 e; omega)); have Z5 := hide (Nat.le_trans (Nat.le_trans (unhide Za) (unhide G4).size) gs.size); have O5 := hide ((unhide O4).far gs (by omega)); have L5 := hide (show (es ++ [e]).length = en + 1 by rw [List.length_append, hes]; rfl); clear q5 gs d10 f10' cv ca c10 f10 ce; go_wp2; exact ⟨⟨en + 1, sp4, en + 1, c4, by go_num, by omega, unhide Q5, unhide E5, unhide F5, unhide Z5, .inl ⟨es ++ [e], k2, unhide L5, rfl, unhide HMore, unhide S5, unhide O5⟩⟩, by simp [intOf]; omega⟩)
          · obtain rfl : en = n := by omega
            have HR := hide ((unhide HE0).trans (bindE_ok (unhide HEnt)))
            clear hjn hj HE0
            go_wp2_with fail
            refine (row_calls (w.heap.size + 1) a c l 32768 k' _ (unhide HS) (unhide HL) (unhide HC) (unhide HZ)).mono ?_
            rintro e V13 ⟨hrow, g13⟩
            cases hr : rowE l 32768 k' with
            | error y =>
              rw [hr] at hrow
              obtain ⟨rfl, k5, sc13⟩ := hrow
              have HX := hide (rowE_pos hr)
              have hy0 : ¬ (y : Int) = 0 := by have := unhide HX; omega
              have HE := hide (show wholeE l (msgE l 0) = .error y by rw [unhide HR, bindE_err hr]; rfl)
              clear ce
              have Q := Q
              have E := E
              have q1 := grown_block g13 (unhide Q) (by omega)
              have q2 := grown_block g13 (unhide E) (by omega)
              have cf := box_cell q2 11 _ rfl
              have ff := box_free q2 11
              have gs := grown_set V13 (w.heap.size + 2) 11 (.slice none 0 0)
              have Q13 := hide (grown_block gs q1 (by omega))
              have F13 := hide (((unhide F).grown g13 (unhide F).size (fun j e => by have := Option.some.inj e; omega)).grown gs (Nat.le_trans (unhide F).size g13.size) (fun j e => by have := Option.some.inj e; omega))
              have S13 := hide (sc13.far gs (by omega) (fun b off h0 e => by have := unhide HBlt b off h0 e; omega))
              clear q1 q2 gs g13 sc13
              go_wp2_with fail
              generalize V13.setCell ⟨w.heap.size + 2, 11, none⟩ (.slice none 0 0) = W13 at *
              clear cf ff
              refine (scanEnd_calls (w.heap.size + 1) a c l k5 y _ (unhide S13)).mono ?_
              rw [endS_bad (unhide HX)]
              rintro e V24 ⟨rfl, sc24, g24⟩
              have Q24 := hide (grown_block g24 (unhide Q13) (by omega))
              have F24 := hide ((unhide F13).grown g24 (unhide F13).size (fun j e => by have := Option.some.inj e; omega))
              obtain ⟨_, _, c4, _, _⟩ := sc24.cells
              obtain ⟨p0, p1, p2, p3, p4, p5, p6, p7, p8, p9, p10, p11⟩ := twelve_cells (unhide Q24)
              have fz := box_free (unhide Q24)
              clear sc24 g24
              go_wp2_with fail
              go_region_held3 (fun w' => w'.cell? ⟨w.heap.size + 1, 2, none⟩ = some (.int .i64 (y : Int))) (go_keep) (fail)
              go_wp2_with fail
              obtain ⟨q6, s7⟩ := twelve_laid (x0 := .int .i64 0) (x1 := .int .i64 0) (x2 := .int .i64 0) (x3 := .int .i64 0) (x4 := .int .i64 0) (x5 := .int .i64 0) (x6 := .int .i64 0) (x7 := .int .i64 0) (x8 := .int .i64 0) (x9 := .bool false) (x10 := .slice none 0 0) (x11 := .slice none 0 0) (unhide Q24)
              obtain ⟨z0, z1, z2, z3, z4, z5, z6, z7, z8, z9, z10, z11⟩ := twelve_cells q6
              generalize hW6 : ((((((((((((V24.setCell ⟨w.heap.size, 0, none⟩ (.int .i64 0)).setCell ⟨w.heap.size, 1, none⟩ (.int .i64 0)).setCell ⟨w.heap.size, 2, none⟩ (.int .i64 0)).setCell ⟨w.heap.size, 3, none⟩ (.int .i64 0)).setCell ⟨w.heap.size, 4, none⟩ (.int .i64 0)).setCell ⟨w.heap.size, 5, none⟩ (.int .i64 0)).setCell ⟨w.heap.size, 6, none⟩ (.int .i64 0)).setCell ⟨w.heap.size, 7, none⟩ (.int .i64 0)).setCell ⟨w.heap.size, 8, none⟩ (.int .i64 0)).setCell ⟨w.heap.size, 9, none⟩ (.bool false)).setCell ⟨w.heap.size, 10, none⟩ (.slice none 0 0)).setCell ⟨w.heap.size, 11, none⟩ (.slice none 0 0)) = W6 at *
              have y0 : W6.drew.cell? ⟨w.heap.size, 0, none⟩ = _ := z0
              have y1 : W6.drew.cell? ⟨w.heap.size, 1, none⟩ = _ := z1
              have y2 : W6.drew.cell? ⟨w.heap.size, 2, none⟩ = _ := z2
              have y3 : W6.drew.cell? ⟨w.heap.size, 3, none⟩ = _ := z3
              have y4 : W6.drew.cell? ⟨w.heap.size, 4, none⟩ = _ := z4
              have y5 : W6.drew.cell? ⟨w.heap.size, 5, none⟩ = _ := z5
              have y6 : W6.drew.cell? ⟨w.heap.size, 6, none⟩ = _ := z6
              have y7 : W6.drew.cell? ⟨w.heap.size, 7, none⟩ = _ := z7
              have y8 : W6.drew.cell? ⟨w.heap.size, 8, none⟩ = _ := z8
              have y9 : W6.drew.cell? ⟨w.heap.size, 9, none⟩ = _ := z9
              have y10 : W6.drew.cell? ⟨w.heap.size, 10, none⟩ = _ := z10
              have y11 : W6.drew.cell? ⟨w.heap.size, 11, none⟩ = _ := z11
              refine bodyPost_ret (v := .tuple #[.agg #[.int .i64 0, .int .i64 0, .int .i64 0, .int .i64 0, .int .i64 0, .int .i64 0, .int .i64 0, .int .i64 0, .int .i64 0, .bool false, .slice none 0 0, .slice none 0 0], .int .i64 (y : Int)]) (by simp [results, Try.results15, go_sem, y0, y1, y2, y3, y4, y5, y6, y7, y8, y9, y10, y11]) rfl ?_
              refine ⟨⟨_, rfl, ?_⟩, ((unhide F24).grown s7 (unhide F24).size (fun j e => Nat.le_of_eq (Option.some.inj e))).drew⟩
              rw [unhide HE]
              exact rfl
            | ok p =>
              obtain ⟨d, k5⟩ := p
              rw [hr] at hrow
              obtain ⟨⟨dp, dm, dc, rfl, hdl, hdo⟩, sc13⟩ := hrow
              clear ce
              have q1 := grown_block g13 (unhide Q) (by omega)
              have q2 := grown_block g13 (unhide E) (by omega)
              have cf := box_cell q2 11 _ rfl
              have ff := box_free q2 11
              have gs := grown_set V13 (w.heap.size + 2) 11 (.slice dp dm dc)
              have Q13 := hide (grown_block gs q1 (by omega))
              have F13 := hide (((unhide F).grown g13 (unhide F).size (fun j e => by have := Option.some.inj e; omega)).grown gs (Nat.le_trans (unhide F).size g13.size) (fun j e => by have := Option.some.inj e; omega))
              have S13 := hide (sc13.far gs (by omega) (fun b off h0 e => by have := unhide HBlt b off h0 e; omega))
              have q3 := heap_setCell_same V13 (w.heap.size + 2) 11 _ 26 (.slice dp dm dc) q2
              have E13 : Hid ((V13.setCell ⟨w.heap.size + 2, 11, none⟩ (.slice dp dm dc)).heap[w.heap.size + 2]? = some (.cells #[.int .i64 (kd : Int), .int .i64 (fr : Int), .int .i64 (to : Int), .int .i64 (t : Int), .int .i64 (ix : Int), .int .i64 (lt : Int), .int .i64 (cm : Int), .int .i64 (hi : Int), .int .i64 (ro : Int), .bool ((ok : Int) == 1), .slice sp en cc, .slice dp dm dc] 26 (0, 0))) := hide (by simpa using q3)
              have O13 := hide (((unhide HO).far g13 (by omega)).far gs (by omega))
              have D13 := hide ((hdo.far gs (by have := unhide Z; omega)).mono (unhide Z))
              clear q1 q2 q3 gs g13 sc13 hdo
              go_wp2_with fail
              generalize V13.setCell ⟨w.heap.size + 2, 11, none⟩ (.slice dp dm dc) = W13 at *
              clear cf ff
              refine (scanEnd_calls (w.heap.size + 1) a c l k5 0 _ (unhide S13)).mono ?_
              by_cases hk : k5 < l.length
              · rw [endS_more hk]
                have HE := hide (show wholeE l (msgE l 0) = .error 4 by rw [unhide HR, bindE_ok hr]; simp only [wholeE, if_pos hk])
                clear hk
                rintro e V25 ⟨rfl, sc25, g25⟩
                have Q25 := hide (grown_block g25 (unhide Q13) (by omega))
                have F25 := hide ((unhide F13).grown g25 (unhide F13).size (fun j e => by have := Option.some.inj e; omega))
                obtain ⟨_, _, c4, _, _⟩ := sc25.cells
                obtain ⟨p0, p1, p2, p3, p4, p5, p6, p7, p8, p9, p10, p11⟩ := twelve_cells (unhide Q25)
                have fz := box_free (unhide Q25)
                clear sc25 g25
                go_wp2_with fail
                go_region_held3 (fun w' => w'.cell? ⟨w.heap.size + 1, 2, none⟩ = some (.int .i64 4)) (go_keep) (fail)
                go_wp2_with fail
                obtain ⟨q6, s7⟩ := twelve_laid (x0 := .int .i64 0) (x1 := .int .i64 0) (x2 := .int .i64 0) (x3 := .int .i64 0) (x4 := .int .i64 0) (x5 := .int .i64 0) (x6 := .int .i64 0) (x7 := .int .i64 0) (x8 := .int .i64 0) (x9 := .bool false) (x10 := .slice none 0 0) (x11 := .slice none 0 0) (unhide Q25)
                obtain ⟨z0, z1, z2, z3, z4, z5, z6, z7, z8, z9, z10, z11⟩ := twelve_cells q6
                generalize hW6 : ((((((((((((V25.setCell ⟨w.heap.size, 0, none⟩ (.int .i64 0)).setCell ⟨w.heap.size, 1, none⟩ (.int .i64 0)).setCell ⟨w.heap.size, 2, none⟩ (.int .i64 0)).setCell ⟨w.heap.size, 3, none⟩ (.int .i64 0)).setCell ⟨w.heap.size, 4, none⟩ (.int .i64 0)).setCell ⟨w.heap.size, 5, none⟩ (.int .i64 0)).setCell ⟨w.heap.size, 6, none⟩ (.int .i64 0)).setCell ⟨w.heap.size, 7, none⟩ (.int .i64 0)).setCell ⟨w.heap.size, 8, none⟩ (.int .i64 0)).setCell ⟨w.heap.size, 9, none⟩ (.bool false)).setCell ⟨w.heap.size, 10, none⟩ (.slice none 0 0)).setCell ⟨w.heap.size, 11, none⟩ (.slice none 0 0)) = W6 at *
                have y0 : W6.drew.cell? ⟨w.heap.size, 0, none⟩ = _ := z0
                have y1 : W6.drew.cell? ⟨w.heap.size, 1, none⟩ = _ := z1
                have y2 : W6.drew.cell? ⟨w.heap.size, 2, none⟩ = _ := z2
                have y3 : W6.drew.cell? ⟨w.heap.size, 3, none⟩ = _ := z3
                have y4 : W6.drew.cell? ⟨w.heap.size, 4, none⟩ = _ := z4
                have y5 : W6.drew.cell? ⟨w.heap.size, 5, none⟩ = _ := z5
                have y6 : W6.drew.cell? ⟨w.heap.size, 6, none⟩ = _ := z6
                have y7 : W6.drew.cell? ⟨w.heap.size, 7, none⟩ = _ := z7
                have y8 : W6.drew.cell? ⟨w.heap.size, 8, none⟩ = _ := z8
                have y9 : W6.drew.cell? ⟨w.heap.size, 9, none⟩ = _ := z9
                have y10 : W6.drew.cell? ⟨w.heap.size, 10, none⟩ = _ := z10
                have y11 : W6.drew.cell? ⟨w.heap.size, 11, none⟩ = _ := z11
                refine bodyPost_ret (v := .tuple #[.agg #[.int .i64 0, .int .i64 0, .int .i64 0, .int .i64 0, .int .i64 0, .int .i64 0, .int .i64 0, .int .i64 0, .int .i64 0, .bool false, .slice none 0 0, .slice none 0 0], .int .i64 4]) (by simp [results, Try.results15, go_sem, y0, y1, y2, y3, y4, y5, y6, y7, y8, y9, y10, y11]) rfl ?_
                refine ⟨⟨_, rfl, ?_⟩, ((unhide F25).grown s7 (unhide F25).size (fun j e => Nat.le_of_eq (Option.some.inj e))).drew⟩
                rw [unhide HE]
                exact rfl
              · rw [endS_ok hk]
                have HE := hide (show wholeE l (msgE l 0) = .ok ⟨kd, fr, to, ok, t, ix, lt, cm, hi, ro, es, d⟩ by rw [unhide HR, bindE_ok hr]; simp only [wholeE, if_neg hk])
                clear hk
                rintro e V14 ⟨rfl, sc14, g14⟩
                have Q14 := hide (grown_block g14 (unhide Q13) (by omega))
                have E14 := hide (grown_block g14 (unhide E13) (by omega))
                have F14 := hide ((unhide F13).grown g14 (unhide F13).size (fun j e => by have := Option.some.inj e; omega))
                have O14 := hide ((unhide O13).far g14 (by omega))
                have D14 := hide ((unhide D13).far g14 (by omega))
                obtain ⟨_, _, c4, _, _⟩ := sc14.cells
                obtain ⟨p0, p1, p2, p3, p4, p5, p6, p7, p8, p9, p10, p11⟩ := twelve_cells (unhide Q14)
                have fz := box_free (unhide Q14)
                obtain ⟨g0, g1, g2, g3, g4, g5, g6, g7, g8, g9, g10, g11⟩ := twelve_cells (unhide E14)
                clear sc14 g14
                go_wp2_with fail
                obtain ⟨q6, s7⟩ := twelve_laid (x0 := .int .i64 (kd : Int)) (x1 := .int .i64 (fr : Int)) (x2 := .int .i64 (to : Int)) (x3 := .int .i64 (t : Int)) (x4 := .int .i64 (ix : Int)) (x5 := .int .i64 (lt : Int)) (x6 := .int .i64 (cm : Int)) (x7 := .int .i64 (hi : Int)) (x8 := .int .i64 (ro : Int)) (x9 := .bool ((ok : Int) == 1)) (x10 := .slice sp en cc) (x11 := .slice dp dm dc) (unhide Q14)
                obtain ⟨z0, z1, z2, z3, z4, z5, z6, z7, z8, z9, z10, z11⟩ := twelve_cells q6
                refine bodyPost_ret (v := .tuple #[.agg (msgCells ⟨kd, fr, to, ok, t, ix, lt, cm, hi, ro, es, d⟩ (.slice sp en cc) (.slice dp dm dc)), .int .i64 0]) (by simp [results, Try.results15, go_sem, z0, z1, z2, z3, z4, z5, z6, z7, z8, z9, z10, z11]) rfl ?_
                refine ⟨⟨_, rfl, ?_⟩, (unhide F14).grown s7 (unhide F14).size (fun j e => Nat.le_of_eq (Option.some.inj e))⟩
                rw [unhide HE]
                exact ⟨sp, en, cc, dp, dm, dc, rfl, hes, ((unhide O14).far s7 (by omega)).mono (by omega), hdl, ((unhide D14).far s7 (by omega)).mono (by omega)⟩
        · have HX := hide hy
          have HS := hide hs
          have HE := hide (show wholeE l (msgE l 0) = .error y by rw [unhide HE0, bindE_err hents]; rfl)
          have hy0 : ((y : Int) == 0) = false := by simp; omega
          have hy1 : ¬ (y : Int) = 0 := by omega
          obtain ⟨_, _, ce, _, _⟩ := hs.cells
          clear hst hs hents hy
          have SX := HS
          have QX := Q
          have EX := E
          have FX := F
          by_cases hjn : j < n
          · have hjn' : (j : Int) < (n : Int) := by omega
            go_wp2_with fail
            refine (row_bad (w.heap.size + 1) a c l 32768 k' y _ (unhide SX) (unhide HL) (unhide HX)).mono ?_
            rintro e V26 ⟨rfl, sc26, g26⟩
            have q1 := grown_block g26 (unhide QX) (by omega)
            have q2 := grown_block g26 (unhide EX) (by omega)
            have cf := box_cell q2 11 _ rfl
            have ff := box_free q2 11
            have gs := grown_set V26 (w.heap.size + 2) 11 (.slice none 0 0)
            have Q26 := hide (grown_block gs q1 (by omega))
            have F26 := hide (((unhide FX).grown g26 (unhide FX).size (fun j e => by have := Option.some.inj e; omega)).grown gs (Nat.le_trans (unhide FX).size g26.size) (fun j e => by have := Option.some.inj e; omega))
            have S26 := hide (sc26.far gs (by omega) (fun b off h0 e => by have := unhide HBlt b off h0 e; omega))
            clear q1 q2 gs g26 sc26
            go_wp2_with fail
            generalize V26.setCell ⟨w.heap.size + 2, 11, none⟩ (.slice none 0 0) = W26 at *
            clear cf ff
            refine (scanEnd_calls (w.heap.size + 1) a c l k' y _ (unhide S26)).mono ?_
            rw [endS_bad (unhide HX)]
            rintro e V27 ⟨rfl, sc27, g27⟩
            have Q27 := hide (grown_block g27 (unhide Q26) (by omega))
            have F27 := hide ((unhide F26).grown g27 (unhide F26).size (fun j e => by have := Option.some.inj e; omega))
            obtain ⟨_, _, c4, _, _⟩ := sc27.cells
            obtain ⟨p0, p1, p2, p3, p4, p5, p6, p7, p8, p9, p10, p11⟩ := twelve_cells (unhide Q27)
            have fz := box_free (unhide Q27)
            clear sc27 g27
            go_wp2_with fail
            go_region_held3 (fun w' => w'.cell? ⟨w.heap.size + 1, 2, none⟩ = some (.int .i64 (y : Int))) (go_keep) (fail)
            go_wp2_with fail
            obtain ⟨q6, s7⟩ := twelve_laid (x0 := .int .i64 0) (x1 := .int .i64 0) (x2 := .int .i64 0) (x3 := .int .i64 0) (x4 := .int .i64 0) (x5 := .int .i64 0) (x6 := .int .i64 0) (x7 := .int .i64 0) (x8 := .int .i64 0) (x9 := .bool false) (x10 := .slice none 0 0) (x11 := .slice none 0 0) (unhide Q27)
            obtain ⟨z0, z1, z2, z3, z4, z5, z6, z7, z8, z9, z10, z11⟩ := twelve_cells q6
            generalize hW6 : ((((((((((((V27.setCell ⟨w.heap.size, 0, none⟩ (.int .i64 0)).setCell ⟨w.heap.size, 1, none⟩ (.int .i64 0)).setCell ⟨w.heap.size, 2, none⟩ (.int .i64 0)).setCell ⟨w.heap.size, 3, none⟩ (.int .i64 0)).setCell ⟨w.heap.size, 4, none⟩ (.int .i64 0)).setCell ⟨w.heap.size, 5, none⟩ (.int .i64 0)).setCell ⟨w.heap.size, 6, none⟩ (.int .i64 0)).setCell ⟨w.heap.size, 7, none⟩ (.int .i64 0)).setCell ⟨w.heap.size, 8, none⟩ (.int .i64 0)).setCell ⟨w.heap.size, 9, none⟩ (.bool false)).setCell ⟨w.heap.size, 10, none⟩ (.slice none 0 0)).setCell ⟨w.heap.size, 11, none⟩ (.slice none 0 0)) = W6 at *
            have y0 : W6.drew.cell? ⟨w.heap.size, 0, none⟩ = _ := z0
            have y1 : W6.drew.cell? ⟨w.heap.size, 1, none⟩ = _ := z1
            have y2 : W6.drew.cell? ⟨w.heap.size, 2, none⟩ = _ := z2
            have y3 : W6.drew.cell? ⟨w.heap.size, 3, none⟩ = _ := z3
            have y4 : W6.drew.cell? ⟨w.heap.size, 4, none⟩ = _ := z4
            have y5 : W6.drew.cell? ⟨w.heap.size, 5, none⟩ = _ := z5
            have y6 : W6.drew.cell? ⟨w.heap.size, 6, none⟩ = _ := z6
            have y7 : W6.drew.cell? ⟨w.heap.size, 7, none⟩ = _ := z7
            have y8 : W6.drew.cell? ⟨w.heap.size, 8, none⟩ = _ := z8
            have y9 : W6.drew.cell? ⟨w.heap.size, 9, none⟩ = _ := z9
            have y10 : W6.drew.cell? ⟨w.heap.size, 10, none⟩ = _ := z10
            have y11 : W6.drew.cell? ⟨w.heap.size, 11, none⟩ = _ := z11
            refine bodyPost_ret (v := .tuple #[.agg #[.int .i64 0, .int .i64 0, .int .i64 0, .int .i64 0, .int .i64 0, .int .i64 0, .int .i64 0, .int .i64 0, .int .i64 0, .bool false, .slice none 0 0, .slice none 0 0], .int .i64 (y : Int)]) (by simp [results, Try.results15, go_sem, y0, y1, y2, y3, y4, y5, y6, y7, y8, y9, y10, y11]) rfl ?_
            refine ⟨⟨_, rfl, ?_⟩, ((unhide F27).grown s7 (unhide F27).size (fun j e => Nat.le_of_eq (Option.some.inj e))).drew⟩
            rw [unhide HE]
            exact rfl
          · go_wp2_with fail
            refine (row_bad (w.heap.size + 1) a c l 32768 k' y _ (unhide SX) (unhide HL) (unhide HX)).mono ?_
            rintro e V28 ⟨rfl, sc28, g28⟩
            have q1 := grown_block g28 (unhide QX) (by omega)
            have q2 := grown_block g28 (unhide EX) (by omega)
            have cf := box_cell q2 11 _ rfl
            have ff := box_free q2 11
            have gs := grown_set V28 (w.heap.size + 2) 11 (.slice none 0 0)
            have Q28 := hide (grown_block gs q1 (by omega))
            have F28 := hide (((unhide FX).grown g28 (unhide FX).size (fun j e => by have := Option.some.inj e; omega)).grown gs (Nat.le_trans (unhide FX).size g28.size) (fun j e => by have := Option.some.inj e; omega))
            have S28 := hide (sc28.far gs (by omega) (fun b off h0 e => by have := unhide HBlt b off h0 e; omega))
            clear q1 q2 gs g28 sc28
            go_wp2_with fail
            generalize V28.setCell ⟨w.heap.size + 2, 11, none⟩ (.slice none 0 0) = W28 at *
            clear cf ff
            refine (scanEnd_calls (w.heap.size + 1) a c l k' y _ (unhide S28)).mono ?_
            rw [endS_bad (unhide HX)]
            rintro e V29 ⟨rfl, sc29, g29⟩
            have Q29 := hide (grown_block g29 (unhide Q28) (by omega))
            have F29 := hide ((unhide F28).grown g29 (unhide F28).size (fun j e => by have := Option.some.inj e; omega))
            obtain ⟨_, _, c4, _, _⟩ := sc29.cells
            obtain ⟨p0, p1, p2, p3, p4, p5, p6, p7, p8, p9, p10, p11⟩ := twelve_cells (unhide Q29)
            have fz := box_free (unhide Q29)
            clear sc29 g29
            go_wp2_with fail
            go_region_held3 (fun w' => w'.cell? ⟨w.heap.size + 1, 2, none⟩ = some (.int .i64 (y : Int))) (go_keep) (fail)
            go_wp2_with fail
            obtain ⟨q6, s7⟩ := twelve_laid (x0 := .int .i64 0) (x1 := .int .i64 0) (x2 := .int .i64 0) (x3 := .int .i64 0) (x4 := .int .i64 0) (x5 := .int .i64 0) (x6 := .int .i64 0) (x7 := .int .i64 0) (x8 := .int .i64 0) (x9 := .bool false) (x10 := .slice none 0 0) (x11 := .slice none 0 0) (unhide Q29)
            obtain ⟨z0, z1, z2, z3, z4, z5, z6, z7, z8, z9, z10, z11⟩ := twelve_cells q6
            generalize hW6 : ((((((((((((V29.setCell ⟨w.heap.size, 0, none⟩ (.int .i64 0)).setCell ⟨w.heap.size, 1, none⟩ (.int .i64 0)).setCell ⟨w.heap.size, 2, none⟩ (.int .i64 0)).setCell ⟨w.heap.size, 3, none⟩ (.int .i64 0)).setCell ⟨w.heap.size, 4, none⟩ (.int .i64 0)).setCell ⟨w.heap.size, 5, none⟩ (.int .i64 0)).setCell ⟨w.heap.size, 6, none⟩ (.int .i64 0)).setCell ⟨w.heap.size, 7, none⟩ (.int .i64 0)).setCell ⟨w.heap.size, 8, none⟩ (.int .i64 0)).setCell ⟨w.heap.size, 9, none⟩ (.bool false)).setCell ⟨w.heap.size, 10, none⟩ (.slice none 0 0)).setCell ⟨w.heap.size, 11, none⟩ (.slice none 0 0)) = W6 at *
            have y0 : W6.drew.cell? ⟨w.heap.size, 0, none⟩ = _ := z0
            have y1 : W6.drew.cell? ⟨w.heap.size, 1, none⟩ = _ := z1
            have y2 : W6.drew.cell? ⟨w.heap.size, 2, none⟩ = _ := z2
            have y3 : W6.drew.cell? ⟨w.heap.size, 3, none⟩ = _ := z3
            have y4 : W6.drew.cell? ⟨w.heap.size, 4, none⟩ = _ := z4
            have y5 : W6.drew.cell? ⟨w.heap.size, 5, none⟩ = _ := z5
            have y6 : W6.drew.cell? ⟨w.heap.size, 6, none⟩ = _ := z6
            have y7 : W6.drew.cell? ⟨w.heap.size, 7, none⟩ = _ := z7
            have y8 : W6.drew.cell? ⟨w.heap.size, 8, none⟩ = _ := z8
            have y9 : W6.drew.cell? ⟨w.heap.size, 9, none⟩ = _ := z9
            have y10 : W6.drew.cell? ⟨w.heap.size, 10, none⟩ = _ := z10
            have y11 : W6.drew.cell? ⟨w.heap.size, 11, none⟩ = _ := z11
            refine bodyPost_ret (v := .tuple #[.agg #[.int .i64 0, .int .i64 0, .int .i64 0, .int .i64 0, .int .i64 0, .int .i64 0, .int .i64 0, .int .i64 0, .int .i64 0, .bool false, .slice none 0 0, .slice none 0 0], .int .i64 (y : Int)]) (by simp [results, Try.results15, go_sem, y0, y1, y2, y3, y4, y5, y6, y7, y8, y9, y10, y11]) rfl ?_
            refine ⟨⟨_, rfl, ?_⟩, ((unhide F29).grown s7 (unhide F29).size (fun j e => Nat.le_of_eq (Option.some.inj e))).drew⟩
            rw [unhide HE]
            exact rfl
end Go.Proofs.Ytcficfjgddjeeab
