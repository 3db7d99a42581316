/- Snapshots: pieces that are gathered by the document (written by wip/mksgx.py). -/
import Derived.Test.YtagncghpfdjkmaaGreatDoorB32
import Derived.Test.YtagncghpfdjkmaaGreatDoorB30
import Derived.Test.YtagncghpfdjkmaaGreatDoorB16
namespace Go.Proofs.YtagncghpfdjkmaaGreatDoor
open Go.ChangeShapes Go.WideShapes Go.ChangeAt Go.RowKit
set_option linter.unusedVariables false

/-- The document's gather: whether it has begun, of how many bytes, and those that came. -/
structure RgAt (w : World) (R t : Nat) (bs : List Nat) (sp : Option Addr) (cp : Nat) (bg : Bool) (tot : Nat) : Prop where
  row : w.heap[R]? = some (.cells #[.bool bg, .int .i64 (tot : Int), .slice sp bs.length cp] 141 (0, 0))
  own : OwnB 0 w sp cp bs
  is : bs ≠ [] → bg = true ∧ tot = t
  tl : tot ≤ 32768
  bl : bs.length ≤ 32768
section
variable {w w' : World} {R t D : Nat} {bs : List Nat} {sp : Option Addr} {cp : Nat} {bg : Bool} {tot : Nat}
theorem RgAt.ltR (h : RgAt w R t bs sp cp bg tot) : R < w.heap.size := (Array.getElem?_eq_some_iff.1 h.row).1
theorem RgAt.keep (h : RgAt w R t bs sp cp bg tot) (hG : w'.heap[R]? = w.heap[R]?) (hs : ∀ g, blk sp = some g → w'.heap[g]? = w.heap[g]?) : RgAt w' R t bs sp cp bg tot := ⟨hG.trans h.row, h.own.stays hs, h.is, h.tl, h.bl⟩
theorem RgAt.later (h : RgAt w R t bs sp cp bg tot) (u : Below w.heap.size w w') : RgAt w' R t bs sp cp bg tot := h.keep (u.block R h.ltR) (fun g e => u.block g (h.own.blkLt g e))
theorem RgAt.far (h : RgAt w R t bs sp cp bg tot) (g : w.grownBy w' (some D)) (h1 : D ≠ R) (h2 : blk sp ≠ some D) : RgAt w' R t bs sp cp bg tot :=
  h.keep (g.block R h.ltR (fun e => h1 (Option.some.inj e).symm)) (fun j e => g.block j (h.own.blkLt j e) (fun q => h2 (e.trans q)))
end
def AddR (w : World) (R : Nat) (sp : Option Addr) (r : Ga) (e : Ending) (w' : World) : Prop := ∃ h sp' cp' bg' tot', e = .returned (.tuple #[.agg (snRow r.s h), .bool r.d, .int .i64 (r.e : Int)]) ∧ SnAt w' r.s h ∧ (∀ ad, h.va = some ad ∨ h.la = some ad ∨ h.dp = some ad → w.heap.size ≤ ad.block) ∧ RgAt w' R r.t r.b sp' cp' bg' tot' ∧ GFr w w' R none ∧ (∀ g, blk sp' = some g → blk sp = some g ∨ w.heap.size ≤ g)
theorem addR_none {w W : World} {R : Nat} {sp : Option Addr} {r : Ga} {x t : Nat} {b : List Nat} {sp' : Option Addr} {cp' : Nat} {bg : Bool} {tot : Nat} (hr : r = ⟨sn0, false, x, t, b⟩) (hg : RgAt W R t b sp' cp' bg tot) (hf : GFr w W R none) (hs : ∀ g, blk sp' = some g → blk sp = some g ∨ w.heap.size ≤ g) : AddR w R sp r (.returned (.tuple #[.agg #[.int .i64 0, .int .i64 0, .slice none 0 0, .slice none 0 0, .slice none 0 0], .bool false, .int .i64 (x : Int)])) W := by
  subst hr
  exact ⟨⟨none, 0, none, 0, none, 0⟩, sp', cp', bg, tot, rfl, snAt0 W, (fun ad e => by rcases e with e | e | e <;> cases e), hg, hf, hs⟩
set_option maxRecDepth 20000 in
set_option maxHeartbeats 16000000 in
theorem raddR_calls (a : Option Addr) (n c : Nat) (p : List Nat) (w : World) (hn : p.length = n) (hc : n ≤ c) (hcx : n ≤ 140737488355328) (hz : a = none → c = 0) (hb : BytesAt w a p) (R t : Nat) (bs : List Nat) (sp : Option Addr) (cp : Nat) (bg : Bool) (tot : Nat) (hg : RgAt w R t bs sp cp bg tot) (har : ∀ ad, a = some ad → 0 < p.length → ad.block ≠ R ∧ ad.block < w.heap.size) :
    Calls Tryz.prog 46 #[.pointer (some ⟨R, 0, none⟩), .slice a n c] w (AddR w R sp (gAdd t bs p)) := by
  have A1 : Below w.heap.size w (w.alloc (.cells #[.int .i64 0, .int .i64 0, .slice none 0 0, .slice none 0 0, .slice none 0 0] 29)) := (Below.refl _ _).alloc (Nat.le_refl _) _
  have A2 : Below (w.alloc (.cells #[.int .i64 0, .int .i64 0, .slice none 0 0, .slice none 0 0, .slice none 0 0] 29)).heap.size (w.alloc (.cells #[.int .i64 0, .int .i64 0, .slice none 0 0, .slice none 0 0, .slice none 0 0] 29)) ((w.alloc (.cells #[.int .i64 0, .int .i64 0, .slice none 0 0, .slice none 0 0, .slice none 0 0] 29)).alloc (.cells #[.int .i64 0, .int .i64 0, .slice none 0 0, .slice none 0 0, .slice none 0 0] 29)) := (Below.refl _ _).alloc (Nat.le_refl _) _
  have hs1 : (w.alloc (.cells #[.int .i64 0, .int .i64 0, .slice none 0 0, .slice none 0 0, .slice none 0 0] 29)).heap.size = w.heap.size + 1 := by simp
  have X1 := hide (later_block A2 (heap_new w (.cells #[.int .i64 0, .int .i64 0, .slice none 0 0, .slice none 0 0, .slice none 0 0] 29)))
  have X2 := hide (heap_new (w.alloc (.cells #[.int .i64 0, .int .i64 0, .slice none 0 0, .slice none 0 0, .slice none 0 0] 29)) (.cells #[.int .i64 0, .int .i64 0, .slice none 0 0, .slice none 0 0, .slice none 0 0] 29))
  rw [hs1] at X2
  have B2 := hide (A1.trans (A2.mono A1.size))
  have HB := hide hb
  have HN := hide hn
  have HG := hide hg
  have HAR := hide har
  have HZ := hide hz
  have HL := hide hb.lt
  have HGL := hide hg.ltR
  have HBW := hide (hb.later (unhide B2))
  have x0 := box_cell (unhide X2) 0 _ rfl
  have x1 := box_cell (unhide X2) 1 _ rfl
  have x2 := box_cell (unhide X2) 2 _ rfl
  have x3 := box_cell (unhide X2) 3 _ rfl
  have x4 := box_cell (unhide X2) 4 _ rfl
  clear A1 A2 hs1 hb hn hg har hz
  go_enter Tryz.func46, Tryz.ntmps46
  go_wp2_with fail
  clear x0 x1 x2 x3 x4
  have SZ := hide (show ((w.alloc (.cells #[.int .i64 0, .int .i64 0, .slice none 0 0, .slice none 0 0, .slice none 0 0] 29)).alloc (.cells #[.int .i64 0, .int .i64 0, .slice none 0 0, .slice none 0 0, .slice none 0 0] 29)).heap.size = w.heap.size + 2 by simp)
  generalize (w.alloc (.cells #[.int .i64 0, .int .i64 0, .slice none 0 0, .slice none 0 0, .slice none 0 0] 29)).alloc (.cells #[.int .i64 0, .int .i64 0, .slice none 0 0, .slice none 0 0, .slice none 0 0] 29) = W2 at *
  have HG2 := hide ((unhide HG).later (unhide B2))
  have F2 := hide (GFr.of (G := R) (sp := none) (unhide B2))
  go_at_call 64
  cases ht : takeE p 0 with
  | error x =>
    as_aux_lemma =>
    have hx0 := takeE_pos ht
    have EQ := hide (gAdd_err (t := t) (bs := bs) (p := p) (x := x) (by unfold rdP; rw [ht]))
    refine (refTake_bad (c := c) n 0 x 0 (unhide HN) rfl (by have := unhide HN; omega) (by omega) (unhide HBW) ht).mono ?_
    rintro e V1 ⟨rfl, rfl⟩
    clear ht
    obtain ⟨W, hwr, gW, hW⟩ := five_sets (unhide X1) (.int .i64 0) (.int .i64 0) (.slice none 0 0) (.slice none 0 0) (.slice none 0 0)
    have HW := hide hW
    have r0 := box_cell hwr 0 _ rfl
    have r1 := box_cell hwr 1 _ rfl
    have r2 := box_cell hwr 2 _ rfl
    have r3 := box_cell hwr 3 _ rfl
    have r4 := box_cell hwr 4 _ rfl
    have z0 := box_cell (unhide X1) 0 _ rfl
    have z1 := box_cell (unhide X1) 1 _ rfl
    have z2 := box_cell (unhide X1) 2 _ rfl
    have z3 := box_cell (unhide X1) 3 _ rfl
    have z4 := box_cell (unhide X1) 4 _ rfl
    have f0 := mbox_free (unhide X1) 0
    have f1 := mbox_free (unhide X1) 1
    have f2 := mbox_free (unhide X1) 2
    have f3 := mbox_free (unhide X1) 3
    have f4 := mbox_free (unhide X1) 4
    have n0 := box_cell (unhide X2) 0 _ rfl
    have n1 := box_cell (unhide X2) 1 _ rfl
    have n2 := box_cell (unhide X2) 2 _ rfl
    have n3 := box_cell (unhide X2) 3 _ rfl
    have n4 := box_cell (unhide X2) 4 _ rfl
    have FF := hide (show AddR w R sp (gAdd t bs p) (.returned (.tuple #[.agg #[.int .i64 0, .int .i64 0, .slice none 0 0, .slice none 0 0, .slice none 0 0], .bool false, .int .i64 ((x : Nat) : Int)])) W from addR_none (unhide EQ) ((unhide HG2).far gW (by have := unhide HGL; omega) (fun e => by have := (unhide HG).own.blkLt _ e; omega)) ((unhide F2).new gW (Nat.le_refl _)) (fun g e => .inl e))
    have x1 : ¬ ((x : Nat) : Int) = 0 := by omega
    have x2 : (((x : Nat) : Int) == 0) = false := by simp; omega
    generalize ((x : Nat) : Int) = xi at *
    clear hW hwr gW
    go_wp2_with fail
    rw [unhide HW]
    go_wp2
    refine bodyPost_ret (v := .tuple #[.agg #[.int .i64 0, .int .i64 0, .slice none 0 0, .slice none 0 0, .slice none 0 0], .bool false, .int .i64 xi]) (by simp [results, Tryz.results46, go_sem, r0, r1, r2, r3, r4]) rfl ?_
    exact unhide FF
  | ok r =>
    obtain ⟨tt, k1⟩ := r
    have hle := takeE_leb ht (unhide HL)
    have hk1 : k1 ≤ n := by rw [← unhide HN]; exact hle.1
    have ht40 := hle.2
    refine (refTake_ok (c := c) n 0 tt k1 0 (unhide HN) rfl (by have := unhide HN; omega) (by omega) (unhide HBW) ht).mono ?_
    rintro e V1 ⟨rfl, rfl⟩
    clear hle
    go_wp2_with fail
    go_at_call 64
    cases ht2 : takeE p k1 with
    | error x =>
      as_aux_lemma =>
      have hx0 := takeE_pos ht2
      have EQ := hide (gAdd_err (t := t) (bs := bs) (p := p) (x := x) (by unfold rdP; rw [ht]; dsimp only; rw [ht2]))
      refine (refTake_bad (c := c) n k1 x (k1 : Int) (unhide HN) rfl (by have := unhide HN; omega) (by rw [unhide HN]; exact hk1) (unhide HBW) ht2).mono ?_
      rintro e V2 ⟨rfl, rfl⟩
      clear ht ht2
      obtain ⟨W, hwr, gW, hW⟩ := five_sets (unhide X1) (.int .i64 0) (.int .i64 0) (.slice none 0 0) (.slice none 0 0) (.slice none 0 0)
      have HW := hide hW
      have r0 := box_cell hwr 0 _ rfl
      have r1 := box_cell hwr 1 _ rfl
      have r2 := box_cell hwr 2 _ rfl
      have r3 := box_cell hwr 3 _ rfl
      have r4 := box_cell hwr 4 _ rfl
      have z0 := box_cell (unhide X1) 0 _ rfl
      have z1 := box_cell (unhide X1) 1 _ rfl
      have z2 := box_cell (unhide X1) 2 _ rfl
      have z3 := box_cell (unhide X1) 3 _ rfl
      have z4 := box_cell (unhide X1) 4 _ rfl
      have f0 := mbox_free (unhide X1) 0
      have f1 := mbox_free (unhide X1) 1
      have f2 := mbox_free (unhide X1) 2
      have f3 := mbox_free (unhide X1) 3
      have f4 := mbox_free (unhide X1) 4
      have n0 := box_cell (unhide X2) 0 _ rfl
      have n1 := box_cell (unhide X2) 1 _ rfl
      have n2 := box_cell (unhide X2) 2 _ rfl
      have n3 := box_cell (unhide X2) 3 _ rfl
      have n4 := box_cell (unhide X2) 4 _ rfl
      have FF := hide (show AddR w R sp (gAdd t bs p) (.returned (.tuple #[.agg #[.int .i64 0, .int .i64 0, .slice none 0 0, .slice none 0 0, .slice none 0 0], .bool false, .int .i64 ((x : Nat) : Int)])) W from addR_none (unhide EQ) ((unhide HG2).far gW (by have := unhide HGL; omega) (fun e => by have := (unhide HG).own.blkLt _ e; omega)) ((unhide F2).new gW (Nat.le_refl _)) (fun g e => .inl e))
      have x1 : ¬ ((x : Nat) : Int) = 0 := by omega
      have x2 : (((x : Nat) : Int) == 0) = false := by simp; omega
      generalize ((x : Nat) : Int) = xi at *
      clear hW hwr gW
      go_wp2_with fail
      rw [unhide HW]
      go_wp2
      refine bodyPost_ret (v := .tuple #[.agg #[.int .i64 0, .int .i64 0, .slice none 0 0, .slice none 0 0, .slice none 0 0], .bool false, .int .i64 xi]) (by simp [results, Tryz.results46, go_sem, r0, r1, r2, r3, r4]) rfl ?_
      exact unhide FF
    | ok r2 =>
      obtain ⟨pl, k⟩ := r2
      have hle := takeE_leb ht2 (unhide HL)
      have hk2 : k ≤ n := by rw [← unhide HN]; exact hle.1
      have hp40 := hle.2
      refine (refTake_ok (c := c) n k1 pl k (k1 : Int) (unhide HN) rfl (by have := unhide HN; omega) (by rw [unhide HN]; exact hk1) (unhide HBW) ht2).mono ?_
      rintro e W3 ⟨rfl, rfl⟩
      have HR := hide (show rdP p = (if 32768 < tt then .error 6 else if tt < pl + (n - k) ∨ (n - k = 0 ∧ 0 < tt) then .error 4 else .ok (tt, pl, k)) by unfold rdP; rw [ht]; dsimp only; rw [ht2, ← unhide HN])
      clear hle ht ht2
      by_cases h6 : 32768 < tt
      · as_aux_lemma =>
        have h6' : (32768 : Int) < (tt : Int) := by omega
        have EQ := hide (gAdd_err (t := t) (bs := bs) (p := p) (x := 6) (by rw [unhide HR, if_pos h6]))
        obtain ⟨W, hwr, gW, hW⟩ := five_sets (unhide X1) (.int .i64 0) (.int .i64 0) (.slice none 0 0) (.slice none 0 0) (.slice none 0 0)
        have HW := hide hW
        have r0 := box_cell hwr 0 _ rfl
        have r1 := box_cell hwr 1 _ rfl
        have r2 := box_cell hwr 2 _ rfl
        have r3 := box_cell hwr 3 _ rfl
        have r4 := box_cell hwr 4 _ rfl
        have z0 := box_cell (unhide X1) 0 _ rfl
        have z1 := box_cell (unhide X1) 1 _ rfl
        have z2 := box_cell (unhide X1) 2 _ rfl
        have z3 := box_cell (unhide X1) 3 _ rfl
        have z4 := box_cell (unhide X1) 4 _ rfl
        have f0 := mbox_free (unhide X1) 0
        have f1 := mbox_free (unhide X1) 1
        have f2 := mbox_free (unhide X1) 2
        have f3 := mbox_free (unhide X1) 3
        have f4 := mbox_free (unhide X1) 4
        have n0 := box_cell (unhide X2) 0 _ rfl
        have n1 := box_cell (unhide X2) 1 _ rfl
        have n2 := box_cell (unhide X2) 2 _ rfl
        have n3 := box_cell (unhide X2) 3 _ rfl
        have n4 := box_cell (unhide X2) 4 _ rfl
        have FF := hide (show AddR w R sp (gAdd t bs p) (.returned (.tuple #[.agg #[.int .i64 0, .int .i64 0, .slice none 0 0, .slice none 0 0, .slice none 0 0], .bool false, .int .i64 ((6 : Nat) : Int)])) W from addR_none (unhide EQ) ((unhide HG2).far gW (by have := unhide HGL; omega) (fun e => by have := (unhide HG).own.blkLt _ e; omega)) ((unhide F2).new gW (Nat.le_refl _)) (fun g e => .inl e))
        rw [show ((6 : Nat) : Int) = 6 from rfl] at FF
        clear hW hwr gW
        go_wp2_with fail
        rw [unhide HW]
        go_wp2
        refine bodyPost_ret (v := .tuple #[.agg #[.int .i64 0, .int .i64 0, .slice none 0 0, .slice none 0 0, .slice none 0 0], .bool false, .int .i64 6]) (by simp [results, Tryz.results46, go_sem, r0, r1, r2, r3, r4]) rfl ?_
        exact unhide FF
      have h6' : ¬ (32768 : Int) < (tt : Int) := by omega
      have hsl := run_slice_l8 a n c k hk2
      have hw1 : IntKind.i64.wrap ((n : Int) - (k : Int)) = ((n - k : Nat) : Int) := by rw [IntKind.wrap_i64]; omega
      have hw2 : (n : Int) - (k : Int) = ((n - k : Nat) : Int) := by omega
      have PBB := hide (show ∀ V, (∀ ad, a = some ad → 0 < p.length → V.heap[ad.block]? = w.heap[ad.block]?) → BytesAt V (slp a k c) (p.drop k) from fun V u => ((unhide HB).keepB u).drop k c (by rw [unhide HN]; exact hc))
      have PSZ := hide (show slp a k c = none → c - k = 0 from fun e => slp_none e (unhide HZ))
      have PLN := hide (show (p.drop k).length = n - k by rw [List.length_drop, unhide HN])
      have HR2 := hide (show rdP p = (if tt < pl + (n - k) ∨ (n - k = 0 ∧ 0 < tt) then .error 4 else .ok (tt, pl, k)) by rw [unhide HR, if_neg h6])
      have hmb : n - k ≤ 140737488355328 := by omega
      clear HR
      generalize slp a k c = ps at *
      generalize n - k = m at *
      generalize c - k = cs at *
      have qw : IntKind.i64.wrap ((tt : Int) - (pl : Int)) = (tt : Int) - (pl : Int) := by rw [IntKind.wrap_i64]; omega
      by_cases hy1 : tt < pl
      · as_aux_lemma =>
        have y1 : (tt : Int) < (pl : Int) := by omega
        have EQ := hide (gAdd_err (t := t) (bs := bs) (p := p) (x := 4) (by rw [unhide HR2, if_pos (.inl (by omega))]))
        obtain ⟨W, hwr, gW, hW⟩ := five_sets (unhide X1) (.int .i64 0) (.int .i64 0) (.slice none 0 0) (.slice none 0 0) (.slice none 0 0)
        have HW := hide hW
        have r0 := box_cell hwr 0 _ rfl
        have r1 := box_cell hwr 1 _ rfl
        have r2 := box_cell hwr 2 _ rfl
        have r3 := box_cell hwr 3 _ rfl
        have r4 := box_cell hwr 4 _ rfl
        have z0 := box_cell (unhide X1) 0 _ rfl
        have z1 := box_cell (unhide X1) 1 _ rfl
        have z2 := box_cell (unhide X1) 2 _ rfl
        have z3 := box_cell (unhide X1) 3 _ rfl
        have z4 := box_cell (unhide X1) 4 _ rfl
        have f0 := mbox_free (unhide X1) 0
        have f1 := mbox_free (unhide X1) 1
        have f2 := mbox_free (unhide X1) 2
        have f3 := mbox_free (unhide X1) 3
        have f4 := mbox_free (unhide X1) 4
        have n0 := box_cell (unhide X2) 0 _ rfl
        have n1 := box_cell (unhide X2) 1 _ rfl
        have n2 := box_cell (unhide X2) 2 _ rfl
        have n3 := box_cell (unhide X2) 3 _ rfl
        have n4 := box_cell (unhide X2) 4 _ rfl
        have FF := hide (show AddR w R sp (gAdd t bs p) (.returned (.tuple #[.agg #[.int .i64 0, .int .i64 0, .slice none 0 0, .slice none 0 0, .slice none 0 0], .bool false, .int .i64 ((4 : Nat) : Int)])) W from addR_none (unhide EQ) ((unhide HG2).far gW (by have := unhide HGL; omega) (fun e => by have := (unhide HG).own.blkLt _ e; omega)) ((unhide F2).new gW (Nat.le_refl _)) (fun g e => .inl e))
        rw [show ((4 : Nat) : Int) = 4 from rfl] at FF
        clear hW hwr gW
        go_wp2_with fail
        rw [unhide HW]
        go_wp2
        refine bodyPost_ret (v := .tuple #[.agg #[.int .i64 0, .int .i64 0, .slice none 0 0, .slice none 0 0, .slice none 0 0], .bool false, .int .i64 4]) (by simp [results, Tryz.results46, go_sem, r0, r1, r2, r3, r4]) rfl ?_
        exact unhide FF
      have y1 : ¬ (tt : Int) < (pl : Int) := by omega
      by_cases hy2 : tt - pl < m
      · as_aux_lemma =>
        have y2 : (tt : Int) - (pl : Int) < (m : Int) := by omega
        have EQ := hide (gAdd_err (t := t) (bs := bs) (p := p) (x := 4) (by rw [unhide HR2, if_pos (.inl (by omega))]))
        obtain ⟨W, hwr, gW, hW⟩ := five_sets (unhide X1) (.int .i64 0) (.int .i64 0) (.slice none 0 0) (.slice none 0 0) (.slice none 0 0)
        have HW := hide hW
        have r0 := box_cell hwr 0 _ rfl
        have r1 := box_cell hwr 1 _ rfl
        have r2 := box_cell hwr 2 _ rfl
        have r3 := box_cell hwr 3 _ rfl
        have r4 := box_cell hwr 4 _ rfl
        have z0 := box_cell (unhide X1) 0 _ rfl
        have z1 := box_cell (unhide X1) 1 _ rfl
        have z2 := box_cell (unhide X1) 2 _ rfl
        have z3 := box_cell (unhide X1) 3 _ rfl
        have z4 := box_cell (unhide X1) 4 _ rfl
        have f0 := mbox_free (unhide X1) 0
        have f1 := mbox_free (unhide X1) 1
        have f2 := mbox_free (unhide X1) 2
        have f3 := mbox_free (unhide X1) 3
        have f4 := mbox_free (unhide X1) 4
        have n0 := box_cell (unhide X2) 0 _ rfl
        have n1 := box_cell (unhide X2) 1 _ rfl
        have n2 := box_cell (unhide X2) 2 _ rfl
        have n3 := box_cell (unhide X2) 3 _ rfl
        have n4 := box_cell (unhide X2) 4 _ rfl
        have FF := hide (show AddR w R sp (gAdd t bs p) (.returned (.tuple #[.agg #[.int .i64 0, .int .i64 0, .slice none 0 0, .slice none 0 0, .slice none 0 0], .bool false, .int .i64 ((4 : Nat) : Int)])) W from addR_none (unhide EQ) ((unhide HG2).far gW (by have := unhide HGL; omega) (fun e => by have := (unhide HG).own.blkLt _ e; omega)) ((unhide F2).new gW (Nat.le_refl _)) (fun g e => .inl e))
        rw [show ((4 : Nat) : Int) = 4 from rfl] at FF
        clear hW hwr gW
        go_wp2_with fail
        rw [unhide HW]
        go_wp2
        refine bodyPost_ret (v := .tuple #[.agg #[.int .i64 0, .int .i64 0, .slice none 0 0, .slice none 0 0, .slice none 0 0], .bool false, .int .i64 4]) (by simp [results, Tryz.results46, go_sem, r0, r1, r2, r3, r4]) rfl ?_
        exact unhide FF
      have y2 : ¬ (tt : Int) - (pl : Int) < (m : Int) := by omega
      by_cases hy3 : m = 0 ∧ 0 < tt
      · as_aux_lemma =>
        have y3 : ((m : Int) == 0) = true := by simp; omega
        have y4 : ¬ (tt : Int) = 0 := by omega
        have y5 : ((tt : Int) == 0) = false := by simp; omega
        have y6 : ((tt : Int) != 0) = true := by simp; omega
        have EQ := hide (gAdd_err (t := t) (bs := bs) (p := p) (x := 4) (by rw [unhide HR2, if_pos (.inr hy3)]))
        clear hy3 hmb hy2 hy1 HR2
        obtain ⟨W, hwr, gW, hW⟩ := five_sets (unhide X1) (.int .i64 0) (.int .i64 0) (.slice none 0 0) (.slice none 0 0) (.slice none 0 0)
        have HW := hide hW
        have r0 := box_cell hwr 0 _ rfl
        have r1 := box_cell hwr 1 _ rfl
        have r2 := box_cell hwr 2 _ rfl
        have r3 := box_cell hwr 3 _ rfl
        have r4 := box_cell hwr 4 _ rfl
        have z0 := box_cell (unhide X1) 0 _ rfl
        have z1 := box_cell (unhide X1) 1 _ rfl
        have z2 := box_cell (unhide X1) 2 _ rfl
        have z3 := box_cell (unhide X1) 3 _ rfl
        have z4 := box_cell (unhide X1) 4 _ rfl
        have f0 := mbox_free (unhide X1) 0
        have f1 := mbox_free (unhide X1) 1
        have f2 := mbox_free (unhide X1) 2
        have f3 := mbox_free (unhide X1) 3
        have f4 := mbox_free (unhide X1) 4
        have n0 := box_cell (unhide X2) 0 _ rfl
        have n1 := box_cell (unhide X2) 1 _ rfl
        have n2 := box_cell (unhide X2) 2 _ rfl
        have n3 := box_cell (unhide X2) 3 _ rfl
        have n4 := box_cell (unhide X2) 4 _ rfl
        have FF := hide (show AddR w R sp (gAdd t bs p) (.returned (.tuple #[.agg #[.int .i64 0, .int .i64 0, .slice none 0 0, .slice none 0 0, .slice none 0 0], .bool false, .int .i64 ((4 : Nat) : Int)])) W from addR_none (unhide EQ) ((unhide HG2).far gW (by have := unhide HGL; omega) (fun e => by have := (unhide HG).own.blkLt _ e; omega)) ((unhide F2).new gW (Nat.le_refl _)) (fun g e => .inl e))
        rw [show ((4 : Nat) : Int) = 4 from rfl] at FF
        clear hW hwr gW
        go_wp2_with fail
        rw [unhide HW]
        go_wp2
        refine bodyPost_ret (v := .tuple #[.agg #[.int .i64 0, .int .i64 0, .slice none 0 0, .slice none 0 0, .slice none 0 0], .bool false, .int .i64 4]) (by simp [results, Tryz.results46, go_sem, r0, r1, r2, r3, r4]) rfl ?_
        exact unhide FF
      have RD := hide (show rdP p = .ok (tt, pl, k) by rw [unhide HR2, if_neg (by omega)])
      clear HR2
      by_cases hp0 : pl = 0
      · by_cases hm0 : m = 0
        · as_aux_lemma =>
          have y3 : ((m : Int) == 0) = true := by simp; omega
          have y5 : ((tt : Int) == 0) = true := by simp; omega
          have y6 : ((tt : Int) != 0) = false := by simp; omega
          have hlt : ¬ 0 + m < tt := by omega
          skip
          subst hp0
          rw [show ((0 : Nat) : Int) = 0 from rfl] at *
          have B0L := hide (show ([] : List Nat).length ≤ 32768 by simp)
          have BSUM := hide (show (0 : Nat) + m ≤ 32768 by omega)
          have RDS := hide (show ∀ all, ([] : List Nat) ++ p.drop k = all → (all.length < tt → gAdd t bs p = ⟨sn0, false, 0, tt, all⟩) ∧ (¬ all.length < tt → gAdd t bs p = ⟨snOf (snL all), decide (snX (snL all) = 0), snX (snL all), 0, []⟩) from fun all ha => ⟨fun h => gAdd_more (unhide RD) (fun q => q.1 rfl) all ha h, fun h => gAdd_all (unhide RD) (fun q => q.1 rfl) all ha h⟩)
          clear hm0 hy3 hy2 hy1
          obtain ⟨U, hUr, gU, hU⟩ := three_sets (unhide HG2).row (.bool true) (.int .i64 (tt : Int)) (.slice none 0 0)
          have HU := hide hU
          have k0 := box_cell (unhide HG2).row 0 _ rfl
          have k1 := box_cell (unhide HG2).row 1 _ rfl
          have k2 := box_cell (unhide HG2).row 2 _ rfl
          have kf0 := mbox_free (unhide HG2).row 0
          have kf1 := mbox_free (unhide HG2).row 1
          have kf2 := mbox_free (unhide HG2).row 2
          have hzU : U.heap.size = W3.heap.size := by rw [← hU]; simp
          have RU := hide hUr
          have F3 := hide ((unhide F2).trans (GFr.set (sp := none) gU) (fun g e => by cases e))
          have XD3 := hide ((gU.block w.heap.size (Array.getElem?_eq_some_iff.1 (unhide X1)).1 (fun e => by have h1 := Option.some.inj e; have h2 := unhide HGL; omega)).trans (unhide X1))
          have XN3 := hide ((gU.block (w.heap.size + 1) (Array.getElem?_eq_some_iff.1 (unhide X2)).1 (fun e => by have h1 := Option.some.inj e; have h2 := unhide HGL; omega)).trans (unhide X2))
          have O0 := hide (show BytesAt (U.alloc (.cells #[] 5)) none [] from (OwnB.ofNil _ 0).bytes)
          clear hU hUr gU
          have AU := hide (show Below U.heap.size U (U.alloc (.cells #[] 5)) from (Below.refl _ _).alloc (Nat.le_refl _) _)
          have OE := OwnB.empty U U.heap.size (Nat.le_refl _)
          rw [hzU] at OE
          have OEE := hide OE
          have RUA := hide (later_block (unhide AU) (unhide RU))
          have XDA := hide (later_block (unhide AU) (unhide XD3))
          have XNA := hide (later_block (unhide AU) (unhide XN3))
          have FA := hide ((unhide F3).trans (GFr.of (sp := none) (unhide AU)) (fun g e => by cases e))
          have LW := hide (show w.heap.size ≤ W3.heap.size from by have := unhide SZ; omega)
          have ra : ¬ R = w.heap.size := by have := unhide HGL; omega
          have rb : ¬ w.heap.size = R := by have := unhide HGL; omega
          have rc : ¬ R = w.heap.size + 1 := by have := unhide HGL; omega
          have rd : ¬ w.heap.size + 1 = R := by have := unhide HGL; omega
          have hzA : (U.alloc (.cells #[] 5)).heap.size = W3.heap.size + 1 := by simp [hzU]
          have LA := hide (show W3.heap.size ≤ (U.alloc (.cells #[] 5)).heap.size by rw [hzA]; omega)
          clear OE hzA
          have kU : ((((W3.setCell ⟨R, 0, none⟩ (.bool true)).setCell ⟨R, 1, none⟩ (.int .i64 ((tt : Int)))).setCell ⟨R, 2, none⟩ (.slice none 0 0)).alloc (.cells #[] 5)).cell? ⟨R, 2, none⟩ = some (.slice none 0 0) := by rw [unhide HU]; exact box_cell (unhide RUA) 2 _ rfl
          go_wp2_with (at_builtin; refine unhide ?_)
          refine hide ?_
          rw [unhide HU]
          refine wpList_append8 rfl (.tmp 101) (.tmp 105) rfl W3.heap.size (some ⟨W3.heap.size, 0, none⟩) 0 0 [] rfl rfl (by exact unhide OEE) none 0 0 rfl [] rfl (by exact unhide O0) (fun _ => rfl) (by have := unhide B0L; simp only [List.length_nil]; omega) (by exact unhide LA) ?_
          intro sA nA cA UA hnA hoA hgA hbA
          rw [List.nil_append] at hnA hoA
          have OA := hide hoA
          have NA := hide (unhide hnA)
          have gx : Below w.heap.size (U.alloc (.cells #[] 5)) UA := hbA.mono (unhide LW)
          have KB := hide (show ∀ j, j < W3.heap.size → UA.heap[j]? = (U.alloc (.cells #[] 5)).heap[j]? from fun j hj => hbA.block j hj)
          have FB := hide (show GFr w UA R none from ⟨hbA.os.trans (unhide FA).os, hbA.tape.trans (unhide FA).tape, hbA.output.trans (unhide FA).output, Nat.le_trans (unhide FA).size hbA.size, fun j hj h1 h2 => (hbA.block j (by have := unhide LW; omega)).trans ((unhide FA).block j hj h1 h2)⟩)
          have RUB := hide ((hbA.block R (by have h1 := unhide HGL; have h2 := unhide LW; omega)).trans (unhide RUA))
          have XDB := hide ((hbA.block w.heap.size (by have h2 := unhide SZ; omega)).trans (unhide XDA))
          have XNB := hide ((hbA.block (w.heap.size + 1) (by have h2 := unhide SZ; omega)).trans (unhide XNA))
          have LB := hide (Nat.le_trans (unhide LA) hbA.size)
          have PU := hide (unhide PBB UA (fun ad e h0 => (unhide FB).block ad.block (unhide HAR ad e h0).2 (unhide HAR ad e h0).1 (by intro q; cases q)))
          clear hoA hnA hgA hbA gx OEE
          clear kU
          go_wp2_with (at_builtin; refine unhide ?_)
          refine hide ?_
          refine wpList_append8 rfl (.tmp 107) (.tmp 110) rfl W3.heap.size sA nA cA [] rfl (unhide NA) (by exact unhide OA) ps m cs rfl (p.drop k) (unhide PLN) (by exact unhide PU) (unhide PSZ) (by have := unhide B0L; omega) (by exact unhide LB) ?_
          intro sB nB cB UB hnB hoB hgB hbB
          have OB := hide hoB
          have NB := hide (unhide hnB)
          have FC := hide (show GFr w UB R none from ⟨hbB.os.trans (unhide FB).os, hbB.tape.trans (unhide FB).tape, hbB.output.trans (unhide FB).output, Nat.le_trans (unhide FB).size hbB.size, fun j hj h1 h2 => (hbB.block j (by have := unhide LW; omega)).trans ((unhide FB).block j hj h1 h2)⟩)
          have RUC := hide ((hbB.block R (by have h1 := unhide HGL; have h2 := unhide LW; omega)).trans (unhide RUB))
          have XDC := hide ((hbB.block w.heap.size (by have h2 := unhide SZ; omega)).trans (unhide XDB))
          have XNC := hide ((hbB.block (w.heap.size + 1) (by have h2 := unhide SZ; omega)).trans (unhide XNB))
          have LC := hide (Nat.le_trans (unhide LB) hbB.size)
          have hBn : nB = 0 + m := by have h1 := unhide NB; rw [List.length_append, unhide PLN] at h1; (try simp only [List.length_nil] at h1); omega
          have HBN := hide hBn
          have yl : ¬ (nB : Int) < (tt : Int) := by omega
          have m0 := box_cell (unhide RUC) 0 _ rfl
          have m1 := box_cell (unhide RUC) 1 _ rfl
          have m2 := box_cell (unhide RUC) 2 _ rfl
          have mf0 := mbox_free (unhide RUC) 0
          have mf1 := mbox_free (unhide RUC) 1
          have mf2 := mbox_free (unhide RUC) 2
          clear hoB hnB hgB hbB hBn PU
          go_wp2_with fail
          obtain ⟨all, hall⟩ : ∃ all, [] ++ p.drop k = all := ⟨_, rfl⟩
          rw [hall] at OB NB
          have RE := hide (unhide RDS all hall)
          have LAL := hide (show all.length ≤ 32768 by rw [unhide NB, unhide HBN]; have := unhide BSUM; omega)
          have SB := hide (show ∀ g, blk sB = some g → blk sp = some g ∨ w.heap.size ≤ g from fun g e => .inr (by obtain ⟨ad, e1, e2⟩ := blk_adr e; have h1 := (unhide OB).adr ad e1; have h2 := unhide LW; omega))
          have NBR := hide (show blk sB ≠ some R from fun e => by obtain ⟨ad, e1, e2⟩ := blk_adr e; have h1 := (unhide OB).adr ad e1; have h2 := unhide LW; have h3 := unhide HGL; omega)
          have NBD := hide (show blk sB ≠ some w.heap.size from fun e => by obtain ⟨ad, e1, e2⟩ := blk_adr e; have h1 := (unhide OB).adr ad e1; have h2 := unhide SZ; omega)
          have E1 := hide ((unhide RE).2 (by rw [unhide NB, unhide HBN]; exact hlt))
          have gS0 := grown_set UB R 0 (.bool false)
          have R25 := heap_setCell_same UB R 0 _ _ (.bool false) (unhide RUC)
          have gS1 := grown_set (UB.setCell ⟨R, 0, none⟩ (.bool false)) R 2 (.slice none 0 0)
          have R26 := heap_setCell_same _ R 2 _ _ (.slice none 0 0) R25
          have gS := grown_trans gS0 gS1
          have O26 := ((unhide OB).mono (Nat.zero_le _)).stays (w' := (UB.setCell ⟨R, 0, none⟩ (.bool false)).setCell ⟨R, 2, none⟩ (.slice none 0 0)) (fun g e => gS.block g ((unhide OB).blkLt g e) (fun q => unhide NBR (e.trans q)))
          have D26 := (gS.block w.heap.size (Array.getElem?_eq_some_iff.1 (unhide XDC)).1 (fun e => rb (Option.some.inj e))).trans (unhide XDC)
          have F26 := hide ((unhide FC).trans (GFr.set (sp := none) gS) (fun g e => by cases e))
          have O26' := hide O26
          have D26' := hide D26
          have R26' := hide R26
          clear gS0 gS1 gS R25 R26 O26 D26 m0 m1 m2 mf0 mf1 mf2
          generalize (UB.setCell ⟨R, 0, none⟩ (.bool false)).setCell ⟨R, 2, none⟩ (.slice none 0 0) = W26 at *
          have SG := hide (rgetS_calls sB nB cB all W26 (unhide NB) (by have := (unhide O26').cap.1; rw [unhide NB] at this; exact this) (by have := unhide LAL; rw [unhide NB] at this; omega) (unhide O26').nil0 (unhide O26').bytes)
          go_at_call 20
          refine (unhide SG).mono ?_
          rintro e V15 ⟨h15, rfl, s15, v15, fr15⟩
          obtain ⟨S, hS⟩ : ∃ S, snOf (snL all) = S := ⟨_, rfl⟩
          obtain ⟨X, hX⟩ : ∃ X : Nat, snX (snL all) = X := ⟨_, rfl⟩
          rw [hS, hX] at E1
          rw [hS] at s15
          rw [hS, hX]
          unfold snRow
          have A15 := hide (show Below V15.heap.size V15 (V15.alloc (.cells #[.int .i64 S.i, .int .i64 S.t, .slice h15.va S.v.length h15.vc, .slice h15.la S.l.length h15.lc, .slice h15.dp S.d.length h15.dc] 29)) from (Below.refl _ _).alloc (Nat.le_refl _) _)
          have X15 := hide (heap_new V15 (.cells #[.int .i64 S.i, .int .i64 S.t, .slice h15.va S.v.length h15.vc, .slice h15.la S.l.length h15.lc, .slice h15.dp S.d.length h15.dc] 29))
          have U15 := hide (v15.trans ((unhide A15).mono v15.size))
          have XD15 := hide (later_block (unhide U15) (unhide D26'))
          obtain ⟨W, hwr, gW, hW⟩ := five_sets (unhide XD15) (.int .i64 S.i) (.int .i64 S.t) (.slice h15.va S.v.length h15.vc) (.slice h15.la S.l.length h15.lc) (.slice h15.dp S.d.length h15.dc)
          have HW := hide hW
          have r0 := box_cell hwr 0 _ rfl
          have r1 := box_cell hwr 1 _ rfl
          have r2 := box_cell hwr 2 _ rfl
          have r3 := box_cell hwr 3 _ rfl
          have r4 := box_cell hwr 4 _ rfl
          have z0 := box_cell (unhide XD15) 0 _ rfl
          have z1 := box_cell (unhide XD15) 1 _ rfl
          have z2 := box_cell (unhide XD15) 2 _ rfl
          have z3 := box_cell (unhide XD15) 3 _ rfl
          have z4 := box_cell (unhide XD15) 4 _ rfl
          have f0 := mbox_free (unhide XD15) 0
          have f1 := mbox_free (unhide XD15) 1
          have f2 := mbox_free (unhide XD15) 2
          have f3 := mbox_free (unhide XD15) 3
          have f4 := mbox_free (unhide XD15) 4
          have x0 := box_cell (unhide X15) 0 _ rfl
          have x1 := box_cell (unhide X15) 1 _ rfl
          have x2 := box_cell (unhide X15) 2 _ rfl
          have x3 := box_cell (unhide X15) 3 _ rfl
          have x4 := box_cell (unhide X15) 4 _ rfl
          have w14 := (Array.getElem?_eq_some_iff.1 (unhide D26')).1
          have HSN := hide (s15.later (unhide A15))
          have FF := hide (show SnAt W S h15 → (∀ ad, h15.va = some ad ∨ h15.la = some ad ∨ h15.dp = some ad → w.heap.size ≤ ad.block) → ∀ b, b = decide (X = 0) → AddR w R sp (gAdd t bs p) (.returned (.tuple #[.agg #[.int .i64 S.i, .int .i64 S.t, .slice h15.va S.v.length h15.vc, .slice h15.la S.l.length h15.lc, .slice h15.dp S.d.length h15.dc], .bool b, .int .i64 (X : Int)])) W from fun hsn hfr b hb => by
            rw [unhide E1, hb]
            refine ⟨h15, none, 0, false, tt, rfl, hsn, hfr, ⟨?_, OwnB.ofNil _ _, fun h => absurd rfl h, by omega, by simp⟩, ((unhide F26).trans (GFr.of (sp := none) (unhide U15)) (fun g e => by cases e)).new gW (Nat.le_refl _), fun g e => by cases e⟩
            exact (gW.block R (Nat.lt_of_lt_of_le (Array.getElem?_eq_some_iff.1 (unhide R26')).1 (unhide U15).size) (fun e => ra (Option.some.inj e))).trans (later_block (unhide U15) (unhide R26')))
          have FG := hide (unhide FF ((unhide HSN).far gW (fun ad e => by have := fr15 ad e; omega)) (fun ad e => by have := fr15 ad e; omega))
          clear hW hwr gW s15 v15 fr15 SG hS hX FF
          by_cases hX0 : X = 0
          · as_aux_lemma =>
            subst hX0
            have FT := hide (unhide FG true rfl)
            rw [show ((0 : Nat) : Int) = 0 from rfl] at FT ⊢
            go_wp2_with fail
            rw [unhide HW]
            go_wp2
            refine bodyPost_ret (v := .tuple #[.agg #[.int .i64 S.i, .int .i64 S.t, .slice h15.va S.v.length h15.vc, .slice h15.la S.l.length h15.lc, .slice h15.dp S.d.length h15.dc], .bool true, .int .i64 0]) (by simp [results, Tryz.results46, go_sem, r0, r1, r2, r3, r4]) rfl ?_
            exact unhide FT
          · as_aux_lemma =>
            have FT := hide (unhide FG false (by simp [hX0]))
            have e1 : ¬ (X : Int) = 0 := by omega
            have e2 : ((X : Int) == 0) = false := by simp; omega
            clear FG
            generalize (X : Int) = xi at *
            go_wp2_with fail
            rw [unhide HW]
            go_wp2
            refine bodyPost_ret (v := .tuple #[.agg #[.int .i64 S.i, .int .i64 S.t, .slice h15.va S.v.length h15.vc, .slice h15.la S.l.length h15.lc, .slice h15.dp S.d.length h15.dc], .bool false, .int .i64 xi]) (by simp [results, Tryz.results46, go_sem, r0, r1, r2, r3, r4]) rfl ?_
            exact unhide FT
        · have y3 : ((m : Int) == 0) = false := by simp; omega
          have y4 : ¬ (m : Int) = 0 := by omega
          by_cases hlt : 0 + m < tt
          · as_aux_lemma =>
            skip
            subst hp0
            rw [show ((0 : Nat) : Int) = 0 from rfl] at *
            have B0L := hide (show ([] : List Nat).length ≤ 32768 by simp)
            have BSUM := hide (show (0 : Nat) + m ≤ 32768 by omega)
            have RDS := hide (show ∀ all, ([] : List Nat) ++ p.drop k = all → (all.length < tt → gAdd t bs p = ⟨sn0, false, 0, tt, all⟩) ∧ (¬ all.length < tt → gAdd t bs p = ⟨snOf (snL all), decide (snX (snL all) = 0), snX (snL all), 0, []⟩) from fun all ha => ⟨fun h => gAdd_more (unhide RD) (fun q => q.1 rfl) all ha h, fun h => gAdd_all (unhide RD) (fun q => q.1 rfl) all ha h⟩)
            obtain ⟨U, hUr, gU, hU⟩ := three_sets (unhide HG2).row (.bool true) (.int .i64 (tt : Int)) (.slice none 0 0)
            have HU := hide hU
            have k0 := box_cell (unhide HG2).row 0 _ rfl
            have k1 := box_cell (unhide HG2).row 1 _ rfl
            have k2 := box_cell (unhide HG2).row 2 _ rfl
            have kf0 := mbox_free (unhide HG2).row 0
            have kf1 := mbox_free (unhide HG2).row 1
            have kf2 := mbox_free (unhide HG2).row 2
            have hzU : U.heap.size = W3.heap.size := by rw [← hU]; simp
            have RU := hide hUr
            have F3 := hide ((unhide F2).trans (GFr.set (sp := none) gU) (fun g e => by cases e))
            have XD3 := hide ((gU.block w.heap.size (Array.getElem?_eq_some_iff.1 (unhide X1)).1 (fun e => by have h1 := Option.some.inj e; have h2 := unhide HGL; omega)).trans (unhide X1))
            have XN3 := hide ((gU.block (w.heap.size + 1) (Array.getElem?_eq_some_iff.1 (unhide X2)).1 (fun e => by have h1 := Option.some.inj e; have h2 := unhide HGL; omega)).trans (unhide X2))
            have O0 := hide (show BytesAt (U.alloc (.cells #[] 5)) none [] from (OwnB.ofNil _ 0).bytes)
            clear hU hUr gU
            have AU := hide (show Below U.heap.size U (U.alloc (.cells #[] 5)) from (Below.refl _ _).alloc (Nat.le_refl _) _)
            have OE := OwnB.empty U U.heap.size (Nat.le_refl _)
            rw [hzU] at OE
            have OEE := hide OE
            have RUA := hide (later_block (unhide AU) (unhide RU))
            have XDA := hide (later_block (unhide AU) (unhide XD3))
            have XNA := hide (later_block (unhide AU) (unhide XN3))
            have FA := hide ((unhide F3).trans (GFr.of (sp := none) (unhide AU)) (fun g e => by cases e))
            have LW := hide (show w.heap.size ≤ W3.heap.size from by have := unhide SZ; omega)
            have ra : ¬ R = w.heap.size := by have := unhide HGL; omega
            have rb : ¬ w.heap.size = R := by have := unhide HGL; omega
            have rc : ¬ R = w.heap.size + 1 := by have := unhide HGL; omega
            have rd : ¬ w.heap.size + 1 = R := by have := unhide HGL; omega
            have hzA : (U.alloc (.cells #[] 5)).heap.size = W3.heap.size + 1 := by simp [hzU]
            have LA := hide (show W3.heap.size ≤ (U.alloc (.cells #[] 5)).heap.size by rw [hzA]; omega)
            clear OE hzA
            have kU : ((((W3.setCell ⟨R, 0, none⟩ (.bool true)).setCell ⟨R, 1, none⟩ (.int .i64 ((tt : Int)))).setCell ⟨R, 2, none⟩ (.slice none 0 0)).alloc (.cells #[] 5)).cell? ⟨R, 2, none⟩ = some (.slice none 0 0) := by rw [unhide HU]; exact box_cell (unhide RUA) 2 _ rfl
            go_wp2_with (at_builtin; refine unhide ?_)
            refine hide ?_
            rw [unhide HU]
            refine wpList_append8 rfl (.tmp 101) (.tmp 105) rfl W3.heap.size (some ⟨W3.heap.size, 0, none⟩) 0 0 [] rfl rfl (by exact unhide OEE) none 0 0 rfl [] rfl (by exact unhide O0) (fun _ => rfl) (by have := unhide B0L; simp only [List.length_nil]; omega) (by exact unhide LA) ?_
            intro sA nA cA UA hnA hoA hgA hbA
            rw [List.nil_append] at hnA hoA
            have OA := hide hoA
            have NA := hide (unhide hnA)
            have gx : Below w.heap.size (U.alloc (.cells #[] 5)) UA := hbA.mono (unhide LW)
            have KB := hide (show ∀ j, j < W3.heap.size → UA.heap[j]? = (U.alloc (.cells #[] 5)).heap[j]? from fun j hj => hbA.block j hj)
            have FB := hide (show GFr w UA R none from ⟨hbA.os.trans (unhide FA).os, hbA.tape.trans (unhide FA).tape, hbA.output.trans (unhide FA).output, Nat.le_trans (unhide FA).size hbA.size, fun j hj h1 h2 => (hbA.block j (by have := unhide LW; omega)).trans ((unhide FA).block j hj h1 h2)⟩)
            have RUB := hide ((hbA.block R (by have h1 := unhide HGL; have h2 := unhide LW; omega)).trans (unhide RUA))
            have XDB := hide ((hbA.block w.heap.size (by have h2 := unhide SZ; omega)).trans (unhide XDA))
            have XNB := hide ((hbA.block (w.heap.size + 1) (by have h2 := unhide SZ; omega)).trans (unhide XNA))
            have LB := hide (Nat.le_trans (unhide LA) hbA.size)
            have PU := hide (unhide PBB UA (fun ad e h0 => (unhide FB).block ad.block (unhide HAR ad e h0).2 (unhide HAR ad e h0).1 (by intro q; cases q)))
            clear hoA hnA hgA hbA gx OEE
            clear kU
            go_wp2_with (at_builtin; refine unhide ?_)
            refine hide ?_
            refine wpList_append8 rfl (.tmp 107) (.tmp 110) rfl W3.heap.size sA nA cA [] rfl (unhide NA) (by exact unhide OA) ps m cs rfl (p.drop k) (unhide PLN) (by exact unhide PU) (unhide PSZ) (by have := unhide B0L; omega) (by exact unhide LB) ?_
            intro sB nB cB UB hnB hoB hgB hbB
            have OB := hide hoB
            have NB := hide (unhide hnB)
            have FC := hide (show GFr w UB R none from ⟨hbB.os.trans (unhide FB).os, hbB.tape.trans (unhide FB).tape, hbB.output.trans (unhide FB).output, Nat.le_trans (unhide FB).size hbB.size, fun j hj h1 h2 => (hbB.block j (by have := unhide LW; omega)).trans ((unhide FB).block j hj h1 h2)⟩)
            have RUC := hide ((hbB.block R (by have h1 := unhide HGL; have h2 := unhide LW; omega)).trans (unhide RUB))
            have XDC := hide ((hbB.block w.heap.size (by have h2 := unhide SZ; omega)).trans (unhide XDB))
            have XNC := hide ((hbB.block (w.heap.size + 1) (by have h2 := unhide SZ; omega)).trans (unhide XNB))
            have LC := hide (Nat.le_trans (unhide LB) hbB.size)
            have hBn : nB = 0 + m := by have h1 := unhide NB; rw [List.length_append, unhide PLN] at h1; (try simp only [List.length_nil] at h1); omega
            have HBN := hide hBn
            have yl : (nB : Int) < (tt : Int) := by omega
            have m0 := box_cell (unhide RUC) 0 _ rfl
            have m1 := box_cell (unhide RUC) 1 _ rfl
            have m2 := box_cell (unhide RUC) 2 _ rfl
            have mf0 := mbox_free (unhide RUC) 0
            have mf1 := mbox_free (unhide RUC) 1
            have mf2 := mbox_free (unhide RUC) 2
            have z0 := box_cell (unhide XDC) 0 _ rfl
            have z1 := box_cell (unhide XDC) 1 _ rfl
            have z2 := box_cell (unhide XDC) 2 _ rfl
            have z3 := box_cell (unhide XDC) 3 _ rfl
            have z4 := box_cell (unhide XDC) 4 _ rfl
            have f0 := mbox_free (unhide XDC) 0
            have f1 := mbox_free (unhide XDC) 1
            have f2 := mbox_free (unhide XDC) 2
            have f3 := mbox_free (unhide XDC) 3
            have f4 := mbox_free (unhide XDC) 4
            have n0 := box_cell (unhide XNC) 0 _ rfl
            have n1 := box_cell (unhide XNC) 1 _ rfl
            have n2 := box_cell (unhide XNC) 2 _ rfl
            have n3 := box_cell (unhide XNC) 3 _ rfl
            have n4 := box_cell (unhide XNC) 4 _ rfl
            clear hoB hnB hgB hbB hBn PU
            go_wp2_with fail
            obtain ⟨all, hall⟩ : ∃ all, [] ++ p.drop k = all := ⟨_, rfl⟩
            rw [hall] at OB NB
            have RE := hide (unhide RDS all hall)
            have LAL := hide (show all.length ≤ 32768 by rw [unhide NB, unhide HBN]; have := unhide BSUM; omega)
            have SB := hide (show ∀ g, blk sB = some g → blk sp = some g ∨ w.heap.size ≤ g from fun g e => .inr (by obtain ⟨ad, e1, e2⟩ := blk_adr e; have h1 := (unhide OB).adr ad e1; have h2 := unhide LW; omega))
            have NBR := hide (show blk sB ≠ some R from fun e => by obtain ⟨ad, e1, e2⟩ := blk_adr e; have h1 := (unhide OB).adr ad e1; have h2 := unhide LW; have h3 := unhide HGL; omega)
            have NBD := hide (show blk sB ≠ some w.heap.size from fun e => by obtain ⟨ad, e1, e2⟩ := blk_adr e; have h1 := (unhide OB).adr ad e1; have h2 := unhide SZ; omega)
            have E1 := hide ((unhide RE).1 (by rw [unhide NB, unhide HBN]; exact hlt))
            have gS := grown_set UB R 2 (.slice sB nB cB)
            have R24 := heap_setCell_same UB R 2 _ _ (.slice sB nB cB) (unhide RUC)
            have D24 := (gS.block w.heap.size (Array.getElem?_eq_some_iff.1 (unhide XDC)).1 (fun e => rb (Option.some.inj e))).trans (unhide XDC)
            obtain ⟨W, hwr, gW, hW⟩ := five_sets D24 (.int .i64 0) (.int .i64 0) (.slice none 0 0) (.slice none 0 0) (.slice none 0 0)
            have FF := hide (show AddR w R sp (gAdd t bs p) (.returned (.tuple #[.agg #[.int .i64 0, .int .i64 0, .slice none 0 0, .slice none 0 0, .slice none 0 0], .bool false, .int .i64 ((0 : Nat) : Int)])) W from addR_none (bg := true) (tot := tt) (unhide E1) (RgAt.far (w := UB.setCell ⟨R, 2, none⟩ (.slice sB nB cB)) (sp := sB) (cp := cB) ⟨by rw [unhide NB]; exact R24, ((unhide OB).mono (Nat.zero_le _)).stays (fun g e => gS.block g ((unhide OB).blkLt g e) (fun q => unhide NBR (e.trans q))), fun _ => ⟨rfl, rfl⟩, by omega, unhide LAL⟩ gW rb (unhide NBD)) (((unhide FC).trans (GFr.set (sp := none) gS) (fun g e => by cases e)).new gW (Nat.le_refl _)) (unhide SB))
            rw [show ((0 : Nat) : Int) = 0 from rfl] at FF
            have r0 := box_cell hwr 0 _ rfl
            have r1 := box_cell hwr 1 _ rfl
            have r2 := box_cell hwr 2 _ rfl
            have r3 := box_cell hwr 3 _ rfl
            have r4 := box_cell hwr 4 _ rfl
            have HW := hide hW
            clear hW hwr gW gS R24 D24
            rw [unhide HW]
            refine bodyPost_ret (v := .tuple #[.agg #[.int .i64 0, .int .i64 0, .slice none 0 0, .slice none 0 0, .slice none 0 0], .bool false, .int .i64 0]) (by simp [results, Tryz.results46, go_sem, r0, r1, r2, r3, r4]) rfl ?_
            exact unhide FF
          · as_aux_lemma =>
            skip
            subst hp0
            rw [show ((0 : Nat) : Int) = 0 from rfl] at *
            have B0L := hide (show ([] : List Nat).length ≤ 32768 by simp)
            have BSUM := hide (show (0 : Nat) + m ≤ 32768 by omega)
            have RDS := hide (show ∀ all, ([] : List Nat) ++ p.drop k = all → (all.length < tt → gAdd t bs p = ⟨sn0, false, 0, tt, all⟩) ∧ (¬ all.length < tt → gAdd t bs p = ⟨snOf (snL all), decide (snX (snL all) = 0), snX (snL all), 0, []⟩) from fun all ha => ⟨fun h => gAdd_more (unhide RD) (fun q => q.1 rfl) all ha h, fun h => gAdd_all (unhide RD) (fun q => q.1 rfl) all ha h⟩)
            obtain ⟨U, hUr, gU, hU⟩ := three_sets (unhide HG2).row (.bool true) (.int .i64 (tt : Int)) (.slice none 0 0)
            have HU := hide hU
            have k0 := box_cell (unhide HG2).row 0 _ rfl
            have k1 := box_cell (unhide HG2).row 1 _ rfl
            have k2 := box_cell (unhide HG2).row 2 _ rfl
            have kf0 := mbox_free (unhide HG2).row 0
            have kf1 := mbox_free (unhide HG2).row 1
            have kf2 := mbox_free (unhide HG2).row 2
            have hzU : U.heap.size = W3.heap.size := by rw [← hU]; simp
            have RU := hide hUr
            have F3 := hide ((unhide F2).trans (GFr.set (sp := none) gU) (fun g e => by cases e))
            have XD3 := hide ((gU.block w.heap.size (Array.getElem?_eq_some_iff.1 (unhide X1)).1 (fun e => by have h1 := Option.some.inj e; have h2 := unhide HGL; omega)).trans (unhide X1))
            have XN3 := hide ((gU.block (w.heap.size + 1) (Array.getElem?_eq_some_iff.1 (unhide X2)).1 (fun e => by have h1 := Option.some.inj e; have h2 := unhide HGL; omega)).trans (unhide X2))
            have O0 := hide (show BytesAt (U.alloc (.cells #[] 5)) none [] from (OwnB.ofNil _ 0).bytes)
            clear hU hUr gU
            have AU := hide (show Below U.heap.size U (U.alloc (.cells #[] 5)) from (Below.refl _ _).alloc (Nat.le_refl _) _)
            have OE := OwnB.empty U U.heap.size (Nat.le_refl _)
            rw [hzU] at OE
            have OEE := hide OE
            have RUA := hide (later_block (unhide AU) (unhide RU))
            have XDA := hide (later_block (unhide AU) (unhide XD3))
            have XNA := hide (later_block (unhide AU) (unhide XN3))
            have FA := hide ((unhide F3).trans (GFr.of (sp := none) (unhide AU)) (fun g e => by cases e))
            have LW := hide (show w.heap.size ≤ W3.heap.size from by have := unhide SZ; omega)
            have ra : ¬ R = w.heap.size := by have := unhide HGL; omega
            have rb : ¬ w.heap.size = R := by have := unhide HGL; omega
            have rc : ¬ R = w.heap.size + 1 := by have := unhide HGL; omega
            have rd : ¬ w.heap.size + 1 = R := by have := unhide HGL; omega
            have hzA : (U.alloc (.cells #[] 5)).heap.size = W3.heap.size + 1 := by simp [hzU]
            have LA := hide (show W3.heap.size ≤ (U.alloc (.cells #[] 5)).heap.size by rw [hzA]; omega)
            clear OE hzA
            have kU : ((((W3.setCell ⟨R, 0, none⟩ (.bool true)).setCell ⟨R, 1, none⟩ (.int .i64 ((tt : Int)))).setCell ⟨R, 2, none⟩ (.slice none 0 0)).alloc (.cells #[] 5)).cell? ⟨R, 2, none⟩ = some (.slice none 0 0) := by rw [unhide HU]; exact box_cell (unhide RUA) 2 _ rfl
            go_wp2_with (at_builtin; refine unhide ?_)
            refine hide ?_
            rw [unhide HU]
            refine wpList_append8 rfl (.tmp 101) (.tmp 105) rfl W3.heap.size (some ⟨W3.heap.size, 0, none⟩) 0 0 [] rfl rfl (by exact unhide OEE) none 0 0 rfl [] rfl (by exact unhide O0) (fun _ => rfl) (by have := unhide B0L; simp only [List.length_nil]; omega) (by exact unhide LA) ?_
            intro sA nA cA UA hnA hoA hgA hbA
            rw [List.nil_append] at hnA hoA
            have OA := hide hoA
            have NA := hide (unhide hnA)
            have gx : Below w.heap.size (U.alloc (.cells #[] 5)) UA := hbA.mono (unhide LW)
            have KB := hide (show ∀ j, j < W3.heap.size → UA.heap[j]? = (U.alloc (.cells #[] 5)).heap[j]? from fun j hj => hbA.block j hj)
            have FB := hide (show GFr w UA R none from ⟨hbA.os.trans (unhide FA).os, hbA.tape.trans (unhide FA).tape, hbA.output.trans (unhide FA).output, Nat.le_trans (unhide FA).size hbA.size, fun j hj h1 h2 => (hbA.block j (by have := unhide LW; omega)).trans ((unhide FA).block j hj h1 h2)⟩)
            have RUB := hide ((hbA.block R (by have h1 := unhide HGL; have h2 := unhide LW; omega)).trans (unhide RUA))
            have XDB := hide ((hbA.block w.heap.size (by have h2 := unhide SZ; omega)).trans (unhide XDA))
            have XNB := hide ((hbA.block (w.heap.size + 1) (by have h2 := unhide SZ; omega)).trans (unhide XNA))
            have LB := hide (Nat.le_trans (unhide LA) hbA.size)
            have PU := hide (unhide PBB UA (fun ad e h0 => (unhide FB).block ad.block (unhide HAR ad e h0).2 (unhide HAR ad e h0).1 (by intro q; cases q)))
            clear hoA hnA hgA hbA gx OEE
            clear kU
            go_wp2_with (at_builtin; refine unhide ?_)
            refine hide ?_
            refine wpList_append8 rfl (.tmp 107) (.tmp 110) rfl W3.heap.size sA nA cA [] rfl (unhide NA) (by exact unhide OA) ps m cs rfl (p.drop k) (unhide PLN) (by exact unhide PU) (unhide PSZ) (by have := unhide B0L; omega) (by exact unhide LB) ?_
            intro sB nB cB UB hnB hoB hgB hbB
            have OB := hide hoB
            have NB := hide (unhide hnB)
            have FC := hide (show GFr w UB R none from ⟨hbB.os.trans (unhide FB).os, hbB.tape.trans (unhide FB).tape, hbB.output.trans (unhide FB).output, Nat.le_trans (unhide FB).size hbB.size, fun j hj h1 h2 => (hbB.block j (by have := unhide LW; omega)).trans ((unhide FB).block j hj h1 h2)⟩)
            have RUC := hide ((hbB.block R (by have h1 := unhide HGL; have h2 := unhide LW; omega)).trans (unhide RUB))
            have XDC := hide ((hbB.block w.heap.size (by have h2 := unhide SZ; omega)).trans (unhide XDB))
            have XNC := hide ((hbB.block (w.heap.size + 1) (by have h2 := unhide SZ; omega)).trans (unhide XNB))
            have LC := hide (Nat.le_trans (unhide LB) hbB.size)
            have hBn : nB = 0 + m := by have h1 := unhide NB; rw [List.length_append, unhide PLN] at h1; (try simp only [List.length_nil] at h1); omega
            have HBN := hide hBn
            have yl : ¬ (nB : Int) < (tt : Int) := by omega
            have m0 := box_cell (unhide RUC) 0 _ rfl
            have m1 := box_cell (unhide RUC) 1 _ rfl
            have m2 := box_cell (unhide RUC) 2 _ rfl
            have mf0 := mbox_free (unhide RUC) 0
            have mf1 := mbox_free (unhide RUC) 1
            have mf2 := mbox_free (unhide RUC) 2
            clear hoB hnB hgB hbB hBn PU
            go_wp2_with fail
            obtain ⟨all, hall⟩ : ∃ all, [] ++ p.drop k = all := ⟨_, rfl⟩
            rw [hall] at OB NB
            have RE := hide (unhide RDS all hall)
            have LAL := hide (show all.length ≤ 32768 by rw [unhide NB, unhide HBN]; have := unhide BSUM; omega)
            have SB := hide (show ∀ g, blk sB = some g → blk sp = some g ∨ w.heap.size ≤ g from fun g e => .inr (by obtain ⟨ad, e1, e2⟩ := blk_adr e; have h1 := (unhide OB).adr ad e1; have h2 := unhide LW; omega))
            have NBR := hide (show blk sB ≠ some R from fun e => by obtain ⟨ad, e1, e2⟩ := blk_adr e; have h1 := (unhide OB).adr ad e1; have h2 := unhide LW; have h3 := unhide HGL; omega)
            have NBD := hide (show blk sB ≠ some w.heap.size from fun e => by obtain ⟨ad, e1, e2⟩ := blk_adr e; have h1 := (unhide OB).adr ad e1; have h2 := unhide SZ; omega)
            have E1 := hide ((unhide RE).2 (by rw [unhide NB, unhide HBN]; exact hlt))
            have gS0 := grown_set UB R 0 (.bool false)
            have R25 := heap_setCell_same UB R 0 _ _ (.bool false) (unhide RUC)
            have gS1 := grown_set (UB.setCell ⟨R, 0, none⟩ (.bool false)) R 2 (.slice none 0 0)
            have R26 := heap_setCell_same _ R 2 _ _ (.slice none 0 0) R25
            have gS := grown_trans gS0 gS1
            have O26 := ((unhide OB).mono (Nat.zero_le _)).stays (w' := (UB.setCell ⟨R, 0, none⟩ (.bool false)).setCell ⟨R, 2, none⟩ (.slice none 0 0)) (fun g e => gS.block g ((unhide OB).blkLt g e) (fun q => unhide NBR (e.trans q)))
            have D26 := (gS.block w.heap.size (Array.getElem?_eq_some_iff.1 (unhide XDC)).1 (fun e => rb (Option.some.inj e))).trans (unhide XDC)
            have F26 := hide ((unhide FC).trans (GFr.set (sp := none) gS) (fun g e => by cases e))
            have O26' := hide O26
            have D26' := hide D26
            have R26' := hide R26
            clear gS0 gS1 gS R25 R26 O26 D26 m0 m1 m2 mf0 mf1 mf2
            generalize (UB.setCell ⟨R, 0, none⟩ (.bool false)).setCell ⟨R, 2, none⟩ (.slice none 0 0) = W26 at *
            have SG := hide (rgetS_calls sB nB cB all W26 (unhide NB) (by have := (unhide O26').cap.1; rw [unhide NB] at this; exact this) (by have := unhide LAL; rw [unhide NB] at this; omega) (unhide O26').nil0 (unhide O26').bytes)
            go_at_call 20
            refine (unhide SG).mono ?_
            rintro e V15 ⟨h15, rfl, s15, v15, fr15⟩
            obtain ⟨S, hS⟩ : ∃ S, snOf (snL all) = S := ⟨_, rfl⟩
            obtain ⟨X, hX⟩ : ∃ X : Nat, snX (snL all) = X := ⟨_, rfl⟩
            rw [hS, hX] at E1
            rw [hS] at s15
            rw [hS, hX]
            unfold snRow
            have A15 := hide (show Below V15.heap.size V15 (V15.alloc (.cells #[.int .i64 S.i, .int .i64 S.t, .slice h15.va S.v.length h15.vc, .slice h15.la S.l.length h15.lc, .slice h15.dp S.d.length h15.dc] 29)) from (Below.refl _ _).alloc (Nat.le_refl _) _)
            have X15 := hide (heap_new V15 (.cells #[.int .i64 S.i, .int .i64 S.t, .slice h15.va S.v.length h15.vc, .slice h15.la S.l.length h15.lc, .slice h15.dp S.d.length h15.dc] 29))
            have U15 := hide (v15.trans ((unhide A15).mono v15.size))
            have XD15 := hide (later_block (unhide U15) (unhide D26'))
            obtain ⟨W, hwr, gW, hW⟩ := five_sets (unhide XD15) (.int .i64 S.i) (.int .i64 S.t) (.slice h15.va S.v.length h15.vc) (.slice h15.la S.l.length h15.lc) (.slice h15.dp S.d.length h15.dc)
            have HW := hide hW
            have r0 := box_cell hwr 0 _ rfl
            have r1 := box_cell hwr 1 _ rfl
            have r2 := box_cell hwr 2 _ rfl
            have r3 := box_cell hwr 3 _ rfl
            have r4 := box_cell hwr 4 _ rfl
            have z0 := box_cell (unhide XD15) 0 _ rfl
            have z1 := box_cell (unhide XD15) 1 _ rfl
            have z2 := box_cell (unhide XD15) 2 _ rfl
            have z3 := box_cell (unhide XD15) 3 _ rfl
            have z4 := box_cell (unhide XD15) 4 _ rfl
            have f0 := mbox_free (unhide XD15) 0
            have f1 := mbox_free (unhide XD15) 1
            have f2 := mbox_free (unhide XD15) 2
            have f3 := mbox_free (unhide XD15) 3
            have f4 := mbox_free (unhide XD15) 4
            have x0 := box_cell (unhide X15) 0 _ rfl
            have x1 := box_cell (unhide X15) 1 _ rfl
            have x2 := box_cell (unhide X15) 2 _ rfl
            have x3 := box_cell (unhide X15) 3 _ rfl
            have x4 := box_cell (unhide X15) 4 _ rfl
            have w14 := (Array.getElem?_eq_some_iff.1 (unhide D26')).1
            have HSN := hide (s15.later (unhide A15))
            have FF := hide (show SnAt W S h15 → (∀ ad, h15.va = some ad ∨ h15.la = some ad ∨ h15.dp = some ad → w.heap.size ≤ ad.block) → ∀ b, b = decide (X = 0) → AddR w R sp (gAdd t bs p) (.returned (.tuple #[.agg #[.int .i64 S.i, .int .i64 S.t, .slice h15.va S.v.length h15.vc, .slice h15.la S.l.length h15.lc, .slice h15.dp S.d.length h15.dc], .bool b, .int .i64 (X : Int)])) W from fun hsn hfr b hb => by
              rw [unhide E1, hb]
              refine ⟨h15, none, 0, false, tt, rfl, hsn, hfr, ⟨?_, OwnB.ofNil _ _, fun h => absurd rfl h, by omega, by simp⟩, ((unhide F26).trans (GFr.of (sp := none) (unhide U15)) (fun g e => by cases e)).new gW (Nat.le_refl _), fun g e => by cases e⟩
              exact (gW.block R (Nat.lt_of_lt_of_le (Array.getElem?_eq_some_iff.1 (unhide R26')).1 (unhide U15).size) (fun e => ra (Option.some.inj e))).trans (later_block (unhide U15) (unhide R26')))
            have FG := hide (unhide FF ((unhide HSN).far gW (fun ad e => by have := fr15 ad e; omega)) (fun ad e => by have := fr15 ad e; omega))
            clear hW hwr gW s15 v15 fr15 SG hS hX FF
            by_cases hX0 : X = 0
            · as_aux_lemma =>
              subst hX0
              have FT := hide (unhide FG true rfl)
              rw [show ((0 : Nat) : Int) = 0 from rfl] at FT ⊢
              go_wp2_with fail
              rw [unhide HW]
              go_wp2
              refine bodyPost_ret (v := .tuple #[.agg #[.int .i64 S.i, .int .i64 S.t, .slice h15.va S.v.length h15.vc, .slice h15.la S.l.length h15.lc, .slice h15.dp S.d.length h15.dc], .bool true, .int .i64 0]) (by simp [results, Tryz.results46, go_sem, r0, r1, r2, r3, r4]) rfl ?_
              exact unhide FT
            · as_aux_lemma =>
              have FT := hide (unhide FG false (by simp [hX0]))
              have e1 : ¬ (X : Int) = 0 := by omega
              have e2 : ((X : Int) == 0) = false := by simp; omega
              clear FG
              generalize (X : Int) = xi at *
              go_wp2_with fail
              rw [unhide HW]
              go_wp2
              refine bodyPost_ret (v := .tuple #[.agg #[.int .i64 S.i, .int .i64 S.t, .slice h15.va S.v.length h15.vc, .slice h15.la S.l.length h15.lc, .slice h15.dp S.d.length h15.dc], .bool false, .int .i64 xi]) (by simp [results, Tryz.results46, go_sem, r0, r1, r2, r3, r4]) rfl ?_
              exact unhide FT
      · as_aux_lemma =>
        have hp1 : ¬ (pl : Int) = 0 := by omega
        have hp2 : ((pl : Int) == 0) = false := by simp; omega
        have y3 : ((m : Int) == 0) = false := by simp; omega
        have y4 : ¬ (m : Int) = 0 := by omega
        have k0 := box_cell (unhide HG2).row 0 _ rfl
        have k1 := box_cell (unhide HG2).row 1 _ rfl
        have k2 := box_cell (unhide HG2).row 2 _ rfl
        have IS := hide (unhide HG).is
        cases bg with
        | false =>
          · as_aux_lemma =>
            have EQ := hide (gAdd_stale (t := t) (bs := bs) (unhide RD) ⟨hp0, by
              exact .inr (fun e => by by_cases hb : bs = []; (rw [hb] at e; exact hp0 e); (have := (unhide IS hb).1; cases this))⟩)
            obtain ⟨W, hwr, gW, hW⟩ := five_sets (unhide X1) (.int .i64 0) (.int .i64 0) (.slice none 0 0) (.slice none 0 0) (.slice none 0 0)
            have HW := hide hW
            have r0 := box_cell hwr 0 _ rfl
            have r1 := box_cell hwr 1 _ rfl
            have r2 := box_cell hwr 2 _ rfl
            have r3 := box_cell hwr 3 _ rfl
            have r4 := box_cell hwr 4 _ rfl
            have z0 := box_cell (unhide X1) 0 _ rfl
            have z1 := box_cell (unhide X1) 1 _ rfl
            have z2 := box_cell (unhide X1) 2 _ rfl
            have z3 := box_cell (unhide X1) 3 _ rfl
            have z4 := box_cell (unhide X1) 4 _ rfl
            have f0 := mbox_free (unhide X1) 0
            have f1 := mbox_free (unhide X1) 1
            have f2 := mbox_free (unhide X1) 2
            have f3 := mbox_free (unhide X1) 3
            have f4 := mbox_free (unhide X1) 4
            have n0 := box_cell (unhide X2) 0 _ rfl
            have n1 := box_cell (unhide X2) 1 _ rfl
            have n2 := box_cell (unhide X2) 2 _ rfl
            have n3 := box_cell (unhide X2) 3 _ rfl
            have n4 := box_cell (unhide X2) 4 _ rfl
            have FF := hide (show AddR w R sp (gAdd t bs p) (.returned (.tuple #[.agg #[.int .i64 0, .int .i64 0, .slice none 0 0, .slice none 0 0, .slice none 0 0], .bool false, .int .i64 ((12 : Nat) : Int)])) W from addR_none (unhide EQ) ((unhide HG2).far gW (by have := unhide HGL; omega) (fun e => by have := (unhide HG).own.blkLt _ e; omega)) ((unhide F2).new gW (Nat.le_refl _)) (fun g e => .inl e))
            rw [show ((12 : Nat) : Int) = 12 from rfl] at FF
            clear hW hwr gW
            go_wp2_with fail
            rw [unhide HW]
            go_wp2
            refine bodyPost_ret (v := .tuple #[.agg #[.int .i64 0, .int .i64 0, .slice none 0 0, .slice none 0 0, .slice none 0 0], .bool false, .int .i64 12]) (by simp [results, Tryz.results46, go_sem, r0, r1, r2, r3, r4]) rfl ?_
            exact unhide FF
        | true =>
          by_cases hte : tt = tot
          rotate_left
          · as_aux_lemma =>
            have e3 : ((tt : Int) == (tot : Int)) = false := by simp; omega
            have e3' : ((tt : Int) != (tot : Int)) = true := by simp; omega
            have e3'' : ¬ (tt : Int) = (tot : Int) := by omega
            have EQ := hide (gAdd_stale (t := t) (bs := bs) (unhide RD) ⟨hp0, by
              by_cases hb : bs = []; (exact .inr (fun e => by rw [hb] at e; exact hp0 e)); (exact .inl (fun e => hte (e.trans (unhide IS hb).2.symm)))⟩)
            obtain ⟨W, hwr, gW, hW⟩ := five_sets (unhide X1) (.int .i64 0) (.int .i64 0) (.slice none 0 0) (.slice none 0 0) (.slice none 0 0)
            have HW := hide hW
            have r0 := box_cell hwr 0 _ rfl
            have r1 := box_cell hwr 1 _ rfl
            have r2 := box_cell hwr 2 _ rfl
            have r3 := box_cell hwr 3 _ rfl
            have r4 := box_cell hwr 4 _ rfl
            have z0 := box_cell (unhide X1) 0 _ rfl
            have z1 := box_cell (unhide X1) 1 _ rfl
            have z2 := box_cell (unhide X1) 2 _ rfl
            have z3 := box_cell (unhide X1) 3 _ rfl
            have z4 := box_cell (unhide X1) 4 _ rfl
            have f0 := mbox_free (unhide X1) 0
            have f1 := mbox_free (unhide X1) 1
            have f2 := mbox_free (unhide X1) 2
            have f3 := mbox_free (unhide X1) 3
            have f4 := mbox_free (unhide X1) 4
            have n0 := box_cell (unhide X2) 0 _ rfl
            have n1 := box_cell (unhide X2) 1 _ rfl
            have n2 := box_cell (unhide X2) 2 _ rfl
            have n3 := box_cell (unhide X2) 3 _ rfl
            have n4 := box_cell (unhide X2) 4 _ rfl
            have FF := hide (show AddR w R sp (gAdd t bs p) (.returned (.tuple #[.agg #[.int .i64 0, .int .i64 0, .slice none 0 0, .slice none 0 0, .slice none 0 0], .bool false, .int .i64 ((12 : Nat) : Int)])) W from addR_none (unhide EQ) ((unhide HG2).far gW (by have := unhide HGL; omega) (fun e => by have := (unhide HG).own.blkLt _ e; omega)) ((unhide F2).new gW (Nat.le_refl _)) (fun g e => .inl e))
            rw [show ((12 : Nat) : Int) = 12 from rfl] at FF
            clear hW hwr gW
            go_wp2_with fail
            rw [unhide HW]
            go_wp2
            refine bodyPost_ret (v := .tuple #[.agg #[.int .i64 0, .int .i64 0, .slice none 0 0, .slice none 0 0, .slice none 0 0], .bool false, .int .i64 12]) (by simp [results, Tryz.results46, go_sem, r0, r1, r2, r3, r4]) rfl ?_
            exact unhide FF
          subst hte
          by_cases hpb : pl = bs.length
          rotate_left
          · as_aux_lemma =>
            have e4 : ((pl : Int) == (bs.length : Int)) = false := by simp; omega
            have e4' : ((pl : Int) != (bs.length : Int)) = true := by simp; omega
            have e4'' : ¬ (pl : Int) = (bs.length : Int) := by omega
            have e3 : ((tt : Int) == (tt : Int)) = true := by simp
            have e3' : ((tt : Int) != (tt : Int)) = false := by simp
            have EQ := hide (gAdd_stale (t := t) (bs := bs) (unhide RD) ⟨hp0, by
              exact .inr hpb⟩)
            obtain ⟨W, hwr, gW, hW⟩ := five_sets (unhide X1) (.int .i64 0) (.int .i64 0) (.slice none 0 0) (.slice none 0 0) (.slice none 0 0)
            have HW := hide hW
            have r0 := box_cell hwr 0 _ rfl
            have r1 := box_cell hwr 1 _ rfl
            have r2 := box_cell hwr 2 _ rfl
            have r3 := box_cell hwr 3 _ rfl
            have r4 := box_cell hwr 4 _ rfl
            have z0 := box_cell (unhide X1) 0 _ rfl
            have z1 := box_cell (unhide X1) 1 _ rfl
            have z2 := box_cell (unhide X1) 2 _ rfl
            have z3 := box_cell (unhide X1) 3 _ rfl
            have z4 := box_cell (unhide X1) 4 _ rfl
            have f0 := mbox_free (unhide X1) 0
            have f1 := mbox_free (unhide X1) 1
            have f2 := mbox_free (unhide X1) 2
            have f3 := mbox_free (unhide X1) 3
            have f4 := mbox_free (unhide X1) 4
            have n0 := box_cell (unhide X2) 0 _ rfl
            have n1 := box_cell (unhide X2) 1 _ rfl
            have n2 := box_cell (unhide X2) 2 _ rfl
            have n3 := box_cell (unhide X2) 3 _ rfl
            have n4 := box_cell (unhide X2) 4 _ rfl
            have FF := hide (show AddR w R sp (gAdd t bs p) (.returned (.tuple #[.agg #[.int .i64 0, .int .i64 0, .slice none 0 0, .slice none 0 0, .slice none 0 0], .bool false, .int .i64 ((12 : Nat) : Int)])) W from addR_none (unhide EQ) ((unhide HG2).far gW (by have := unhide HGL; omega) (fun e => by have := (unhide HG).own.blkLt _ e; omega)) ((unhide F2).new gW (Nat.le_refl _)) (fun g e => .inl e))
            rw [show ((12 : Nat) : Int) = 12 from rfl] at FF
            clear hW hwr gW
            go_wp2_with fail
            rw [unhide HW]
            go_wp2
            refine bodyPost_ret (v := .tuple #[.agg #[.int .i64 0, .int .i64 0, .slice none 0 0, .slice none 0 0, .slice none 0 0], .bool false, .int .i64 12]) (by simp [results, Tryz.results46, go_sem, r0, r1, r2, r3, r4]) rfl ?_
            exact unhide FF
          have hte : tt = t := (unhide IS (fun hb => by rw [hb] at hpb; exact hp0 hpb)).2
          subst hte
          have e4 : ((pl : Int) == (bs.length : Int)) = true := by simp; omega
          have e4' : ((pl : Int) != (bs.length : Int)) = false := by simp; omega
          have e3 : ((tt : Int) == (tt : Int)) = true := by simp
          have e3' : ((tt : Int) != (tt : Int)) = false := by simp
          have B0L := hide (unhide HG).bl
          have BSUM := hide (show bs.length + m ≤ 32768 by omega)
          have RDS := hide (show ∀ all, bs ++ p.drop k = all → (all.length < tt → gAdd tt bs p = ⟨sn0, false, 0, tt, all⟩) ∧ (¬ all.length < tt → gAdd tt bs p = ⟨snOf (snL all), decide (snX (snL all) = 0), snX (snL all), 0, []⟩) from fun all ha => ⟨fun h => gAdd_more (unhide RD) (fun q => by omega) all (by rw [if_neg hp0]; exact ha) h, fun h => gAdd_all (unhide RD) (fun q => by omega) all (by rw [if_neg hp0]; exact ha) h⟩)
          have HPB := hide hpb
          clear hpb k0 k1 k2
          by_cases hlt : bs.length + m < tt
          · as_aux_lemma =>
            have RU := hide (unhide HG2).row
            have F3 := hide (unhide F2)
            have XD3 := hide (unhide X1)
            have XN3 := hide (unhide X2)
            have hzU : W3.heap.size = W3.heap.size := rfl
            have k0 := box_cell (unhide HG2).row 0 _ rfl
            have k1 := box_cell (unhide HG2).row 1 _ rfl
            have k2 := box_cell (unhide HG2).row 2 _ rfl
            have O0 := hide (show BytesAt (W3.alloc (.cells #[] 5)) sp bs from ((unhide HG2).own.later ((Below.refl _ _).alloc (Nat.le_refl _) _)).bytes)
            have AU := hide (show Below W3.heap.size W3 (W3.alloc (.cells #[] 5)) from (Below.refl _ _).alloc (Nat.le_refl _) _)
            have OE := OwnB.empty W3 W3.heap.size (Nat.le_refl _)
            skip
            have OEE := hide OE
            have RUA := hide (later_block (unhide AU) (unhide RU))
            have XDA := hide (later_block (unhide AU) (unhide XD3))
            have XNA := hide (later_block (unhide AU) (unhide XN3))
            have FA := hide ((unhide F3).trans (GFr.of (sp := none) (unhide AU)) (fun g e => by cases e))
            have LW := hide (show w.heap.size ≤ W3.heap.size from by have := unhide SZ; omega)
            have ra : ¬ R = w.heap.size := by have := unhide HGL; omega
            have rb : ¬ w.heap.size = R := by have := unhide HGL; omega
            have rc : ¬ R = w.heap.size + 1 := by have := unhide HGL; omega
            have rd : ¬ w.heap.size + 1 = R := by have := unhide HGL; omega
            have hzA : (W3.alloc (.cells #[] 5)).heap.size = W3.heap.size + 1 := by simp
            have LA := hide (show W3.heap.size ≤ (W3.alloc (.cells #[] 5)).heap.size by rw [hzA]; omega)
            clear OE hzA
            have kU : (W3.alloc (.cells #[] 5)).cell? ⟨R, 2, none⟩ = some (.slice sp bs.length cp) := box_cell (unhide RUA) 2 _ rfl
            go_wp2_with (at_builtin; refine unhide ?_)
            refine hide ?_
            skip
            refine wpList_append8 rfl (.tmp 101) (.tmp 105) rfl W3.heap.size (some ⟨W3.heap.size, 0, none⟩) 0 0 [] rfl rfl (by exact unhide OEE) sp bs.length cp rfl bs rfl (by exact unhide O0) ((unhide HG).own.nil0) (by have := unhide B0L; simp only [List.length_nil]; omega) (by exact unhide LA) ?_
            intro sA nA cA UA hnA hoA hgA hbA
            rw [List.nil_append] at hnA hoA
            have OA := hide hoA
            have NA := hide (unhide hnA)
            have gx : Below w.heap.size (W3.alloc (.cells #[] 5)) UA := hbA.mono (unhide LW)
            have KB := hide (show ∀ j, j < W3.heap.size → UA.heap[j]? = (W3.alloc (.cells #[] 5)).heap[j]? from fun j hj => hbA.block j hj)
            have FB := hide (show GFr w UA R none from ⟨hbA.os.trans (unhide FA).os, hbA.tape.trans (unhide FA).tape, hbA.output.trans (unhide FA).output, Nat.le_trans (unhide FA).size hbA.size, fun j hj h1 h2 => (hbA.block j (by have := unhide LW; omega)).trans ((unhide FA).block j hj h1 h2)⟩)
            have RUB := hide ((hbA.block R (by have h1 := unhide HGL; have h2 := unhide LW; omega)).trans (unhide RUA))
            have XDB := hide ((hbA.block w.heap.size (by have h2 := unhide SZ; omega)).trans (unhide XDA))
            have XNB := hide ((hbA.block (w.heap.size + 1) (by have h2 := unhide SZ; omega)).trans (unhide XNA))
            have LB := hide (Nat.le_trans (unhide LA) hbA.size)
            have PU := hide (unhide PBB UA (fun ad e h0 => (unhide FB).block ad.block (unhide HAR ad e h0).2 (unhide HAR ad e h0).1 (by intro q; cases q)))
            clear hoA hnA hgA hbA gx OEE
            clear kU
            go_wp2_with (at_builtin; refine unhide ?_)
            refine hide ?_
            refine wpList_append8 rfl (.tmp 107) (.tmp 110) rfl W3.heap.size sA nA cA bs rfl (unhide NA) (by exact unhide OA) ps m cs rfl (p.drop k) (unhide PLN) (by exact unhide PU) (unhide PSZ) (by have := unhide B0L; omega) (by exact unhide LB) ?_
            intro sB nB cB UB hnB hoB hgB hbB
            have OB := hide hoB
            have NB := hide (unhide hnB)
            have FC := hide (show GFr w UB R none from ⟨hbB.os.trans (unhide FB).os, hbB.tape.trans (unhide FB).tape, hbB.output.trans (unhide FB).output, Nat.le_trans (unhide FB).size hbB.size, fun j hj h1 h2 => (hbB.block j (by have := unhide LW; omega)).trans ((unhide FB).block j hj h1 h2)⟩)
            have RUC := hide ((hbB.block R (by have h1 := unhide HGL; have h2 := unhide LW; omega)).trans (unhide RUB))
            have XDC := hide ((hbB.block w.heap.size (by have h2 := unhide SZ; omega)).trans (unhide XDB))
            have XNC := hide ((hbB.block (w.heap.size + 1) (by have h2 := unhide SZ; omega)).trans (unhide XNB))
            have LC := hide (Nat.le_trans (unhide LB) hbB.size)
            have hBn : nB = bs.length + m := by have h1 := unhide NB; rw [List.length_append, unhide PLN] at h1; (try simp only [List.length_nil] at h1); omega
            have HBN := hide hBn
            have yl : (nB : Int) < (tt : Int) := by omega
            have m0 := box_cell (unhide RUC) 0 _ rfl
            have m1 := box_cell (unhide RUC) 1 _ rfl
            have m2 := box_cell (unhide RUC) 2 _ rfl
            have mf0 := mbox_free (unhide RUC) 0
            have mf1 := mbox_free (unhide RUC) 1
            have mf2 := mbox_free (unhide RUC) 2
            have z0 := box_cell (unhide XDC) 0 _ rfl
            have z1 := box_cell (unhide XDC) 1 _ rfl
            have z2 := box_cell (unhide XDC) 2 _ rfl
            have z3 := box_cell (unhide XDC) 3 _ rfl
            have z4 := box_cell (unhide XDC) 4 _ rfl
            have f0 := mbox_free (unhide XDC) 0
            have f1 := mbox_free (unhide XDC) 1
            have f2 := mbox_free (unhide XDC) 2
            have f3 := mbox_free (unhide XDC) 3
            have f4 := mbox_free (unhide XDC) 4
            have n0 := box_cell (unhide XNC) 0 _ rfl
            have n1 := box_cell (unhide XNC) 1 _ rfl
            have n2 := box_cell (unhide XNC) 2 _ rfl
            have n3 := box_cell (unhide XNC) 3 _ rfl
            have n4 := box_cell (unhide XNC) 4 _ rfl
            clear hoB hnB hgB hbB hBn PU
            go_wp2_with fail
            obtain ⟨all, hall⟩ : ∃ all, bs ++ p.drop k = all := ⟨_, rfl⟩
            rw [hall] at OB NB
            have RE := hide (unhide RDS all hall)
            have LAL := hide (show all.length ≤ 32768 by rw [unhide NB, unhide HBN]; have := unhide BSUM; omega)
            have SB := hide (show ∀ g, blk sB = some g → blk sp = some g ∨ w.heap.size ≤ g from fun g e => .inr (by obtain ⟨ad, e1, e2⟩ := blk_adr e; have h1 := (unhide OB).adr ad e1; have h2 := unhide LW; omega))
            have NBR := hide (show blk sB ≠ some R from fun e => by obtain ⟨ad, e1, e2⟩ := blk_adr e; have h1 := (unhide OB).adr ad e1; have h2 := unhide LW; have h3 := unhide HGL; omega)
            have NBD := hide (show blk sB ≠ some w.heap.size from fun e => by obtain ⟨ad, e1, e2⟩ := blk_adr e; have h1 := (unhide OB).adr ad e1; have h2 := unhide SZ; omega)
            have E1 := hide ((unhide RE).1 (by rw [unhide NB, unhide HBN]; exact hlt))
            have gS := grown_set UB R 2 (.slice sB nB cB)
            have R24 := heap_setCell_same UB R 2 _ _ (.slice sB nB cB) (unhide RUC)
            have D24 := (gS.block w.heap.size (Array.getElem?_eq_some_iff.1 (unhide XDC)).1 (fun e => rb (Option.some.inj e))).trans (unhide XDC)
            obtain ⟨W, hwr, gW, hW⟩ := five_sets D24 (.int .i64 0) (.int .i64 0) (.slice none 0 0) (.slice none 0 0) (.slice none 0 0)
            have FF := hide (show AddR w R sp (gAdd tt bs p) (.returned (.tuple #[.agg #[.int .i64 0, .int .i64 0, .slice none 0 0, .slice none 0 0, .slice none 0 0], .bool false, .int .i64 ((0 : Nat) : Int)])) W from addR_none (bg := true) (tot := tt) (unhide E1) (RgAt.far (w := UB.setCell ⟨R, 2, none⟩ (.slice sB nB cB)) (sp := sB) (cp := cB) ⟨by rw [unhide NB]; exact R24, ((unhide OB).mono (Nat.zero_le _)).stays (fun g e => gS.block g ((unhide OB).blkLt g e) (fun q => unhide NBR (e.trans q))), fun _ => ⟨rfl, rfl⟩, by omega, unhide LAL⟩ gW rb (unhide NBD)) (((unhide FC).trans (GFr.set (sp := none) gS) (fun g e => by cases e)).new gW (Nat.le_refl _)) (unhide SB))
            rw [show ((0 : Nat) : Int) = 0 from rfl] at FF
            have r0 := box_cell hwr 0 _ rfl
            have r1 := box_cell hwr 1 _ rfl
            have r2 := box_cell hwr 2 _ rfl
            have r3 := box_cell hwr 3 _ rfl
            have r4 := box_cell hwr 4 _ rfl
            have HW := hide hW
            clear hW hwr gW gS R24 D24
            rw [unhide HW]
            refine bodyPost_ret (v := .tuple #[.agg #[.int .i64 0, .int .i64 0, .slice none 0 0, .slice none 0 0, .slice none 0 0], .bool false, .int .i64 0]) (by simp [results, Tryz.results46, go_sem, r0, r1, r2, r3, r4]) rfl ?_
            exact unhide FF
          · as_aux_lemma =>
            have RU := hide (unhide HG2).row
            have F3 := hide (unhide F2)
            have XD3 := hide (unhide X1)
            have XN3 := hide (unhide X2)
            have hzU : W3.heap.size = W3.heap.size := rfl
            have k0 := box_cell (unhide HG2).row 0 _ rfl
            have k1 := box_cell (unhide HG2).row 1 _ rfl
            have k2 := box_cell (unhide HG2).row 2 _ rfl
            have O0 := hide (show BytesAt (W3.alloc (.cells #[] 5)) sp bs from ((unhide HG2).own.later ((Below.refl _ _).alloc (Nat.le_refl _) _)).bytes)
            have AU := hide (show Below W3.heap.size W3 (W3.alloc (.cells #[] 5)) from (Below.refl _ _).alloc (Nat.le_refl _) _)
            have OE := OwnB.empty W3 W3.heap.size (Nat.le_refl _)
            skip
            have OEE := hide OE
            have RUA := hide (later_block (unhide AU) (unhide RU))
            have XDA := hide (later_block (unhide AU) (unhide XD3))
            have XNA := hide (later_block (unhide AU) (unhide XN3))
            have FA := hide ((unhide F3).trans (GFr.of (sp := none) (unhide AU)) (fun g e => by cases e))
            have LW := hide (show w.heap.size ≤ W3.heap.size from by have := unhide SZ; omega)
            have ra : ¬ R = w.heap.size := by have := unhide HGL; omega
            have rb : ¬ w.heap.size = R := by have := unhide HGL; omega
            have rc : ¬ R = w.heap.size + 1 := by have := unhide HGL; omega
            have rd : ¬ w.heap.size + 1 = R := by have := unhide HGL; omega
            have hzA : (W3.alloc (.cells #[] 5)).heap.size = W3.heap.size + 1 := by simp
            have LA := hide (show W3.heap.size ≤ (W3.alloc (.cells #[] 5)).heap.size by rw [hzA]; omega)
            clear OE hzA
            have kU : (W3.alloc (.cells #[] 5)).cell? ⟨R, 2, none⟩ = some (.slice sp bs.length cp) := box_cell (unhide RUA) 2 _ rfl
            go_wp2_with (at_builtin; refine unhide ?_)
            refine hide ?_
            skip
            refine wpList_append8 rfl (.tmp 101) (.tmp 105) rfl W3.heap.size (some ⟨W3.heap.size, 0, none⟩) 0 0 [] rfl rfl (by exact unhide OEE) sp bs.length cp rfl bs rfl (by exact unhide O0) ((unhide HG).own.nil0) (by have := unhide B0L; simp only [List.length_nil]; omega) (by exact unhide LA) ?_
            intro sA nA cA UA hnA hoA hgA hbA
            rw [List.nil_append] at hnA hoA
            have OA := hide hoA
            have NA := hide (unhide hnA)
            have gx : Below w.heap.size (W3.alloc (.cells #[] 5)) UA := hbA.mono (unhide LW)
            have KB := hide (show ∀ j, j < W3.heap.size → UA.heap[j]? = (W3.alloc (.cells #[] 5)).heap[j]? from fun j hj => hbA.block j hj)
            have FB := hide (show GFr w UA R none from ⟨hbA.os.trans (unhide FA).os, hbA.tape.trans (unhide FA).tape, hbA.output.trans (unhide FA).output, Nat.le_trans (unhide FA).size hbA.size, fun j hj h1 h2 => (hbA.block j (by have := unhide LW; omega)).trans ((unhide FA).block j hj h1 h2)⟩)
            have RUB := hide ((hbA.block R (by have h1 := unhide HGL; have h2 := unhide LW; omega)).trans (unhide RUA))
            have XDB := hide ((hbA.block w.heap.size (by have h2 := unhide SZ; omega)).trans (unhide XDA))
            have XNB := hide ((hbA.block (w.heap.size + 1) (by have h2 := unhide SZ; omega)).trans (unhide XNA))
            have LB := hide (Nat.le_trans (unhide LA) hbA.size)
            have PU := hide (unhide PBB UA (fun ad e h0 => (unhide FB).block ad.block (unhide HAR ad e h0).2 (unhide HAR ad e h0).1 (by intro q; cases q)))
            clear hoA hnA hgA hbA gx OEE
            clear kU
            go_wp2_with (at_builtin; refine unhide ?_)
            refine hide ?_
            refine wpList_append8 rfl (.tmp 107) (.tmp 110) rfl W3.heap.size sA nA cA bs rfl (unhide NA) (by exact unhide OA) ps m cs rfl (p.drop k) (unhide PLN) (by exact unhide PU) (unhide PSZ) (by have := unhide B0L; omega) (by exact unhide LB) ?_
            intro sB nB cB UB hnB hoB hgB hbB
            have OB := hide hoB
            have NB := hide (unhide hnB)
            have FC := hide (show GFr w UB R none from ⟨hbB.os.trans (unhide FB).os, hbB.tape.trans (unhide FB).tape, hbB.output.trans (unhide FB).output, Nat.le_trans (unhide FB).size hbB.size, fun j hj h1 h2 => (hbB.block j (by have := unhide LW; omega)).trans ((unhide FB).block j hj h1 h2)⟩)
            have RUC := hide ((hbB.block R (by have h1 := unhide HGL; have h2 := unhide LW; omega)).trans (unhide RUB))
            have XDC := hide ((hbB.block w.heap.size (by have h2 := unhide SZ; omega)).trans (unhide XDB))
            have XNC := hide ((hbB.block (w.heap.size + 1) (by have h2 := unhide SZ; omega)).trans (unhide XNB))
            have LC := hide (Nat.le_trans (unhide LB) hbB.size)
            have hBn : nB = bs.length + m := by have h1 := unhide NB; rw [List.length_append, unhide PLN] at h1; (try simp only [List.length_nil] at h1); omega
            have HBN := hide hBn
            have yl : ¬ (nB : Int) < (tt : Int) := by omega
            have m0 := box_cell (unhide RUC) 0 _ rfl
            have m1 := box_cell (unhide RUC) 1 _ rfl
            have m2 := box_cell (unhide RUC) 2 _ rfl
            have mf0 := mbox_free (unhide RUC) 0
            have mf1 := mbox_free (unhide RUC) 1
            have mf2 := mbox_free (unhide RUC) 2
            clear hoB hnB hgB hbB hBn PU
            go_wp2_with fail
            obtain ⟨all, hall⟩ : ∃ all, bs ++ p.drop k = all := ⟨_, rfl⟩
            rw [hall] at OB NB
            have RE := hide (unhide RDS all hall)
            have LAL := hide (show all.length ≤ 32768 by rw [unhide NB, unhide HBN]; have := unhide BSUM; omega)
            have SB := hide (show ∀ g, blk sB = some g → blk sp = some g ∨ w.heap.size ≤ g from fun g e => .inr (by obtain ⟨ad, e1, e2⟩ := blk_adr e; have h1 := (unhide OB).adr ad e1; have h2 := unhide LW; omega))
            have NBR := hide (show blk sB ≠ some R from fun e => by obtain ⟨ad, e1, e2⟩ := blk_adr e; have h1 := (unhide OB).adr ad e1; have h2 := unhide LW; have h3 := unhide HGL; omega)
            have NBD := hide (show blk sB ≠ some w.heap.size from fun e => by obtain ⟨ad, e1, e2⟩ := blk_adr e; have h1 := (unhide OB).adr ad e1; have h2 := unhide SZ; omega)
            have E1 := hide ((unhide RE).2 (by rw [unhide NB, unhide HBN]; exact hlt))
            have gS0 := grown_set UB R 0 (.bool false)
            have R25 := heap_setCell_same UB R 0 _ _ (.bool false) (unhide RUC)
            have gS1 := grown_set (UB.setCell ⟨R, 0, none⟩ (.bool false)) R 2 (.slice none 0 0)
            have R26 := heap_setCell_same _ R 2 _ _ (.slice none 0 0) R25
            have gS := grown_trans gS0 gS1
            have O26 := ((unhide OB).mono (Nat.zero_le _)).stays (w' := (UB.setCell ⟨R, 0, none⟩ (.bool false)).setCell ⟨R, 2, none⟩ (.slice none 0 0)) (fun g e => gS.block g ((unhide OB).blkLt g e) (fun q => unhide NBR (e.trans q)))
            have D26 := (gS.block w.heap.size (Array.getElem?_eq_some_iff.1 (unhide XDC)).1 (fun e => rb (Option.some.inj e))).trans (unhide XDC)
            have F26 := hide ((unhide FC).trans (GFr.set (sp := none) gS) (fun g e => by cases e))
            have O26' := hide O26
            have D26' := hide D26
            have R26' := hide R26
            clear gS0 gS1 gS R25 R26 O26 D26 m0 m1 m2 mf0 mf1 mf2
            generalize (UB.setCell ⟨R, 0, none⟩ (.bool false)).setCell ⟨R, 2, none⟩ (.slice none 0 0) = W26 at *
            have SG := hide (rgetS_calls sB nB cB all W26 (unhide NB) (by have := (unhide O26').cap.1; rw [unhide NB] at this; exact this) (by have := unhide LAL; rw [unhide NB] at this; omega) (unhide O26').nil0 (unhide O26').bytes)
            go_at_call 20
            refine (unhide SG).mono ?_
            rintro e V15 ⟨h15, rfl, s15, v15, fr15⟩
            obtain ⟨S, hS⟩ : ∃ S, snOf (snL all) = S := ⟨_, rfl⟩
            obtain ⟨X, hX⟩ : ∃ X : Nat, snX (snL all) = X := ⟨_, rfl⟩
            rw [hS, hX] at E1
            rw [hS] at s15
            rw [hS, hX]
            unfold snRow
            have A15 := hide (show Below V15.heap.size V15 (V15.alloc (.cells #[.int .i64 S.i, .int .i64 S.t, .slice h15.va S.v.length h15.vc, .slice h15.la S.l.length h15.lc, .slice h15.dp S.d.length h15.dc] 29)) from (Below.refl _ _).alloc (Nat.le_refl _) _)
            have X15 := hide (heap_new V15 (.cells #[.int .i64 S.i, .int .i64 S.t, .slice h15.va S.v.length h15.vc, .slice h15.la S.l.length h15.lc, .slice h15.dp S.d.length h15.dc] 29))
            have U15 := hide (v15.trans ((unhide A15).mono v15.size))
            have XD15 := hide (later_block (unhide U15) (unhide D26'))
            obtain ⟨W, hwr, gW, hW⟩ := five_sets (unhide XD15) (.int .i64 S.i) (.int .i64 S.t) (.slice h15.va S.v.length h15.vc) (.slice h15.la S.l.length h15.lc) (.slice h15.dp S.d.length h15.dc)
            have HW := hide hW
            have r0 := box_cell hwr 0 _ rfl
            have r1 := box_cell hwr 1 _ rfl
            have r2 := box_cell hwr 2 _ rfl
            have r3 := box_cell hwr 3 _ rfl
            have r4 := box_cell hwr 4 _ rfl
            have z0 := box_cell (unhide XD15) 0 _ rfl
            have z1 := box_cell (unhide XD15) 1 _ rfl
            have z2 := box_cell (unhide XD15) 2 _ rfl
            have z3 := box_cell (unhide XD15) 3 _ rfl
            have z4 := box_cell (unhide XD15) 4 _ rfl
            have f0 := mbox_free (unhide XD15) 0
            have f1 := mbox_free (unhide XD15) 1
            have f2 := mbox_free (unhide XD15) 2
            have f3 := mbox_free (unhide XD15) 3
            have f4 := mbox_free (unhide XD15) 4
            have x0 := box_cell (unhide X15) 0 _ rfl
            have x1 := box_cell (unhide X15) 1 _ rfl
            have x2 := box_cell (unhide X15) 2 _ rfl
            have x3 := box_cell (unhide X15) 3 _ rfl
            have x4 := box_cell (unhide X15) 4 _ rfl
            have w14 := (Array.getElem?_eq_some_iff.1 (unhide D26')).1
            have HSN := hide (s15.later (unhide A15))
            have FF := hide (show SnAt W S h15 → (∀ ad, h15.va = some ad ∨ h15.la = some ad ∨ h15.dp = some ad → w.heap.size ≤ ad.block) → ∀ b, b = decide (X = 0) → AddR w R sp (gAdd tt bs p) (.returned (.tuple #[.agg #[.int .i64 S.i, .int .i64 S.t, .slice h15.va S.v.length h15.vc, .slice h15.la S.l.length h15.lc, .slice h15.dp S.d.length h15.dc], .bool b, .int .i64 (X : Int)])) W from fun hsn hfr b hb => by
              rw [unhide E1, hb]
              refine ⟨h15, none, 0, false, tt, rfl, hsn, hfr, ⟨?_, OwnB.ofNil _ _, fun h => absurd rfl h, by omega, by simp⟩, ((unhide F26).trans (GFr.of (sp := none) (unhide U15)) (fun g e => by cases e)).new gW (Nat.le_refl _), fun g e => by cases e⟩
              exact (gW.block R (Nat.lt_of_lt_of_le (Array.getElem?_eq_some_iff.1 (unhide R26')).1 (unhide U15).size) (fun e => ra (Option.some.inj e))).trans (later_block (unhide U15) (unhide R26')))
            have FG := hide (unhide FF ((unhide HSN).far gW (fun ad e => by have := fr15 ad e; omega)) (fun ad e => by have := fr15 ad e; omega))
            clear hW hwr gW s15 v15 fr15 SG hS hX FF
            by_cases hX0 : X = 0
            · as_aux_lemma =>
              subst hX0
              have FT := hide (unhide FG true rfl)
              rw [show ((0 : Nat) : Int) = 0 from rfl] at FT ⊢
              go_wp2_with fail
              rw [unhide HW]
              go_wp2
              refine bodyPost_ret (v := .tuple #[.agg #[.int .i64 S.i, .int .i64 S.t, .slice h15.va S.v.length h15.vc, .slice h15.la S.l.length h15.lc, .slice h15.dp S.d.length h15.dc], .bool true, .int .i64 0]) (by simp [results, Tryz.results46, go_sem, r0, r1, r2, r3, r4]) rfl ?_
              exact unhide FT
            · as_aux_lemma =>
              have FT := hide (unhide FG false (by simp [hX0]))
              have e1 : ¬ (X : Int) = 0 := by omega
              have e2 : ((X : Int) == 0) = false := by simp; omega
              clear FG
              generalize (X : Int) = xi at *
              go_wp2_with fail
              rw [unhide HW]
              go_wp2
              refine bodyPost_ret (v := .tuple #[.agg #[.int .i64 S.i, .int .i64 S.t, .slice h15.va S.v.length h15.vc, .slice h15.la S.l.length h15.lc, .slice h15.dp S.d.length h15.dc], .bool false, .int .i64 xi]) (by simp [results, Tryz.results46, go_sem, r0, r1, r2, r3, r4]) rfl ?_
              exact unhide FT
end Go.Proofs.YtagncghpfdjkmaaGreatDoor
