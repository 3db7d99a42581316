/- Flight: Take. -/
import Derived.Test.YticemhnfcelpmaaFl10
namespace Go.Proofs.Yticemhnfcelpmaa
open Go.ChangeShapes Go.WideShapes Go.ChangeAt Go.RowKit Go.Maps

def sameId (id : Int) (p : Pkt) : Bool := decide (p.1 = id)
theorem take_picks (B : Nat) (x0 : Pkt × Hdl) : Picker 25 #[.pointer (some ⟨B, 0, none⟩)] (sameId x0.1.1) B (.cells (pkRow x0).toArray 35) := by
  refine ⟨enter_take, fun x w hB => ?_⟩
  obtain ⟨⟨id, f', t', l⟩, dp, dc⟩ := x
  have h0 := heap_new w (.cells #[.int .i64 id, .int .i64 f', .int .i64 t', .slice dp l.length dc] 35)
  have c0 := box_cell h0 0 _ rfl
  have bA := hide (show Below w.heap.size w (w.alloc (.cells #[.int .i64 id, .int .i64 f', .int .i64 t', .slice dp l.length dc] 35)) from (Below.refl _ _).alloc (Nat.le_refl _) _)
  have hB' := later_block (unhide bA) hB
  have d0 := box_cell hB' 0 (.int .i64 x0.1.1) rfl
  clear h0 hB hB'
  go_enter Try.func25, Try.ntmps25
  go_wp2_with fail
  first | go_region | skip
  go_wp2
  go_ret
  refine ⟨?_, ?_⟩
  · simp [sameId, BEq.beq]
  · exact unhide bA
section
variable {base : Nat} {w : World} {N M n : Nat} {sp : Option Addr} {c : Nat} {xs : List (Pkt × Hdl)} {last : Int} {S : Int → Int → Bool} {ck : List Int}
abbrev zPk : Obj := .cells #[.int .i64 0, .int .i64 0, .int .i64 0, .slice none 0 0] 35
set_option maxHeartbeats 1000000 in
theorem take_no (h : NetAt base w N M n sp c xs last S ck) (i : Int) (hi : hasP xs i = false) : Calls Try.prog 8 #[.pointer (some ⟨N, 0, none⟩), .int .i64 i] w fun e w' => e = .returned (.tuple #[.agg #[.int .i64 0, .int .i64 0, .int .i64 0, .slice none 0 0], .int .i64 8]) ∧ Below w.heap.size w w' := by
  have h0 := heap_new w zPk
  have z0 := box_cell h0 0 _ rfl
  have z1 := box_cell h0 1 _ rfl
  have z2 := box_cell h0 2 _ rfl
  have z3 := box_cell h0 3 _ rfl
  have fz := box_free h0
  have bA := hide (show Below w.heap.size w (w.alloc zPk) from (Below.refl _ _).alloc (Nat.le_refl _) _)
  have H := hide (h.later (unhide bA))
  clear h0 h
  go_enter Try.func8, Try.ntmps8
  go_wp2_with fail
  refine (has_calls (unhide H) i).mono ?_
  rintro e W1 ⟨rfl, rfl⟩
  rw [hi]
  go_wp2
  refine bodyPost_ret (v := .tuple #[.agg #[.int .i64 0, .int .i64 0, .int .i64 0, .slice none 0 0], .int .i64 8]) (by simp [results, Try.results8, go_sem, z0, z1, z2, z3]) rfl ?_
  exact ⟨rfl, unhide bA⟩
/-- A block that is none of the net's. -/
theorem net_apart {w' : World} {j : Nat} (h : NetAt base w N M n sp c xs last S ck) (hg : w.grownBy w' (some j)) (h1 : N ≠ j) (h2 : M ≠ j) (h3 : blk sp ≠ some j) (h4 : ∀ x ∈ xs, ∀ g, blk x.2.1 = some g → some j ≠ some g) : NetAt base w' N M n sp c xs last S ck := by
  obtain ⟨D, hD, hS⟩ := h.map
  exact ⟨grown_block hg h.blk h1, (show OwnP base w.heap.size w' sp c xs from ⟨ownsRow_grownNe h.own.row hg (fun g hs e => h3 (hs.trans e.symm)), h.own.dat.grownNe hg h4⟩).tight, ⟨D, hD.kept hg (fun e => h2 (Option.some.inj e)), hS⟩, h.lowN, h.lowM, h.nine⟩
theorem ngrew_new {w1 w2 : World} {sp' : Option Addr} {j : Nat} (h : NGrew N M w sp w1 sp') (k : w1.grownBy w2 (some j)) (hj : w.heap.size ≤ j) : NGrew N M w sp w2 sp' :=
  ⟨k.os.trans h.os, k.tape.trans h.tape, k.output.trans h.output, Nat.le_trans h.size k.size, fun i hi a b c => (k.block i (Nat.lt_of_lt_of_le hi h.size) (fun e => by have := Option.some.inj e; omega)).trans (h.block i hi a b c), h.lies⟩
theorem four_laid {w : World} {j : Nat} {y0 y1 y2 y3 x0 x1 x2 x3 : Value} {T : TypeId} (h : w.heap[j]? = some (.cells #[y0, y1, y2, y3] T (0, 0))) :
    ((((w.setCell ⟨j, 0, none⟩ x0).setCell ⟨j, 1, none⟩ x1).setCell ⟨j, 2, none⟩ x2).setCell ⟨j, 3, none⟩ x3).heap[j]? = some (.cells #[x0, x1, x2, x3] T (0, 0)) ∧ w.grownBy ((((w.setCell ⟨j, 0, none⟩ x0).setCell ⟨j, 1, none⟩ x1).setCell ⟨j, 2, none⟩ x2).setCell ⟨j, 3, none⟩ x3) (some j) := by
  have h0 := heap_setCell_same w j 0 _ T x0 h
  have h1 := heap_setCell_same _ j 1 _ T x1 h0
  have h2 := heap_setCell_same _ j 2 _ T x2 h1
  have h3 := heap_setCell_same _ j 3 _ T x3 h2
  exact ⟨by simpa using h3, grown_trans (grown_trans (grown_trans (grown_set _ _ _ _) (grown_set _ _ _ _)) (grown_set _ _ _ _)) (grown_set _ _ _ _)⟩
set_option maxRecDepth 20000 in
set_option maxHeartbeats 4000000 in
theorem take_yes (h : NetAt base w N M n sp c xs last S ck) (i : Nat) (hi : i < xs.length) (hx : xs.length ≤ 1000) : Calls Try.prog 8 #[.pointer (some ⟨N, 0, none⟩), .int .i64 (i : Int)] w fun e w' => e = .returned (.tuple #[pkV xs[i], .int .i64 0]) ∧ NetAt base w' N M n sp c (keep (sameId xs[i].1.1) xs) last S ck ∧ NGrew N M w sp w' sp := by
  have hP : hasP xs i = true := by simp [hasP, hi]
  have b0 : Below w.heap.size w (w.alloc zPk) := (Below.refl _ _).alloc (Nat.le_refl _) _
  have h0 := h.later b0
  have X0 := hide (heap_new w zPk)
  obtain ⟨g, rfl, p0, p1, p2, p3⟩ := h0.own.cell i hi
  have d0 := h0.c0
  have H0 := hide h0
  have B0 := hide b0
  have hS0 := hide (size_alloc w zPk)
  have H := hide h
  clear h h0 b0
  have PK := hide (fun B => take_picks B xs[i])
  generalize xs[i] = x at *
  obtain ⟨⟨id, f, t, l⟩, dp, dc⟩ := x
  simp only at p0 p1 p2 p3 PK
  have hj0 : (0 : Int) ≤ (i : Int) := by omega
  have hj1 : (i : Int) < (xs.length : Int) := by omega
  go_enter Try.func8, Try.ntmps8
  have hmf : ∀ (fn : Fn) (first cap : Array Value) (w : World), (Instr.makeFunc fn first cap).run Try.prog w = .ok (.func fn first cap) w := fun _ _ _ _ => rfl
  go_wp2_with fail
  generalize w.alloc zPk = W0 at *
  refine (has_calls (unhide H0) i).mono ?_
  rintro e W1 ⟨rfl, rfl⟩
  rw [hP]
  have bA := hide (show Below W1.heap.size W1 (W1.alloc (.cells #[.int .i64 id, .int .i64 f, .int .i64 t, .slice dp l.length dc] 35)) from (Below.refl _ _).alloc (Nat.le_refl _) _)
  have XA := hide (show (W1.alloc (.cells #[.int .i64 id, .int .i64 f, .int .i64 t, .slice dp l.length dc] 35)).heap[W1.heap.size]? = some (.cells #[.int .i64 id, .int .i64 f, .int .i64 t, .slice dp l.length dc] 35) from heap_new W1 _)
  go_wp2_with fail
  have H2 := hide ((unhide H0).later (unhide bA))
  have X2 := hide (later_block (unhide bA) (unhide X0))
  generalize W1.alloc (.cells #[.int .i64 id, .int .i64 f, .int .i64 t, .slice dp l.length dc] 35) = W2 at *
  have hlt := hide ((unhide H).own.blk_ge g rfl).2
  have hs1 := unhide hS0
  refine (lose_calls (unhide H2) hx (unhide PK W1.heap.size) (unhide XA) (fun e => by
    have e' : g = W1.heap.size := (Option.some.inj e)
    have := unhide hlt
    omega)).mono ?_
  rintro e W3 ⟨rfl, h3, g3⟩
  have hN := (unhide H).ltN
  have hM : M < w.heap.size := by obtain ⟨D, hD, _⟩ := (unhide H).map; exact hD.lt
  have hgl := unhide hlt
  have X3 := hide ((g3.block w.heap.size (Array.getElem?_eq_some_iff.1 (unhide X2)).1 (by omega) (by omega) (fun e => by
    have e' : w.heap.size = g := (Option.some.inj e)
    omega)).trans (unhide X2))
  have XB := hide ((g3.block W1.heap.size (Array.getElem?_eq_some_iff.1 (unhide XA)).1 (by omega) (by omega) (fun e => by
    have e' : W1.heap.size = g := (Option.some.inj e)
    omega)).trans (unhide XA))
  obtain ⟨q0, q1, q2, q3⟩ := packet_cells (x := ((id, f, t, l), (dp, dc))) (unhide XB)
  simp only at q0 q1 q2 q3
  rw [hs1] at q0 q1 q2 q3
  have z0 := box_cell (unhide X3) 0 _ rfl
  have z1 := box_cell (unhide X3) 1 _ rfl
  have z2 := box_cell (unhide X3) 2 _ rfl
  have z3 := box_cell (unhide X3) 3 _ rfl
  have fz := box_free (unhide X3)
  have hne : w.heap.size ≠ W1.heap.size := by omega
  have H3 := hide h3
  have G3 := hide (((NGrew.ofBelow (N := N) (M := M) (sp := some ⟨g, 0, none⟩) (unhide B0)).trans (NGrew.ofBelow (unhide bA))).trans g3)
  clear h3 g3 p0 p1 p2 p3 d0
  go_wp2_with fail
  obtain ⟨q6, s7⟩ := four_laid (x0 := .int .i64 id) (x1 := .int .i64 f) (x2 := .int .i64 t) (x3 := .slice dp l.length dc) (unhide X3)
  obtain ⟨y0, y1, y2, y3⟩ := packet_cells (x := ((id, f, t, l), (dp, dc))) q6
  simp only at y0 y1 y2 y3
  refine bodyPost_ret (v := .tuple #[.agg #[.int .i64 id, .int .i64 f, .int .i64 t, .slice dp l.length dc], .int .i64 0]) (by simp [results, Try.results8, go_sem, y0, y1, y2, y3]) rfl ?_
  have hdat := hide (show ∀ x ∈ xs, ∀ g', blk x.2.1 = some g' → g' < w.heap.size from fun x hx' g' hg' => ((unhide H).own.dat.own x hx').2 g' hg')
  refine ⟨rfl, net_apart (unhide H3) s7 (by omega) (by omega) (fun e => by
    have e' : g = w.heap.size := Option.some.inj e
    omega) (fun x hx' g' hg' e => by
    have := unhide hdat x (List.mem_filter.1 (show x ∈ xs.filter _ from hx')).1 g' hg'
    have := Option.some.inj e
    omega), ngrew_new (unhide G3) s7 (Nat.le_refl _)⟩
end
end Go.Proofs.Yticemhnfcelpmaa
