/- Flight: what the law's do needs: a byte of one's own is changed; a deed in its room. -/
import Derived.Test.YticemhnfcelpmaaTw2
import Derived.Test.YticemhnfcelpmaaFl16
import Derived.Laws.BitsAllLaws
namespace Go.Proofs.Yticemhnfcelpmaa
open Go.ChangeShapes Go.WideShapes Go.ChangeAt Go.RowKit Go.Maps

abbrev dB (kd f t i : Int) (dp : Option Addr) (m dc : Nat) : Obj := .cells #[.int .i64 kd, .int .i64 f, .int .i64 t, .int .i64 i, .slice dp m dc] 30 (0, 0)
theorem dB_cells {w : World} {D : Nat} {kd f t i : Int} {dp : Option Addr} {m dc : Nat} (h : w.heap[D]? = some (dB kd f t i dp m dc)) : w.cell? ⟨D, 0, none⟩ = some (.int .i64 kd) ∧ w.cell? ⟨D, 1, none⟩ = some (.int .i64 f) ∧ w.cell? ⟨D, 2, none⟩ = some (.int .i64 t) ∧ w.cell? ⟨D, 3, none⟩ = some (.int .i64 i) ∧ w.cell? ⟨D, 4, none⟩ = some (.slice dp m dc) :=
  ⟨box_cell h 0 _ rfl, box_cell h 1 _ rfl, box_cell h 2 _ rfl, box_cell h 3 _ rfl, box_cell h 4 _ rfl⟩
theorem OwnB.setAt {base : Nat} {w : World} {sp : Option Addr} {c : Nat} {l : List Nat} (h : OwnB base w sp c l) (j : Nat) (hj : j < l.length) (y : Nat) (hy : y < 256) : ∃ g, sp = some ⟨g, 0, none⟩ ∧ base ≤ g ∧ w.cell? ⟨g, j, none⟩ = some (.int .u8 ((l.getD j 0 : Nat) : Int)) ∧ w.frozen? ⟨g, j, none⟩ = false ∧ OwnB base (w.setCell ⟨g, j, none⟩ (.int .u8 (y : Int))) sp c (l.set j y) ∧ w.grownBy (w.setCell ⟨g, j, none⟩ (.int .u8 (y : Int))) (some g) ∧ (w.setCell ⟨g, j, none⟩ (.int .u8 (y : Int))).heap.size = w.heap.size := by
  obtain ⟨b, off, hsp, hcell⟩ := h.bytes.cell j hj
  obtain ⟨g1, cap, cur, hv, hbg, hh, hle, hmx, hsz, htk⟩ := h.owns.2.resolve_left (fun e => by have := e.2; omega)
  simp only [Value.slice.injEq] at hv
  obtain ⟨rfl, _, rfl⟩ := hv
  simp only [Option.some.injEq, Addr.mk.injEq, and_true] at hsp
  obtain ⟨rfl, rfl⟩ := hsp
  rw [Nat.zero_add] at hcell
  obtain ⟨cl⟩ := cur
  have htk1 : cl.take (l.length * 1) = l.map byteV := htk
  rw [Nat.mul_one] at htk1
  have hsz1 : cl.length = c * 1 := hsz
  refine ⟨g1, rfl, hbg, hcell, box_free hh j, ⟨⟨by rw [List.length_map, Nat.mul_one], .inr ⟨g1, c, (cl.set j (.int .u8 (y : Int))).toArray, by rw [List.length_set], hbg, row_set hh _ _, by rw [List.length_set]; exact hle, hmx, by simpa using hsz, ?_⟩⟩, ?_⟩, grown_set _ _ _ _, by simp⟩
  · rw [List.length_set, Nat.mul_one, List.toList_toArray, List.take_set, htk1, List.map_set]
    rfl
  · intro x hx
    rcases List.mem_or_eq_of_mem_set hx with h1 | h1
    · exact h.lt x h1
    · rw [h1]; exact hy
theorem xor_byte (x k : Nat) (hx : x < 256) (hk : k < 256) : ∃ y : Nat, bits .xor .u8 (x : Int) (k : Int) = (y : Int) ∧ y < 256 := ⟨x ^^^ k, u8_xor_nat x k hx hk, Nat.xor_lt_two_pow (n := 8) hx hk⟩
theorem OwnB.getLt {base : Nat} {w : World} {sp : Option Addr} {c : Nat} {l : List Nat} (h : OwnB base w sp c l) (j : Nat) (hj : j < l.length) : l.getD j 0 < 256 := by
  rw [List.getD_eq_getElem?_getD, List.getElem?_eq_getElem hj]
  exact h.lt _ (List.getElem_mem hj)
section
variable {base : Nat} {w : World} {N M R : Nat} {s r : FS} {Av : Nat → Prop}
/-- What lies in neither net may be changed. -/
theorem Two.far {w' : World} (h : Two base w N M R s r Av) {g : Nat} (hA : Av g) (hg : w.grownBy w' (some g)) {cs : Array Value} (hT : w.heap[g]? = some (.cells cs 5 (0, 0))) : Two base w' N M R s r Av := by
  obtain ⟨n, sp, c, xs, sr, cr, zs, pa, kr, h⟩ := h
  obtain ⟨es, k, hM⟩ := h.net.blkM
  refine ⟨n, sp, c, xs, sr, cr, zs, pa, kr, { h with net := ?_, ref := ?_, avL := fun g1 h1 => Nat.lt_of_lt_of_le (h.avL g1 h1) hg.size }⟩
  · refine net_apart h.net hg (fun e => ?_) (fun e => ?_) (fun e => ?_) (fun x hx g1 hg1 e => ?_)
    · have := h.net.blk
      rw [e, hT] at this
      simp at this
    · rw [e, hT] at hM
      simp at hM
    · exact h.net.own.ne_block hT (by decide) e
    · exact h.avN x hx g1 hg1 (by rw [← Option.some.inj e]; exact hA)
  · refine ref_apart h.ref hg (fun e => ?_) (fun e => ?_) (fun z hz g1 hg1 e => ?_)
    · have := h.ref.blk
      rw [e, hT] at this
      simp at this
    · exact h.ref.own.ne_block hT (by decide) e
    · exact h.avR z hz g1 hg1 (by rw [← Option.some.inj e]; exact hA)
theorem Two.drew (h : Two base w N M R s r Av) : Two base w.drew N M R s r Av := by
  obtain ⟨n, sp, c, xs, sr, cr, zs, pa, kr, h⟩ := h
  exact ⟨n, sp, c, xs, sr, cr, zs, pa, kr, { h with net := h.net.drew, ref := h.ref.drew, avL := h.avL }⟩
theorem RowQ.steps {b0 : Nat} {X : List TypeId} {w' : World} {sp : Option Addr} {c : Nat} {ys : List (Pkt × Hdl)} (h : RowQ b0 w sp c ys) (k : Stp base X Av w w') (hA : ∀ g, blk sp = some g → Av g) (hX : 5 ∉ X) : RowQ b0 w' sp c ys :=
  ⟨ownsRow_blk h.row (fun g hg => k.av g (hA g hg)), fun y hy => (h.dat y hy).steps k hX⟩
theorem BytesAt.of0 {W0 w : World} {dp : Option Addr} {l : List Nat} (hb : BytesAt W0 dp l) (h : Below W0.heap.size W0 w) : BytesAt w dp l := hb.later h
end
end Go.Proofs.Yticemhnfcelpmaa
