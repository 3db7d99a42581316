/- A deed on both disks. -/
import Derived.Test.YtghdiemihceaoaaDtw
import Derived.Test.YtghdiemihceaoaaDkn
namespace Go.Proofs.Ytghdiemihceaoaa
open Go.ChangeShapes Go.WideShapes Go.ChangeAt Go.RowKit Go.Maps

/-- What a deed does to a disk, by the document. -/
def dDo (room : Nat) (e : De) (ss : Ds) : Ds :=
  if e.kind = 0 then (dWrite room e.name.data.toList e.at_ e.bs ss).2 else
  if e.kind = 1 then (dCut e.name.data.toList e.at_ ss).2 else
  if e.kind = 2 then (dSync e.name.data.toList ss).2 else
  if e.kind = 3 then (dRename e.name.data.toList e.to.data.toList ss).2 else
  if e.kind = 4 then (dRemove e.name.data.toList ss).2 else
  if e.kind = 5 then crashS e.keep 0 ss else ss
/-- A deed that lies below base. -/
structure DeLow (base : Nat) (w : World) (e : De) (h : DeH) : Prop where
  at_ : ∀ W, Below base w W → DeAt W e h
  lb : ∀ b off, h.bp = some ⟨b, off, none⟩ → 0 < e.bs.length → b < base
  lk : ∀ b off, h.kp = some ⟨b, off, none⟩ → 0 < e.keep.length → b < base
theorem DeLow.below {base : Nat} {w w' : World} {e : De} {h : DeH} (x : DeLow base w e h) (hb : Below base w w') : DeLow base w' e h := ⟨fun W hW => x.at_ W (hb.trans hW), x.lb, x.lk⟩
theorem BytesAt.lowB {w : World} {a : Option Addr} {l : List Nat} (h : BytesAt w a l) (b off : Nat) (e : a = some ⟨b, off, none⟩) (h0 : 0 < l.length) : b < w.heap.size := by
  obtain ⟨b', off', e', hc⟩ := h.cell 0 h0
  rw [e] at e'
  simp only [Option.some.injEq, Addr.mk.injEq] at e'
  obtain ⟨rfl, rfl, _⟩ := e'
  exact World.block_lt_of_cell? _ _ hc
theorem IntsAt.lowB {w : World} {a : Option Addr} {l : List Int} (h : IntsAt w a l) (b off : Nat) (e : a = some ⟨b, off, none⟩) (h0 : 0 < l.length) : b < w.heap.size := by
  obtain ⟨b', off', e', hc⟩ := h.cell 0 h0
  rw [e] at e'
  simp only [Option.some.injEq, Addr.mk.injEq] at e'
  obtain ⟨rfl, rfl, _⟩ := e'
  exact World.block_lt_of_cell? _ _ hc
theorem DeLow.of {w : World} {e : De} {h : DeH} (x : DeAt w e h) : DeLow w.heap.size w e h := ⟨fun _ hb => x.later hb, fun b off e' h0 => x.by_.lowB b off e' h0, fun b off e' h0 => x.ks.lowB b off e' h0⟩
section
variable {base d M R room N : Nat} {B : List Nat} {w w' : World} {ss tt : Ds}
theorem Two.keeps (h : Two base B w d M R room N ss tt) (hb : Below w.heap.size w w') : Keeps base B w w' := by
  obtain ⟨fs, sp, c, rs, h, _⟩ := h
  refine ⟨hb.os, hb.tape, hb.output, hb.size, fun g hg => hb.block g ?_⟩
  rcases hg with hg | hg
  · exact Nat.lt_of_lt_of_le hg h.le
  · exact (h.aside g hg).1
def DoEnd (base : Nat) (B : List Nat) (d M R room N : Nat) (w : World) (ss : Ds) (r : Ending) (w' : World) : Prop := r = .returned (.bool true) ∧ Two base B w' d M R room N ss ss ∧ Keeps base B w w'
end
end Go.Proofs.Ytghdiemihceaoaa
