/- What one block's change leaves as it was. -/
import Derived.Test.YtmjojfngdfnababAid
import Derived.Test.YtmjojfngdfnababRefAll
namespace Go.Proofs.Ytmjojfngdfnabab
open Go.ChangeShapes Go.WideShapes Go.ChangeAt Go.RowKit

theorem grown_refl (w : World) (row : Option Nat) : w.grownBy w row := ⟨rfl, rfl, rfl, Nat.le_refl _, fun _ _ _ => rfl⟩
theorem grown_trans {a b c : World} {row : Option Nat} (h : a.grownBy b row) (k : b.grownBy c row) : a.grownBy c row :=
  ⟨k.os.trans h.os, k.tape.trans h.tape, k.output.trans h.output, Nat.le_trans h.size k.size, fun i hi hne => (k.block i (Nat.lt_of_lt_of_le hi h.size) hne).trans (h.block i hi hne)⟩
theorem grown_below {a b : World} (row : Option Nat) (h : Below a.heap.size a b) : a.grownBy b row := ⟨h.os, h.tape, h.output, h.size, fun i hi _ => h.block i hi⟩
theorem grown_set (w : World) (j k : Nat) (v : Value) : w.grownBy (w.setCell ⟨j, k, none⟩ v) (some j) :=
  ⟨rfl, rfl, rfl, by simp [World.setCell], fun i _ hne => heap_setCell_other w ⟨j, k, none⟩ i v (fun e => hne (by rw [e]))⟩
theorem BytesAt.far {w w' : World} {a : Option Addr} {l : List Nat} {j : Nat} (hb : BytesAt w a l) (hg : w.grownBy w' (some j)) (hne : ∀ b off, a = some ⟨b, off, none⟩ → b ≠ j) : BytesAt w' a l := by
  refine ⟨hb.lt, fun i hi => ?_⟩
  obtain ⟨b, off, h1, h2⟩ := hb.cell i hi
  refine ⟨b, off, h1, ?_⟩
  rw [hg.cell_far ⟨b, off + i, none⟩ (World.block_lt_of_cell? _ _ h2) (by simpa using hne b off h1)]
  exact h2
theorem block_lt {w : World} {a : Option Addr} {l : List Nat} (hb : BytesAt w a l) (h0 : 0 < l.length) : ∀ b off, a = some ⟨b, off, none⟩ → b < w.heap.size := by
  intro b off e
  obtain ⟨b', off', h1, h2⟩ := hb.cell 0 h0
  rw [e] at h1
  simp only [Option.some.injEq, Addr.mk.injEq, and_true] at h1
  have := World.block_lt_of_cell? _ _ h2
  simp only at this
  omega
/-- A block of an argument is older than one that was made since. -/
theorem BytesAt.farOld {w0 w w' : World} {a : Option Addr} {l : List Nat} {j : Nat} (hb0 : BytesAt w0 a l) (hb : BytesAt w a l) (hg : w.grownBy w' (some j)) (hj : w0.heap.size ≤ j) : BytesAt w' a l := by
  rcases Nat.eq_zero_or_pos l.length with h | h
  · obtain rfl : l = [] := List.eq_nil_of_length_eq_zero h
    exact ⟨by simp, by simp⟩
  · exact hb.far hg (fun b off e => by have := block_lt hb0 h b off e; omega)
theorem OwnB.far {base : Nat} {w w' : World} {sp : Option Addr} {c : Nat} {l : List Nat} {j : Nat} (h : OwnB base w sp c l) (hg : w.grownBy w' (some j)) (hj : j < base) : OwnB base w' sp c l := by
  refine ⟨⟨h.owns.1, ?_⟩, h.lt⟩
  rcases h.owns.2 with hv | ⟨g, cap, cur, hv, hbg, hgg, r⟩
  · exact .inl hv
  · exact .inr ⟨g, cap, cur, hv, hbg, (hg.block g (Array.getElem?_eq_some_iff.1 hgg).1 (fun e => by simp only [Option.some.injEq] at e; omega)).trans hgg, r⟩
theorem OwnS.far {base : Nat} {w w' : World} {v : Value} {hs : List (List Nat)} {j : Nat} (h : OwnS base w v hs) (hg : w.grownBy w' (some j)) (hj : j < base) : OwnS base w' v hs := by
  obtain ⟨cs, ho, hc⟩ := h.ex
  refine ⟨⟨cs, ⟨ho.1, ?_⟩, fun i hi => ?_⟩, h.lt⟩
  · rcases ho.2 with hv | ⟨g, cap, cur, hv, hbg, hgg, r⟩
    · exact .inl hv
    · exact .inr ⟨g, cap, cur, hv, hbg, (hg.block g (Array.getElem?_eq_some_iff.1 hgg).1 (fun e => by simp only [Option.some.injEq] at e; omega)).trans hgg, r⟩
  · obtain ⟨p, c, h1, h2⟩ := hc i hi
    exact ⟨p, c, h1, h2.far hg hj⟩
theorem mem_set8 {l : List Nat} {j y : Nat} (h : ∀ c ∈ l, c < 256) (hy : y < 256) : ∀ c ∈ l.set j y, c < 256 := by
  intro c hc
  rcases List.mem_or_eq_of_mem_set hc with h1 | h1
  · exact h c h1
  · omega
theorem heap_set_row {w : World} {g : Nat} {X : List Nat} (h : w.heap[g]? = some (.cells (X.map byteV).toArray 5 (0, 0))) (k y : Nat) :
    (w.setCell ⟨g, k, none⟩ (.int .u8 (y : Int))).heap[g]? = some (.cells ((X.set k y).map byteV).toArray 5 (0, 0)) := by
  have h1 := heap_setCell_same w g k _ 5 (.int .u8 (y : Int)) h
  have e : ((X.map byteV).toArray.setIfInBounds k (.int .u8 (y : Int))) = ((X.set k y).map byteV).toArray := by
    rw [List.map_set, List.setIfInBounds_toArray]; rfl
  rw [e] at h1
  exact h1
/-- One frame alone. -/
theorem one_frame (l : List Nat) (hl : l.length ≤ 65536) : Steps (frameB l) 0 [l] (8 + l.length) ∧ 0 < nextE (frameB l) (8 + l.length) := by
  obtain ⟨h1, h2⟩ := frame_next [] l [] hl
  rw [List.nil_append, List.append_nil] at h1 h2
  refine ⟨⟨h1, h2, by simp [Steps]⟩, ?_⟩
  unfold nextE
  rw [if_pos (by rw [frameB_length]; omega)]
  omega
end Go.Proofs.Ytmjojfngdfnabab
