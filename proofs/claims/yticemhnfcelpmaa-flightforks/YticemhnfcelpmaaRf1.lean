/- Flight, the document's answer: packets that were under way once, in one's own memory; a net of them. -/
import Derived.Test.YticemhnfcelpmaaFl8
namespace Go.Proofs.Yticemhnfcelpmaa
open Go.ChangeShapes Go.WideShapes Go.ChangeAt Go.RowKit

/-- A packet, where its bytes lie, whether it is gone. -/
abbrev SPk := (Pkt × Hdl) × Bool
def sRow (x : SPk) : List Value := pkRow x.1 ++ [.bool x.2]
theorem sRow_length (x : SPk) : (sRow x).length = 5 := rfl
def rowsS (xs : List SPk) : List Value := xs.flatMap sRow
theorem rowsS_length (xs : List SPk) : (rowsS xs).length = xs.length * 5 := by
  induction xs with
  | nil => rfl
  | cons x xs ih => simp only [rowsS, List.flatMap_cons, List.length_append, List.length_cons, sRow_length] at ih ⊢; omega
theorem rowsS_snoc (xs : List SPk) (x : SPk) : rowsS (xs ++ [x]) = rowsS xs ++ sRow x := by simp [rowsS]
theorem rowsS_get : ∀ (xs : List SPk) (i f : Nat) (hi : i < xs.length) (_ : f < 5), (rowsS xs)[i * 5 + f]? = (sRow xs[i])[f]?
  | [], i, _, hi, _ => by simp at hi
  | x :: xs, 0, f, _, hf => by
    simp only [rowsS, List.flatMap_cons, Nat.zero_mul, Nat.zero_add, List.getElem_cons_zero]
    rw [List.getElem?_append_left (by rw [sRow_length]; exact hf)]
  | x :: xs, i + 1, f, hi, hf => by
    have ih := rowsS_get xs i f (by simpa using hi) hf
    simp only [rowsS, List.flatMap_cons, List.getElem_cons_succ] at ih ⊢
    rw [List.getElem?_append_right (by rw [sRow_length]; omega)]
    have e4 : (i + 1) * 5 + f - (sRow x).length = i * 5 + f := by rw [sRow_length]; omega
    rw [e4]
    exact ih
/-- One's own row of them, and their bytes: some that nobody changes. -/
structure OwnS (base : Nat) (w : World) (sp : Option Addr) (c : Nat) (zs : List SPk) : Prop where
  row : w.ownsRow base 77 5 (.slice sp zs.length c) zs.length (rowsS zs)
  dat : ∀ z ∈ zs, OwnB 0 w z.1.2.1 z.1.2.2 z.1.1.2.2.2
theorem OwnS.ofNil (base : Nat) (w : World) : OwnS base w none 0 [] := ⟨w.ownsRow_nil base 77 5, by simp⟩
theorem OwnS.later {base : Nat} {w w' : World} {sp : Option Addr} {c : Nat} {zs : List SPk} (h : OwnS base w sp c zs) (hb : Below w.heap.size w w') : OwnS base w' sp c zs := ⟨ownsRow_later h.row hb, fun z hz => (h.dat z hz).later hb⟩
theorem OwnS.blk_ge {base : Nat} {w : World} {sp : Option Addr} {c : Nat} {zs : List SPk} (h : OwnS base w sp c zs) : ∀ g, blk sp = some g → base ≤ g ∧ g < w.heap.size := by
  intro g hg
  exact h.row.lt g (by rw [ownBlock_slice]; exact hg)
theorem OwnS.blk_is {base : Nat} {w : World} {sp : Option Addr} {c : Nat} {zs : List SPk} (h : OwnS base w sp c zs) : ∀ g, blk sp = some g → ∃ cur : Array Value, w.heap[g]? = some (.cells cur 77 (0, 0)) := by
  intro g hg
  rcases h.row.2 with ⟨hv, _⟩ | ⟨g1, cap, cur, hv, _, hh, _⟩
  · simp only [Value.slice.injEq] at hv
    rw [hv.1] at hg
    cases hg
  · simp only [Value.slice.injEq] at hv
    rw [hv.1] at hg
    obtain rfl : g1 = g := by simpa [blk] using hg
    exact ⟨_, hh⟩
theorem OwnS.ne_block {base : Nat} {w : World} {sp : Option Addr} {c : Nat} {zs : List SPk} (h : OwnS base w sp c zs) {g : Nat} {cs : Array Value} {T : TypeId} {fr : Nat × Nat} (hg : w.heap[g]? = some (.cells cs T fr)) (hT : T ≠ 77) : blk sp ≠ some g := by
  intro hs
  obtain ⟨cur, hc⟩ := h.blk_is g hs
  rw [hc] at hg
  simp only [Option.some.injEq, Obj.cells.injEq] at hg
  exact hT hg.2.1.symm
theorem OwnS.far {base : Nat} {w w' : World} {sp : Option Addr} {c : Nat} {zs : List SPk} (h : OwnS base w sp c zs) {j : Nat} (hg : w.grownBy w' (some j)) {cs : Array Value} {T : TypeId} {fr : Nat × Nat} (hj : w.heap[j]? = some (.cells cs T fr)) (h1 : T ≠ 77) (h2 : T ≠ 5) : OwnS base w' sp c zs :=
  ⟨ownsRow_grownNe h.row hg (fun g hs e => h.ne_block hj h1 (by rw [hs, Option.some.inj e])), fun z hz => (h.dat z hz).grownNe hg (fun g hs e => (h.dat z hz).ne_block hj h2 (by rw [hs, Option.some.inj e]))⟩
theorem OwnS.cell {base : Nat} {w : World} {sp : Option Addr} {c : Nat} {zs : List SPk} (h : OwnS base w sp c zs) (i : Nat) (hi : i < zs.length) : ∃ g, sp = some ⟨g, 0, none⟩ ∧ w.cell? ⟨g, i * 5, none⟩ = some (.int .i64 zs[i].1.1.1) ∧ w.cell? ⟨g, i * 5 + 1, none⟩ = some (.int .i64 zs[i].1.1.2.1) ∧
    w.cell? ⟨g, i * 5 + 2, none⟩ = some (.int .i64 zs[i].1.1.2.2.1) ∧ w.cell? ⟨g, i * 5 + 3, none⟩ = some (.slice zs[i].1.2.1 zs[i].1.1.2.2.2.length zs[i].1.2.2) ∧ w.cell? ⟨g, i * 5 + 4, none⟩ = some (.bool zs[i].2) := by
  rcases h.row.2 with ⟨_, h0⟩ | ⟨g, cap, cur, hv, _, hg, _, _, _, ht⟩
  · omega
  · simp only [Value.slice.injEq] at hv
    obtain ⟨rfl, _, _⟩ := hv
    have key : ∀ f, f < 5 → w.cell? ⟨g, i * 5 + f, none⟩ = (sRow zs[i])[f]? := by
      intro f hf
      rw [cell_of_row w g _ cur _ _ hg]
      have e := rowsS_get zs i f hi hf
      rw [← ht, List.getElem?_take, if_pos (by omega)] at e
      rw [← Array.getElem?_toList, e]
    exact ⟨g, rfl, key 0 (by omega), key 1 (by omega), key 2 (by omega), key 3 (by omega), key 4 (by omega)⟩
/-- The document's net in memory: its block R. -/
structure RefAt (base : Nat) (w : World) (R : Nat) (sp : Option Addr) (c : Nat) (zs : List SPk) (pa : List Bool) (ck : List Int) : Prop where
  blk : w.heap[R]? = some (.cells (.slice sp zs.length c :: (pa.map Value.bool ++ ck.map (Value.int .i64))).toArray 70 (0, 0))
  own : OwnS base w sp c zs
  low : base ≤ R
  hundred : pa.length = 100
  ten : ck.length = 10
section
variable {base : Nat} {w : World} {R : Nat} {sp : Option Addr} {c : Nat} {zs : List SPk} {pa : List Bool} {ck : List Int}
theorem RefAt.c0 (h : RefAt base w R sp c zs pa ck) : w.cell? ⟨R, 0, none⟩ = some (.slice sp zs.length c) := box_cell h.blk 0 _ (by simp)
theorem RefAt.cp (h : RefAt base w R sp c zs pa ck) (k : Nat) (hk : k < 100) : w.cell? ⟨R, 1 + k, none⟩ = some (.bool (pa.getD k false)) := by
  refine box_cell h.blk (1 + k) _ ?_
  have : k < pa.length := by rw [h.hundred]; exact hk
  rw [Nat.add_comm, List.getElem?_toArray, List.getElem?_cons_succ, List.getElem?_append_left (by rw [List.length_map]; exact this)]
  simp [List.getElem?_eq_getElem this]
theorem RefAt.cc (h : RefAt base w R sp c zs pa ck) (k : Nat) (hk : k < 10) : w.cell? ⟨R, 101 + k, none⟩ = some (.int .i64 (ck.getD k 0)) := by
  refine box_cell h.blk (101 + k) _ ?_
  have : k < ck.length := by rw [h.ten]; exact hk
  rw [show 101 + k = (100 + k) + 1 by omega, List.getElem?_toArray, List.getElem?_cons_succ, List.getElem?_append_right (by rw [List.length_map, h.hundred]; omega), List.length_map, h.hundred, show 100 + k - 100 = k by omega]
  simp [List.getElem?_eq_getElem this]
theorem RefAt.fz (h : RefAt base w R sp c zs pa ck) (k : Nat) : w.frozen? ⟨R, k, none⟩ = false := box_free h.blk k
theorem RefAt.ltR (h : RefAt base w R sp c zs pa ck) : R < w.heap.size := (Array.getElem?_eq_some_iff.1 h.blk).1
theorem RefAt.later {w' : World} (h : RefAt base w R sp c zs pa ck) (hb : Below w.heap.size w w') : RefAt base w' R sp c zs pa ck := ⟨later_block hb h.blk, h.own.later hb, h.low, h.hundred, h.ten⟩
/-- Those that are under way. -/
def alive (zs : List SPk) : List (Pkt × Hdl) := (zs.filter fun z => !z.2).map (·.1)
def refZ : Array Value := (Value.slice none 0 0 :: ((List.replicate 100 false).map Value.bool ++ (List.replicate 10 (0 : Int)).map (Value.int .i64))).toArray
theorem zeroRef (w : World) : (zeroValue 70).run Try.prog w = .ok (.agg refZ) w := by kernel_rfl
set_option maxRecDepth 20000 in
theorem refNew_calls (w : World) : Calls Try.prog 28 #[] w fun e w' => ∃ R, e = .returned (.pointer (some ⟨R, 0, none⟩)) ∧ RefAt w.heap.size w' R none 0 [] (List.replicate 100 false) (List.replicate 10 0) ∧ Below w.heap.size w w' := by
  have b1 := hide (show Below w.heap.size w (w.alloc (.cells refZ 70)) from (Below.refl _ _).alloc (Nat.le_refl _) _)
  have h1 := hide (heap_new w (.cells refZ 70))
  have hz := zeroRef
  go_enter Try.func28, Try.ntmps28
  go_wp2
  go_ret
  exact ⟨w.heap.size, rfl, ⟨unhide h1, OwnS.ofNil _ _, Nat.le_refl _, by simp, by simp⟩, unhide b1⟩
/-- Where the i-th one stands that is under way. -/
def placeOf (zs : List SPk) (k : Nat) (i : Int) (j : Nat) : Option Nat :=
  match zs with
  | [] => none
  | z :: r => if z.2 then placeOf r k i (j + 1) else if (k : Int) = i then some j else placeOf r (k + 1) i (j + 1)
end
end Go.Proofs.Yticemhnfcelpmaa
