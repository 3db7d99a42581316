/- Disk: a file's changes; a file in memory; sync. -/
import Derived.Test.YtijcpmbfhfppmaaGreatDoorDk2
import Derived.Maps.AppendAt
import Derived.Deep.RegionLaw
namespace Go.Proofs.YtijcpmbfhfppmaaGreatDoor
open Go.ChangeShapes Go.WideShapes Go.ChangeAt Go.RowKit

/-- A change: whether it is a Cut, where, the bytes. -/
abbrev Chg := Bool × Nat × List Nat
abbrev ChH := Chg × (Option Addr × Nat)
def chRow (x : ChH) : List Value := [.bool x.1.1, .int .i64 (x.1.2.1 : Int), .slice x.2.1 x.1.2.2.length x.2.2]
theorem chRow_length (x : ChH) : (chRow x).length = 3 := rfl
def rowsC (xs : List ChH) : List Value := xs.flatMap chRow
theorem rowsC_length (xs : List ChH) : (rowsC xs).length = xs.length * 3 := by
  induction xs with
  | nil => rfl
  | cons x xs ih => simp only [rowsC, List.flatMap_cons, List.length_append, List.length_cons, chRow_length] at ih ⊢; omega
theorem rowsC_snoc (xs : List ChH) (x : ChH) : rowsC (xs ++ [x]) = rowsC xs ++ chRow x := by simp [rowsC]
theorem rowsC_get : ∀ (xs : List ChH) (i f : Nat) (hi : i < xs.length) (_ : f < 3), (rowsC xs)[i * 3 + f]? = (chRow xs[i])[f]?
  | [], i, _, hi, _ => by simp at hi
  | x :: xs, 0, f, _, hf => by
    simp only [rowsC, List.flatMap_cons, Nat.zero_mul, Nat.zero_add, List.getElem_cons_zero]
    rw [List.getElem?_append_left (by rw [chRow_length]; exact hf)]
  | x :: xs, i + 1, f, hi, hf => by
    have ih := rowsC_get xs i f (by simpa using hi) hf
    simp only [rowsC, List.flatMap_cons, List.getElem_cons_succ] at ih ⊢
    rw [List.getElem?_append_right (by rw [chRow_length]; omega)]
    have e4 : (i + 1) * 3 + f - (chRow x).length = i * 3 + f := by rw [chRow_length]; omega
    rw [e4]
    exact ih
theorem rowOf_grownNe {base : Nat} {w w' : World} {e : TypeId} {size n : Nat} {sp : Option Addr} {c : Nat} {xs : List Value} {o : Option Nat} (h : w.ownsRow base e size (.slice sp n c) n xs) (hg : w.grownBy w' o) (hne : ∀ g, blk sp = some g → o ≠ some g) : w'.ownsRow base e size (.slice sp n c) n xs := by
  refine ⟨h.1, ?_⟩
  rcases h.2 with hv | ⟨g, cap, cur, hv, hbg, hgg, r⟩
  · exact .inl hv
  · refine .inr ⟨g, cap, cur, hv, hbg, (hg.block g (Array.getElem?_eq_some_iff.1 hgg).1 (fun e => ?_)).trans hgg, r⟩
    simp only [Value.slice.injEq] at hv
    exact hne g (by rw [hv.1]; rfl) e.symm
/-- One's own changes: the slice and their bytes. -/
structure OwnC (base : Nat) (w : World) (sp : Option Addr) (c : Nat) (xs : List ChH) : Prop where
  row : w.ownsRow base 152 3 (.slice sp xs.length c) xs.length (rowsC xs)
  dat : ∀ x ∈ xs, Bx 0 w x.2.1 x.2.2 x.1.2.2
section
variable {base : Nat} {w w' : World} {sp : Option Addr} {c : Nat} {xs : List ChH}
theorem OwnC.ofNil (base : Nat) (w : World) : OwnC base w none 0 [] := ⟨w.ownsRow_nil base 152 3, by simp⟩
theorem OwnC.blk_is (h : OwnC base w sp c xs) : ∀ g, blk sp = some g → base ≤ g ∧ g < w.heap.size ∧ ∃ cur : Array Value, w.heap[g]? = some (.cells cur 152 (0, 0)) := by
  intro g hg
  rcases h.row.2 with ⟨hv, _⟩ | ⟨g1, cap, cur, hv, hb, hh, _⟩
  · simp only [Value.slice.injEq] at hv
    rw [hv.1] at hg
    cases hg
  · simp only [Value.slice.injEq] at hv
    rw [hv.1] at hg
    obtain rfl : g1 = g := by simpa [blk] using hg
    exact ⟨hb, (Array.getElem?_eq_some_iff.1 hh).1, _, hh⟩
theorem OwnC.ne_block (h : OwnC base w sp c xs) {g : Nat} {cs : Array Value} {T : TypeId} {fr : Nat × Nat} (hg : w.heap[g]? = some (.cells cs T fr)) (hT : T ≠ 152) : blk sp ≠ some g := by
  intro hs
  obtain ⟨_, _, cur, hc⟩ := h.blk_is g hs
  rw [hc] at hg
  simp only [Option.some.injEq, Obj.cells.injEq] at hg
  exact hT hg.2.1.symm
theorem Bx.ne_row {b2 : Nat} {yp : Option Addr} {yc : Nat} {y : List Nat} (k : Bx b2 w yp yc y) (h : OwnC base w sp c xs) : ∀ g, blk yp = some g → blk sp ≠ some g := by
  intro g hg hs
  obtain ⟨_, _, cur, hc⟩ := h.blk_is g hs
  exact k.ne_block hc (by decide) hg
theorem OwnC.grownNe {o : Option Nat} (h : OwnC base w sp c xs) (hg : w.grownBy w' o) (h1 : ∀ g, blk sp = some g → o ≠ some g) (h2 : ∀ x ∈ xs, ∀ g, blk x.2.1 = some g → o ≠ some g) : OwnC base w' sp c xs :=
  ⟨rowOf_grownNe h.row hg h1, fun x hx => (h.dat x hx).grownNe hg (h2 x hx)⟩
theorem OwnC.later (h : OwnC base w sp c xs) (hb : Below w.heap.size w w') : OwnC base w' sp c xs := h.grownNe (grown_below none hb) (by simp) (by simp)
/-- What changes a block that holds no changes and no bytes. -/
theorem OwnC.far (h : OwnC base w sp c xs) {j : Nat} (hg : w.grownBy w' (some j)) {cs : Array Value} {T : TypeId} {fr : Nat × Nat} (hj : w.heap[j]? = some (.cells cs T fr)) (h1 : T ≠ 152) (h2 : T ≠ 5) : OwnC base w' sp c xs :=
  h.grownNe hg (fun g hs e => h.ne_block hj h1 (by rw [hs, Option.some.inj e])) (fun x hx g hs e => (h.dat x hx).ne_block hj h2 (by rw [hs, Option.some.inj e]))
theorem infoC : (Tryz.prog.info? 152).map (fun i => (i.zero, i.size, i.bytes)) = some (some (.agg #[.bool false, .int .i64 0, .slice none 0 0]), 3, 40) := by kernel_rfl
theorem ch_oneCell (x : ChH) : ∀ u ∈ chRow x, u.oneCell' = true := by
  intro u hu
  simp only [chRow, List.mem_cons, List.not_mem_nil, or_false] at hu
  rcases hu with rfl | rfl | rfl <;> rfl
theorem run_appendC (hown : OwnC base w sp c xs) (B : Nat) (x : ChH) (hB : w.heap[B]? = some (.cells (chRow x).toArray 152 (0, 0))) (hd : Bx base w x.2.1 x.2.2 x.1.2.2) (hn : (xs.length + 1) * 40 ≤ 140737488355328) (hbase : base ≤ w.heap.size) (ty : TypeId) :
    ∃ sp' c' w', (Builtin.append_ #[116, 116] ty #[.slice sp xs.length c, .slice (some ⟨B, 0, none⟩) 1 1]).run Tryz.prog w = .ok (.slice sp' (xs.length + 1) c') w' ∧ OwnC base w' sp' c' (xs ++ [x]) ∧ Grew w sp w' sp' := by
  obtain ⟨i0, hi, hz0, hz1, hz2⟩ := info_parts infoC
  obtain ⟨v', w', hrun, h1, h2, _, h5⟩ := run_append_own_at (P := Tryz.prog) w base 116 ty 152 i0 _ 3 40 Tryz.underlying116 hi hz0 hz1 hz2 rfl (by omega) _ _ _ hown.row ⟨B, 0, none⟩ 1 1 (chRow x) rfl
    (fun j u hu => by have := World.news_of_block hB j u; simp only at this; exact this hu) (ch_oneCell x) (by simp only [maxLen]; omega) (by omega) hbase
  have hv : ∃ sp' c', v' = .slice sp' (xs.length + 1) c' := by
    rcases h1.2 with ⟨hv, h0⟩ | ⟨g, cap, cur, hv, _⟩
    · omega
    · exact ⟨_, _, hv⟩
  obtain ⟨sp', c', rfl⟩ := hv
  rw [ownBlock_slice] at h2
  rw [ownBlock_slice, ownBlock_slice] at h5
  refine ⟨sp', c', w', hrun, ⟨?_, fun y hy => ?_⟩, ⟨h2, fun g hg => ?_⟩⟩
  · rw [rowsC_snoc, List.length_append]
    exact h1
  · rcases List.mem_append.1 hy with hy | hy
    · exact (hown.dat y hy).grownNe h2 (fun g hg hs => (hown.dat y hy).ne_row hown g hg hs)
    · rw [List.mem_singleton] at hy
      subst hy
      exact (hd.mono (Nat.zero_le _)).grownNe h2 (fun g hg hs => hd.ne_row hown g hg hs)
  · rcases h5 with h5 | h5
    · exact .inl (h5.symm.trans hg)
    · rw [h5] at hg
      exact .inr (Nat.le_of_eq (Option.some.inj hg))
end
theorem fcell {w : World} {j : Nat} {cs : Array Value} {T : TypeId} (h : w.heap[j]? = some (.cells cs T (0, 0))) (f : Nat) (v : Value) (hv : cs[f]? = some v) : w.cell? ⟨j, f, none⟩ = some v := by
  rw [cell_of_row _ _ _ _ _ _ h, hv]
theorem ffree {w : World} {j : Nat} {cs : Array Value} {T : TypeId} (h : w.heap[j]? = some (.cells cs T (0, 0))) (f : Nat) : w.frozen? ⟨j, f, none⟩ = false := by
  simp [World.frozen?, h]
/-- A file: its bytes, what lasts, its changes, and where they lie. -/
structure Fil where
  bp : Option Addr
  bc : Nat
  b : List Nat
  yp : Option Addr
  yc : Nat
  y : List Nat
  la : Bool
  cp : Option Addr
  cc : Nat
  xs : List ChH
def Fil.row (f : Fil) : Array Value := #[.slice f.bp f.b.length f.bc, .slice f.yp f.y.length f.yc, .bool f.la, .slice f.cp f.xs.length f.cc]
/-- What a call on a file may write to. -/
def Fil.mut (f : Fil) (F g : Nat) : Prop := g = F ∨ blk f.bp = some g ∨ blk f.yp = some g ∨ blk f.cp = some g
def Fil.red (f : Fil) (g : Nat) : Prop := ∃ x ∈ f.xs, blk x.2.1 = some g
structure FileAt (base : Nat) (w : World) (F : Nat) (f : Fil) : Prop where
  box : w.heap[F]? = some (.cells f.row 118 (0, 0))
  bytes : Bx base w f.bp f.bc f.b
  sure : Bx base w f.yp f.yc f.y
  chs : OwnC base w f.cp f.cc f.xs
  low : base ≤ F
  apart : ∀ g, blk f.bp = some g → blk f.yp ≠ some g
  far : ∀ x ∈ f.xs, ∀ g, blk x.2.1 = some g → blk f.bp ≠ some g ∧ blk f.yp ≠ some g
/-- What a call on a file leaves. -/
structure FGrew (F : Nat) (w : World) (f : Fil) (w' : World) (f' : Fil) : Prop where
  os : w'.os = w.os
  tape : w'.tape = w.tape
  output : w'.output = w.output
  size : w.heap.size ≤ w'.heap.size
  block : ∀ i, i < w.heap.size → ¬ f.mut F i → w'.heap[i]? = w.heap[i]?
  muts : ∀ g, f'.mut F g → f.mut F g ∨ w.heap.size ≤ g
  reds : ∀ g, f'.red g → f.red g ∨ w.heap.size ≤ g
section
variable {base : Nat} {w w' : World} {F : Nat} {f : Fil}
theorem FileAt.ltF (h : FileAt base w F f) : F < w.heap.size := (Array.getElem?_eq_some_iff.1 h.box).1
theorem FileAt.c0 (h : FileAt base w F f) : w.cell? ⟨F, 0, none⟩ = some (.slice f.bp f.b.length f.bc) := fcell h.box 0 _ (by simp [Fil.row])
theorem FileAt.c1 (h : FileAt base w F f) : w.cell? ⟨F, 1, none⟩ = some (.slice f.yp f.y.length f.yc) := fcell h.box 1 _ (by simp [Fil.row])
theorem FileAt.c2 (h : FileAt base w F f) : w.cell? ⟨F, 2, none⟩ = some (.bool f.la) := fcell h.box 2 _ (by simp [Fil.row])
theorem FileAt.c3 (h : FileAt base w F f) : w.cell? ⟨F, 3, none⟩ = some (.slice f.cp f.xs.length f.cc) := fcell h.box 3 _ (by simp [Fil.row])
theorem FileAt.fz (h : FileAt base w F f) (k : Nat) : w.frozen? ⟨F, k, none⟩ = false := ffree h.box k
theorem FileAt.later (h : FileAt base w F f) (hb : Below w.heap.size w w') : FileAt base w' F f :=
  ⟨(hb.block F h.ltF).trans h.box, h.bytes.later hb, h.sure.later hb, h.chs.later hb, h.low, h.apart, h.far⟩
theorem FGrew.refl (F : Nat) (w : World) (f : Fil) : FGrew F w f w f := ⟨rfl, rfl, rfl, Nat.le_refl _, fun _ _ _ => rfl, fun _ h => .inl h, fun _ h => .inl h⟩
theorem FGrew.trans {w1 w2 : World} {f1 f2 : Fil} (h : FGrew F w f w1 f1) (k : FGrew F w1 f1 w2 f2) : FGrew F w f w2 f2 := by
  refine ⟨k.os.trans h.os, k.tape.trans h.tape, k.output.trans h.output, Nat.le_trans h.size k.size, fun i hi hn => ?_, fun g hg => ?_, fun g hg => ?_⟩
  · refine (k.block i (Nat.lt_of_lt_of_le hi h.size) (fun hm => ?_)).trans (h.block i hi hn)
    rcases h.muts i hm with h1 | h1
    · exact hn h1
    · omega
  · rcases k.muts g hg with h1 | h1
    · exact h.muts g h1
    · exact .inr (Nat.le_trans h.size h1)
  · rcases k.reds g hg with h1 | h1
    · exact h.reds g h1
    · exact .inr (Nat.le_trans h.size h1)
theorem FGrew.ofBelow (hb : Below w.heap.size w w') : FGrew F w f w' f := ⟨hb.os, hb.tape, hb.output, hb.size, fun i hi _ => hb.block i hi, fun _ h => .inl h, fun _ h => .inl h⟩
/-- A cell of the file's own block changed. -/
theorem FileAt.set (h : FileAt base w F f) (k : Nat) (v : Value) (f' : Fil) (hr : f.row.setIfInBounds k v = f'.row) (hB : Bx base w f'.bp f'.bc f'.b) (hY : Bx base w f'.yp f'.yc f'.y) (hC : OwnC base w f'.cp f'.cc f'.xs)
    (ha : ∀ g, blk f'.bp = some g → blk f'.yp ≠ some g) (hf : ∀ x ∈ f'.xs, ∀ g, blk x.2.1 = some g → blk f'.bp ≠ some g ∧ blk f'.yp ≠ some g) : FileAt base (w.setCell ⟨F, k, none⟩ v) F f' := by
  have hg := grown_set w F k v
  refine ⟨?_, hB.grownNe hg (fun g hs e => hB.ne_block h.box (by decide) (by rw [hs, Option.some.inj e])), hY.grownNe hg (fun g hs e => hY.ne_block h.box (by decide) (by rw [hs, Option.some.inj e])), hC.far hg h.box (by decide) (by decide), h.low, ha, hf⟩
  rw [← hr]
  exact heap_setCell_same w F k _ 118 v h.box
end
end Go.Proofs.YtijcpmbfhfppmaaGreatDoor
