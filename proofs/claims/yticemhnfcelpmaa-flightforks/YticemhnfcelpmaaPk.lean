/- Packets in one's own memory: rows of four cells, each with its bytes; no two share theirs. -/
import Derived.Test.YticemhnfcelpmaaFl0
import Derived.Maps.AppendAt
namespace Go.Proofs.Yticemhnfcelpmaa
open Go.ChangeShapes Go.WideShapes Go.ChangeAt Go.RowKit

theorem OwnB.grownNe {base : Nat} {w w' : World} {sp : Option Addr} {c : Nat} {l : List Nat} {o : Option Nat} (h : OwnB base w sp c l) (hg : w.grownBy w' o) (hne : ∀ g, blk sp = some g → o ≠ some g) : OwnB base w' sp c l := by
  refine ⟨⟨h.owns.1, ?_⟩, h.lt⟩
  rcases h.owns.2 with hv | ⟨g, cap, cur, hv, hbg, hgg, r⟩
  · exact .inl hv
  · refine .inr ⟨g, cap, cur, hv, hbg, (hg.block g (Array.getElem?_eq_some_iff.1 hgg).1 (fun e => ?_)).trans hgg, r⟩
    simp only [Value.slice.injEq] at hv
    exact hne g (by rw [hv.1]; rfl) e.symm
theorem OwnB.ne_block {base : Nat} {w : World} {sp : Option Addr} {c : Nat} {l : List Nat} (h : OwnB base w sp c l) {g : Nat} {cs : Array Value} {T : TypeId} {fr : Nat × Nat} (hg : w.heap[g]? = some (.cells cs T fr)) (hT : T ≠ 5) : blk sp ≠ some g := by
  intro hs
  rcases h.owns.2 with ⟨hv, _⟩ | ⟨g1, cap, cur, hv, _, hh, _⟩
  · simp only [Value.slice.injEq] at hv
    rw [hv.1] at hs
    cases hs
  · simp only [Value.slice.injEq] at hv
    rw [hv.1] at hs
    obtain rfl : g1 = g := by simpa [blk] using hs
    rw [hh] at hg
    simp only [Option.some.injEq, Obj.cells.injEq] at hg
    exact hT hg.2.1.symm
theorem OwnB.ne_map {base : Nat} {w : World} {sp : Option Addr} {c : Nat} {l : List Nat} (h : OwnB base w sp c l) {g : Nat} {es : Array MapEntry} {k : Nat} (hg : w.heap[g]? = some (.map es k)) : blk sp ≠ some g := by
  intro hs
  rcases h.owns.2 with ⟨hv, _⟩ | ⟨g1, cap, cur, hv, _, hh, _⟩
  · simp only [Value.slice.injEq] at hv
    rw [hv.1] at hs
    cases hs
  · simp only [Value.slice.injEq] at hv
    rw [hv.1] at hs
    obtain rfl : g1 = g := by simpa [blk] using hs
    rw [hh] at hg
    simp at hg
theorem OwnB.nilCap {base : Nat} {w : World} {sp : Option Addr} {c : Nat} {l : List Nat} (h : OwnB base w sp c l) : sp = none → c = 0 := by
  intro e
  subst e
  rcases h.owns.2 with ⟨hv, _⟩ | ⟨g, cap, cur, hv, _⟩
  · simp only [Value.slice.injEq] at hv; exact hv.2.2
  · cases hv
/-- A packet: its number, from, to, its bytes. -/
abbrev Pkt := Int × Int × Int × List Nat
abbrev Hdl := Option Addr × Nat
def pkRow (x : Pkt × Hdl) : List Value := [.int .i64 x.1.1, .int .i64 x.1.2.1, .int .i64 x.1.2.2.1, .slice x.2.1 x.1.2.2.2.length x.2.2]
theorem pkRow_length (x : Pkt × Hdl) : (pkRow x).length = 4 := rfl
def rowsP (xs : List (Pkt × Hdl)) : List Value := xs.flatMap pkRow
theorem rowsP_length (xs : List (Pkt × Hdl)) : (rowsP xs).length = xs.length * 4 := by
  induction xs with
  | nil => rfl
  | cons x xs ih => simp only [rowsP, List.flatMap_cons, List.length_append, List.length_cons, pkRow_length] at ih ⊢; omega
theorem rowsP_snoc (xs : List (Pkt × Hdl)) (x : Pkt × Hdl) : rowsP (xs ++ [x]) = rowsP xs ++ pkRow x := by simp [rowsP]
theorem rowsP_get : ∀ (xs : List (Pkt × Hdl)) (i f : Nat) (hi : i < xs.length) (_ : f < 4), (rowsP xs)[i * 4 + f]? = (pkRow xs[i])[f]?
  | [], i, _, hi, _ => by simp at hi
  | x :: xs, 0, f, _, hf => by
    simp only [rowsP, List.flatMap_cons, Nat.zero_mul, Nat.zero_add, List.getElem_cons_zero]
    rw [List.getElem?_append_left (by rw [pkRow_length]; exact hf)]
  | x :: xs, i + 1, f, hi, hf => by
    have ih := rowsP_get xs i f (by simpa using hi) hf
    simp only [rowsP, List.flatMap_cons, List.getElem_cons_succ] at ih ⊢
    rw [List.getElem?_append_right (by rw [pkRow_length]; omega)]
    have e4 : (i + 1) * 4 + f - (pkRow x).length = i * 4 + f := by rw [pkRow_length]; omega
    rw [e4]
    exact ih
/-- The bytes of packets: own ones below 'top', no two in one block. -/
structure Datas (base top : Nat) (w : World) (xs : List (Pkt × Hdl)) : Prop where
  own : ∀ x ∈ xs, OwnB base w x.2.1 x.2.2 x.1.2.2.2 ∧ ∀ g, blk x.2.1 = some g → g < top
  apart : xs.Pairwise fun x y => ∀ g, blk x.2.1 = some g → blk y.2.1 ≠ some g
theorem Datas.later {base top : Nat} {w w' : World} {xs : List (Pkt × Hdl)} (h : Datas base top w xs) (hb : Below w.heap.size w w') : Datas base top w' xs :=
  ⟨fun x hx => ⟨(h.own x hx).1.later hb, (h.own x hx).2⟩, h.apart⟩
theorem Datas.grownNe {base top : Nat} {w w' : World} {xs : List (Pkt × Hdl)} {o : Option Nat} (h : Datas base top w xs) (hg : w.grownBy w' o) (hne : ∀ x ∈ xs, ∀ g, blk x.2.1 = some g → o ≠ some g) : Datas base top w' xs :=
  ⟨fun x hx => ⟨(h.own x hx).1.grownNe hg (hne x hx), (h.own x hx).2⟩, h.apart⟩
theorem Datas.sub {base top : Nat} {w : World} {xs ys : List (Pkt × Hdl)} (h : Datas base top w xs) (hs : ys.Sublist xs) : Datas base top w ys :=
  ⟨fun x hx => h.own x (hs.subset hx), h.apart.sublist hs⟩
theorem Datas.snoc {base top top' : Nat} {w : World} {xs : List (Pkt × Hdl)} {x : Pkt × Hdl} (h : Datas base top w xs) (hx : OwnB base w x.2.1 x.2.2 x.1.2.2.2) (hlo : ∀ g, blk x.2.1 = some g → top ≤ g ∧ g < top') (htt : top ≤ top') : Datas base top' w (xs ++ [x]) := by
  refine ⟨fun y hy => ?_, ?_⟩
  · rcases List.mem_append.1 hy with h1 | h1
    · exact ⟨(h.own y h1).1, fun g hg => Nat.lt_of_lt_of_le ((h.own y h1).2 g hg) htt⟩
    · rw [List.mem_singleton] at h1; subst h1; exact ⟨hx, fun g hg => (hlo g hg).2⟩
  · rw [List.pairwise_append]
    refine ⟨h.apart, List.pairwise_singleton _ _, fun y hy z hz g hg hg' => ?_⟩
    rw [List.mem_singleton] at hz
    subst hz
    have := (h.own y hy).2 g hg
    have := (hlo g hg').1
    omega
/-- One's own packets: the slice and their bytes. -/
structure OwnP (base top : Nat) (w : World) (sp : Option Addr) (c : Nat) (xs : List (Pkt × Hdl)) : Prop where
  row : w.ownsRow base 35 4 (.slice sp xs.length c) xs.length (rowsP xs)
  dat : Datas base top w xs
theorem OwnP.ofNil (base top : Nat) (w : World) : OwnP base top w none 0 [] := ⟨w.ownsRow_nil base 35 4, ⟨by simp, List.Pairwise.nil⟩⟩
theorem ownsRow_later {base : Nat} {w w' : World} {e : TypeId} {size n : Nat} {v : Value} {xs : List Value} (h : w.ownsRow base e size v n xs) (hb : Below w.heap.size w w') : w'.ownsRow base e size v n xs := by
  refine ⟨h.1, ?_⟩
  rcases h.2 with hv | ⟨g, cap, cur, hv, hbg, hgg, r⟩
  · exact .inl hv
  · exact .inr ⟨g, cap, cur, hv, hbg, (hb.block g (Array.getElem?_eq_some_iff.1 hgg).1).trans hgg, r⟩
theorem ownsRow_grownNe {base : Nat} {w w' : World} {e : TypeId} {size n : Nat} {sp : Option Addr} {c : Nat} {xs : List Value} {o : Option Nat} (h : w.ownsRow base e size (.slice sp n c) n xs) (hg : w.grownBy w' o) (hne : ∀ g, blk sp = some g → o ≠ some g) : w'.ownsRow base e size (.slice sp n c) n xs := by
  refine ⟨h.1, ?_⟩
  rcases h.2 with hv | ⟨g, cap, cur, hv, hbg, hgg, r⟩
  · exact .inl hv
  · refine .inr ⟨g, cap, cur, hv, hbg, (hg.block g (Array.getElem?_eq_some_iff.1 hgg).1 (fun e => ?_)).trans hgg, r⟩
    simp only [Value.slice.injEq] at hv
    exact hne g (by rw [hv.1]; rfl) e.symm
theorem ownsRow_mono {base base' : Nat} {w : World} {e : TypeId} {size n : Nat} {v : Value} {xs : List Value} (h : w.ownsRow base e size v n xs) (hb : base' ≤ base) : w.ownsRow base' e size v n xs := by
  refine ⟨h.1, ?_⟩
  rcases h.2 with hv | ⟨g, cap, cur, hv, hbg, r⟩
  · exact .inl hv
  · exact .inr ⟨g, cap, cur, hv, by omega, r⟩
theorem OwnP.later {base top : Nat} {w w' : World} {sp : Option Addr} {c : Nat} {xs : List (Pkt × Hdl)} (h : OwnP base top w sp c xs) (hb : Below w.heap.size w w') : OwnP base top w' sp c xs := ⟨ownsRow_later h.row hb, h.dat.later hb⟩
theorem OwnP.mono {base base' top : Nat} {w : World} {sp : Option Addr} {c : Nat} {xs : List (Pkt × Hdl)} (h : OwnP base top w sp c xs) (hb : base' ≤ base) : OwnP base' top w sp c xs :=
  ⟨ownsRow_mono h.row hb, ⟨fun x hx => ⟨(h.dat.own x hx).1.mono hb, (h.dat.own x hx).2⟩, h.dat.apart⟩⟩
theorem OwnP.tight {base top : Nat} {w : World} {sp : Option Addr} {c : Nat} {xs : List (Pkt × Hdl)} (h : OwnP base top w sp c xs) : OwnP base w.heap.size w sp c xs :=
  ⟨h.row, ⟨fun x hx => ⟨(h.dat.own x hx).1, fun g hg => ((h.dat.own x hx).1.blk_lt g hg).2⟩, h.dat.apart⟩⟩
theorem OwnP.drew {base top : Nat} {w : World} {sp : Option Addr} {c : Nat} {xs : List (Pkt × Hdl)} (h : OwnP base top w sp c xs) : OwnP base top w.drew sp c xs := ⟨h.row, ⟨fun x hx => ⟨⟨(h.dat.own x hx).1.owns, (h.dat.own x hx).1.lt⟩, (h.dat.own x hx).2⟩, h.dat.apart⟩⟩
theorem OwnP.blk_ge {base top : Nat} {w : World} {sp : Option Addr} {c : Nat} {xs : List (Pkt × Hdl)} (h : OwnP base top w sp c xs) : ∀ g, blk sp = some g → base ≤ g ∧ g < w.heap.size := by
  intro g hg
  exact h.row.lt g (by rw [ownBlock_slice]; exact hg)
/-- The block of the slice holds packets. -/
theorem OwnP.blk_is {base top : Nat} {w : World} {sp : Option Addr} {c : Nat} {xs : List (Pkt × Hdl)} (h : OwnP base top w sp c xs) : ∀ g, blk sp = some g → ∃ cur : Array Value, w.heap[g]? = some (.cells cur 35 (0, 0)) := by
  intro g hg
  rcases h.row.2 with ⟨hv, _⟩ | ⟨g1, cap, cur, hv, _, hh, _⟩
  · simp only [Value.slice.injEq] at hv
    rw [hv.1] at hg
    cases hg
  · simp only [Value.slice.injEq] at hv
    rw [hv.1] at hg
    obtain rfl : g1 = g := by simpa [blk] using hg
    exact ⟨_, hh⟩
theorem OwnP.ne_block {base top : Nat} {w : World} {sp : Option Addr} {c : Nat} {xs : List (Pkt × Hdl)} (h : OwnP base top w sp c xs) {g : Nat} {cs : Array Value} {T : TypeId} {fr : Nat × Nat} (hg : w.heap[g]? = some (.cells cs T fr)) (hT : T ≠ 35) : blk sp ≠ some g := by
  intro hs
  obtain ⟨cur, hc⟩ := h.blk_is g hs
  rw [hc] at hg
  simp only [Option.some.injEq, Obj.cells.injEq] at hg
  exact hT hg.2.1.symm
theorem OwnP.ne_map {base top : Nat} {w : World} {sp : Option Addr} {c : Nat} {xs : List (Pkt × Hdl)} (h : OwnP base top w sp c xs) {g : Nat} {es : Array MapEntry} {k : Nat} (hg : w.heap[g]? = some (.map es k)) : blk sp ≠ some g := by
  intro hs
  obtain ⟨cur, hc⟩ := h.blk_is g hs
  rw [hc] at hg
  simp at hg
theorem OwnP.datNe {base top : Nat} {w : World} {sp : Option Addr} {c : Nat} {xs : List (Pkt × Hdl)} (h : OwnP base top w sp c xs) : ∀ x ∈ xs, ∀ g, blk x.2.1 = some g → blk sp ≠ some g := by
  intro x hx g hg hs
  obtain ⟨cur, hc⟩ := h.blk_is g hs
  exact (h.dat.own x hx).1.ne_block hc (by decide) hg
/-- What changes another kind of block. -/
theorem OwnP.far {base top : Nat} {w w' : World} {sp : Option Addr} {c : Nat} {xs : List (Pkt × Hdl)} (h : OwnP base top w sp c xs) {j : Nat} (hg : w.grownBy w' (some j)) {cs : Array Value} {T : TypeId} {fr : Nat × Nat} (hj : w.heap[j]? = some (.cells cs T fr)) (h1 : T ≠ 35) (h2 : T ≠ 5) : OwnP base top w' sp c xs :=
  ⟨ownsRow_grownNe h.row hg (fun g hs e => h.ne_block hj h1 (by rw [hs, Option.some.inj e])), h.dat.grownNe hg (fun x hx g hs e => (h.dat.own x hx).1.ne_block hj h2 (by rw [hs, Option.some.inj e]))⟩
theorem OwnP.farMap {base top : Nat} {w w' : World} {sp : Option Addr} {c : Nat} {xs : List (Pkt × Hdl)} (h : OwnP base top w sp c xs) {j : Nat} (hg : w.grownBy w' (some j)) {es : Array MapEntry} {k : Nat} (hj : w.heap[j]? = some (.map es k)) : OwnP base top w' sp c xs :=
  ⟨ownsRow_grownNe h.row hg (fun g hs e => h.ne_map hj (by rw [hs, Option.some.inj e])), h.dat.grownNe hg (fun x hx g hs e => (h.dat.own x hx).1.ne_map hj (by rw [hs, Option.some.inj e]))⟩
theorem infoP : (Try.prog.info? 35).map (fun i => (i.zero, i.size, i.bytes)) = some (some (.agg #[.int .i64 0, .int .i64 0, .int .i64 0, .slice none 0 0]), 4, 48) := by kernel_rfl
theorem pk_oneCell (x : Pkt × Hdl) : ∀ u ∈ pkRow x, u.oneCell' = true := by
  intro u hu
  simp only [pkRow, List.mem_cons, List.not_mem_nil, or_false] at hu
  rcases hu with rfl | rfl | rfl | rfl <;> rfl
theorem run_appendP {w : World} (base top : Nat) (sp : Option Addr) (c : Nat) (xs : List (Pkt × Hdl)) (hown : OwnP base top w sp c xs) (B : Nat) (x : Pkt × Hdl)
    (hB : w.heap[B]? = some (.cells (pkRow x).toArray 35 (0, 0))) (hd : OwnB base w x.2.1 x.2.2 x.1.2.2.2) (hlo : ∀ g, blk x.2.1 = some g → top ≤ g) (htt : top ≤ w.heap.size) (hn : xs.length ≤ 1048576) (hbase : base ≤ w.heap.size) (ty : TypeId) :
    ∃ sp' c' w', (Builtin.append_ #[25, 25] ty #[.slice sp xs.length c, .slice (some ⟨B, 0, none⟩) 1 1]).run Try.prog w = .ok (.slice sp' (xs.length + 1) c') w' ∧ OwnP base w.heap.size w' sp' c' (xs ++ [x]) ∧ w.grownBy w' (blk sp) ∧ ∀ g, blk sp' = some g → blk sp = some g ∨ w.heap.size ≤ g := by
  obtain ⟨i0, hi, hz0, hz1, hz2⟩ := info_parts infoP
  obtain ⟨v', w', hrun, h1, h2, _, h5⟩ := run_append_own_at (P := Try.prog) w base 25 ty 35 i0 _ 4 48 Try.underlying25 hi hz0 hz1 hz2 rfl (by omega) _ _ _ hown.row ⟨B, 0, none⟩ 1 1 (pkRow x) rfl
    (fun j u hu => by have := World.news_of_block hB j u; simp only at this; exact this hu) (pk_oneCell x) (by simp only [maxLen]; omega) (by omega) hbase
  have hv : ∃ sp' c', v' = .slice sp' (xs.length + 1) c' := by
    rcases h1.2 with ⟨hv, h0⟩ | ⟨g, cap, cur, hv, _⟩
    · omega
    · exact ⟨_, _, hv⟩
  obtain ⟨sp', c', rfl⟩ := hv
  rw [ownBlock_slice] at h2
  rw [ownBlock_slice, ownBlock_slice] at h5
  refine ⟨sp', c', w', hrun, ⟨?_, ?_⟩, h2, fun g hg => ?_⟩
  · rw [rowsP_snoc, List.length_append]
    exact h1
  · have hdn : ∀ g, blk x.2.1 = some g → blk sp ≠ some g := by
      intro g hg hs
      obtain ⟨cur, hc⟩ := hown.blk_is g hs
      exact hd.ne_block hc (by decide) hg
    exact (hown.dat.grownNe h2 hown.datNe).snoc (hd.grownNe h2 hdn) (fun g hg => ⟨hlo g hg, (hd.blk_lt g hg).2⟩) htt
  · rcases h5 with h5 | h5
    · exact .inl (h5.symm.trans hg)
    · rw [h5] at hg
      exact .inr (Nat.le_of_eq (Option.some.inj hg))
end Go.Proofs.Yticemhnfcelpmaa
