/- Deeds that came in, opened. -/
import Derived.Test.YticemhnfcelpmaaArg
import Derived.Test.YticemhnfcelpmaaFl0
import Derived.Deep.Slices
import Derived.Lib.SmallJoins
namespace Go.Proofs.Yticemhnfcelpmaa
open Go.ChangeShapes Go.WideShapes Go.ChangeAt Go.RowKit

/-- A deed: its kind, from, to, which one, its bytes. -/
abbrev DeedI := Int × Int × Int × Int × List Nat
structure DeedsAt (w : World) (a : Option Addr) (es : List DeedI) : Prop where
  cell : ∀ i (hi : i < es.length), ∃ b off dp dc, a = some ⟨b, off, none⟩ ∧ w.cell? ⟨b, off + i * 5, none⟩ = some (.int .i64 (es[i]).1) ∧ w.cell? ⟨b, off + i * 5 + 1, none⟩ = some (.int .i64 (es[i]).2.1) ∧
    w.cell? ⟨b, off + i * 5 + 2, none⟩ = some (.int .i64 (es[i]).2.2.1) ∧ w.cell? ⟨b, off + i * 5 + 3, none⟩ = some (.int .i64 (es[i]).2.2.2.1) ∧ w.cell? ⟨b, off + i * 5 + 4, none⟩ = some (.slice dp (es[i]).2.2.2.2.length dc) ∧ BytesAt w dp (es[i]).2.2.2.2 ∧ (dp = none → dc = 0)
theorem DeedsAt.later {w w' : World} {a : Option Addr} {es : List DeedI} (h : DeedsAt w a es) (hb : Below w.heap.size w w') : DeedsAt w' a es :=
  ⟨fun i hi => by
    obtain ⟨b, off, dp, dc, h0, h1, h2, h3, h4, h5, h6, h7⟩ := h.cell i hi
    exact ⟨b, off, dp, dc, h0, cell_later hb h1, cell_later hb h2, cell_later hb h3, cell_later hb h4, cell_later hb h5, h6.later hb, h7⟩⟩
theorem cells5 {w : World} {a : Addr} {cs : List Value} (h : w.cells? 0 a 5 = some cs) : ∃ v0 v1 v2 v3 v4, cs = [v0, v1, v2, v3, v4] ∧ w.cell? (a.add 0) = some v0 ∧ w.cell? (a.add 1) = some v1 ∧ w.cell? (a.add 2) = some v2 ∧ w.cell? (a.add 3) = some v3 ∧ w.cell? (a.add 4) = some v4 := by
  unfold World.cells? at h
  rw [if_pos (Nat.zero_le _)] at h
  simp only [show List.range 5 = [0, 1, 2, 3, 4] from rfl, List.mapM_cons, List.mapM_nil, Option.bind_eq_bind, Option.bind_eq_some_iff, Option.pure_def, Option.some.injEq] at h
  obtain ⟨v0, h0, r, ⟨v1, h1, r1, ⟨v2, h2, r2, ⟨v3, h3, r3, ⟨v4, h4, r4, rfl, rfl⟩, rfl⟩, rfl⟩, rfl⟩, rfl⟩ := h
  exact ⟨v0, v1, v2, v3, v4, rfl, h0, h1, h2, h3, h4⟩
/-- The bounds of a deed that came in. -/
def DeedBd (e : DeedI) : Prop := In64 e.1 ∧ In64 e.2.1 ∧ In64 e.2.2.1 ∧ In64 e.2.2.2.1 ∧ e.2.2.2.2.length ≤ maxLen
theorem list5 {α : Type} {l : List α} (h : l.length = 5) : ∃ c0 c1 c2 c3 c4, l = [c0, c1, c2, c3, c4] := by
  match l, h with
  | [c0, c1, c2, c3, c4], _ => exact ⟨c0, c1, c2, c3, c4, rfl⟩
theorem deeds_arg {H : Type} {enc : TypeId × Value → H} {W : World} {a : Option Addr} {len cap : Nat} {d : DataW H} {p : List MemPlace}
    (h : DataW.Trod enc Try.prog W 0 (fun _ => true) true 22 (.slice a len cap) d p) :
    ∃ es : List DeedI, es.length = len ∧ len ≤ maxLen ∧ DeedsAt W a es ∧ ∀ e ∈ es, DeedBd e := by
  obtain ⟨fuel, hf⟩ := h
  have c5 : Try.prog.cellsOf 30 = 5 := by kernel_rfl
  rcases Deep.open_slice Try.underlying22 hf with ⟨hcs, _⟩ | ⟨x, l, c, m, n, D, Pl, hcs, _, hl, hm, hm', _, hel⟩
  · simp [Value.cells] at hcs
    obtain ⟨rfl, rfl, rfl⟩ := hcs
    exact ⟨[], rfl, by simp [maxLen], ⟨by simp⟩, by simp⟩
  · simp [Value.cells] at hcs
    obtain ⟨rfl, rfl, rfl⟩ := hcs
    have hmm : m = cap := by simpa using hm'
    rw [c5] at hel
    have hone : ∀ i, i < len → ∃ (e : DeedI) (dp : Option Addr) (dc : Nat), W.cell? ((x.add (i * 5)).add 0) = some (.int .i64 e.1) ∧ W.cell? ((x.add (i * 5)).add 1) = some (.int .i64 e.2.1) ∧ W.cell? ((x.add (i * 5)).add 2) = some (.int .i64 e.2.2.1) ∧ W.cell? ((x.add (i * 5)).add 3) = some (.int .i64 e.2.2.2.1) ∧ W.cell? ((x.add (i * 5)).add 4) = some (.slice dp e.2.2.2.2.length dc) ∧ BytesAt W dp e.2.2.2.2 ∧ (dp = none → dc = 0) ∧ DeedBd e := by
      intro i hi
      obtain ⟨cs', h1, h2⟩ := hel i (by omega)
      obtain ⟨v0, v1, v2, v3, v4, rfl, g0, g1, g2, g3, g4⟩ := cells5 h1
      obtain ⟨xs, n', _, _, _, hx, hfs⟩ := DataW.trod_struct Try.underlying30 h2
      obtain ⟨y0, y1, y2, y3, y4, rfl⟩ := list5 (show xs.length = 5 from hx)
      obtain ⟨k, e0, _, w0⟩ := DataW.trod_int Try.underlying3 (show DataW.trod enc Try.prog W 0 (fun _ => true) true n' 3 [v0] = some y0 from hfs 0 _ rfl)
      obtain ⟨f, e1, _, w1⟩ := DataW.trod_int Try.underlying3 (show DataW.trod enc Try.prog W 0 (fun _ => true) true n' 3 [v1] = some y1 from hfs 1 _ rfl)
      obtain ⟨t, e2, _, w2⟩ := DataW.trod_int Try.underlying3 (show DataW.trod enc Try.prog W 0 (fun _ => true) true n' 3 [v2] = some y2 from hfs 2 _ rfl)
      obtain ⟨j, e3, _, w3⟩ := DataW.trod_int Try.underlying3 (show DataW.trod enc Try.prog W 0 (fun _ => true) true n' 3 [v3] = some y3 from hfs 3 _ rfl)
      have t4 : DataW.trod enc Try.prog W 0 (fun _ => true) true n' 28 [v4] = some y4 := hfs 4 _ rfl
      obtain ⟨a', l', c', e4⟩ := Joins.slice_form Try.underlying28 t4
      simp only [List.cons.injEq, and_true] at e0 e1 e2 e3 e4
      subst e0 e1 e2 e3 e4
      have hs : DataW.Trod enc Try.prog W 0 (fun _ => true) true 28 (.slice a' l' c') y4.1 y4.2 := ⟨n', t4⟩
      obtain ⟨bs, rfl, hc, hx, hb, hz, _⟩ := row8 hs
      exact ⟨(k, f, t, j, bs), a', c', g0, g1, g2, g3, g4, hb, hz, i64_bounds w0, i64_bounds w1, i64_bounds w2, i64_bounds w3, by simp only; omega⟩
    obtain ⟨f, hfp⟩ := Deep.choose_lt (n := len) (p := fun i (e : DeedI) => ∃ (dp : Option Addr) (dc : Nat), W.cell? ((x.add (i * 5)).add 0) = some (.int .i64 e.1) ∧ W.cell? ((x.add (i * 5)).add 1) = some (.int .i64 e.2.1) ∧ W.cell? ((x.add (i * 5)).add 2) = some (.int .i64 e.2.2.1) ∧ W.cell? ((x.add (i * 5)).add 3) = some (.int .i64 e.2.2.2.1) ∧ W.cell? ((x.add (i * 5)).add 4) = some (.slice dp e.2.2.2.2.length dc) ∧ BytesAt W dp e.2.2.2.2 ∧ (dp = none → dc = 0) ∧ DeedBd e) (fun i hi => hone i hi)
    refine ⟨(List.range len).map f, by simp, by omega, ⟨fun i hi => ?_⟩, ?_⟩
    · simp only [List.length_map, List.length_range] at hi
      obtain ⟨dp, dc, h0, h1, h2, h3, h4, h5, h6, _⟩ := hfp i hi
      have e : ((List.range len).map f)[i]'(by simpa using hi) = f i := by simp
      rw [e]
      obtain ⟨b, off, spot⟩ := x
      obtain ⟨_, _, h00, _⟩ := hfp 0 (by omega)
      have hspot : spot = none := by simpa [Addr.add] using World.cell?_spot h00
      subst hspot
      simp only [Addr.add_lit] at h0 h1 h2 h3 h4
      exact ⟨b, off, dp, dc, rfl, h0, h1, h2, h3, h4, h5, h6⟩
    · intro e he
      obtain ⟨i, hi, rfl⟩ := List.mem_map.1 he
      obtain ⟨dp, dc, _, _, _, _, _, _, _, h6⟩ := hfp i (List.mem_range.1 hi)
      exact h6
end Go.Proofs.Yticemhnfcelpmaa
