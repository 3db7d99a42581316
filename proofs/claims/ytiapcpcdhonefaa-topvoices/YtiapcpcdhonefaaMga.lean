/- Members, numbers and truths that came in, opened. -/
import Derived.Test.YtiapcpcdhonefaaMb1
import Derived.Lib.SmallJoins
import Derived.Deep.Slices
import Derived.Deep.Grids
namespace Go.Proofs.Ytiapcpcdhonefaa
open Go.ChangeShapes Go.WideShapes Go.ChangeAt Go.RowKit

theorem bytes64 : Try.prog.bytesOf 3 = 8 := by kernel_rfl
theorem row64S {H : Type} {enc : TypeId × Value → H} {W : World} {a : Option Addr} {len cap : Nat} {d : DataW H} {p : List MemPlace}
    (h : DataW.Trod enc Try.prog W 0 (fun _ => true) true 22 (.slice a len cap) d p) (hw : ∀ n ∈ d.weights Try.prog 22, n ≤ reachBytes) :
    ∃ l : List Int, l.length = len ∧ len * 8 ≤ 140737488351232 ∧ IntsAt W a l ∧ (a = none → cap = 0) := by
  obtain ⟨l, h1, _, h3⟩ := row64 h
  obtain ⟨fuel, hf⟩ := h
  rcases open_ints Try.underlying22 Try.underlying3 (by kernel_rfl) hf with ⟨hcs, hx⟩ | ⟨x, l', c, zs, hcs, _, hl, hm, hz, hx, hcell, hwz⟩
  · simp [Value.cells] at hcs
    obtain ⟨rfl, rfl, rfl⟩ := hcs
    exact ⟨l, h1, by omega, h3, fun _ => rfl⟩
  · simp [Value.cells] at hcs
    obtain ⟨rfl, rfl, rfl⟩ := hcs
    have hz' : zs.length = cap := by simpa using hz
    refine ⟨l, h1, ?_, h3, fun h => by cases h⟩
    obtain ⟨es, sp, rfl, he⟩ : ∃ es sp, d = .slice es sp ∧ es.length + sp.length = cap := ⟨_, _, (Prod.mk.inj hx).1, by simp [lits]; omega⟩
    have h4 := hw ((es.length + sp.length) * Try.prog.bytesOf 3) (by simp [DataW.weights, Try.underlying22])
    rw [bytes64] at h4
    simp only [reachBytes] at h4
    omega
theorem open_membersS {H : Type} {enc : TypeId × Value → H} {W : World} {r : Reach} {b0 : Nat} {v : Value} {d : DataW H} {p : List MemPlace} (hv : Value.okWide Try.prog W r b0 24 v)
    (h : DataW.Trod enc Try.prog W 0 (fun _ => true) true 24 v d p) (hw : ∀ n ∈ d.weights Try.prog 24, n ≤ reachBytes) :
    ∃ (va : Option Addr) (vc : Nat) (vs : List Int) (la : Option Addr) (lc : Nat) (ls : List Int), v = mV va vs.length vc la ls.length lc ∧ vs.length * 8 ≤ 140737488351232 ∧ IntsAt W va vs ∧ (va = none → vc = 0) ∧ ls.length * 8 ≤ 140737488351232 ∧ IntsAt W la ls ∧ (la = none → lc = 0) := by
  obtain ⟨v0, v1, y0, y1, m, rfl, hd, _, h0, h1⟩ := Joins.open_agg2 Try.underlying24 (by kernel_rfl) (by kernel_rfl) hv h
  obtain ⟨a, len, c, e0⟩ := Joins.slice_form Try.underlying22 h0
  obtain ⟨a', len', c', e1⟩ := Joins.slice_form Try.underlying22 h1
  simp only [List.cons.injEq, and_true] at e0 e1
  subst e0 e1
  have hw0 : ∀ n ∈ y0.1.weights Try.prog 22, n ≤ reachBytes := fun n hn => hw n (by rw [hd]; simp [DataW.weights, DataW.weightsEach, Try.underlying24, hn])
  have hw1 : ∀ n ∈ y1.1.weights Try.prog 22, n ≤ reachBytes := fun n hn => hw n (by rw [hd]; simp [DataW.weights, DataW.weightsEach, Try.underlying24, hn])
  obtain ⟨vs, rfl, a1, a2, a3⟩ := row64S (show DataW.Trod enc Try.prog W 0 (fun _ => true) true 22 (.slice a len c) y0.1 y0.2 from ⟨m, h0⟩) hw0
  obtain ⟨ls, rfl, b1, b2, b3⟩ := row64S (show DataW.Trod enc Try.prog W 0 (fun _ => true) true 22 (.slice a' len' c') y1.1 y1.2 from ⟨m, h1⟩) hw1
  exact ⟨a, c, vs, a', c', ls, rfl, a1, a2, a3, b1, b2, b3⟩
theorem row64D {H : Type} {enc : TypeId × Value → H} {W : World} {a : Option Addr} {len cap : Nat} {d : DataW H} {p : List MemPlace}
    (h : DataW.Trod enc Try.prog W 0 (fun _ => true) true 22 (.slice a len cap) d p) :
    ∃ l : List Int, l.length = len ∧ len ≤ cap ∧ IntsAt W a l ∧ (a = none → cap = 0) ∧ ((d = .nil ∧ cap = 0) ∨ ∃ es sp, d = .slice es sp ∧ es.length + sp.length = cap) := by
  obtain ⟨l, h1, _, h3⟩ := row64 h
  obtain ⟨fuel, hf⟩ := h
  rcases open_ints Try.underlying22 Try.underlying3 (by kernel_rfl) hf with ⟨hcs, hx⟩ | ⟨x, l', c, zs, hcs, _, hl, hm, hz, hx, hcell, hwz⟩
  · simp [Value.cells] at hcs
    obtain ⟨rfl, rfl, rfl⟩ := hcs
    exact ⟨l, h1, by omega, h3, (fun _ => rfl), .inl ⟨(Prod.mk.inj hx).1, rfl⟩⟩
  · simp [Value.cells] at hcs
    obtain ⟨rfl, rfl, rfl⟩ := hcs
    have hz' : zs.length = cap := by simpa using hz
    exact ⟨l, h1, by omega, h3, (fun h => by cases h), .inr ⟨_, _, (Prod.mk.inj hx).1, by simp [lits]; omega⟩⟩
theorem open_members {H : Type} {enc : TypeId × Value → H} {W : World} {r : Reach} {b0 : Nat} {v : Value} {d : DataW H} {p : List MemPlace} (hv : Value.okWide Try.prog W r b0 24 v)
    (h : DataW.Trod enc Try.prog W 0 (fun _ => true) true 24 v d p) :
    ∃ (va : Option Addr) (vc : Nat) (vs : List Int) (la : Option Addr) (lc : Nat) (ls : List Int), v = mV va vs.length vc la ls.length lc ∧ vs.length ≤ maxLen ∧ IntsAt W va vs ∧ (va = none → vc = 0) ∧ ls.length ≤ maxLen ∧ IntsAt W la ls ∧ (la = none → lc = 0) := by
  obtain ⟨v0, v1, y0, y1, m, rfl, hd, _, h0, h1⟩ := Joins.open_agg2 Try.underlying24 (by kernel_rfl) (by kernel_rfl) hv h
  obtain ⟨a, len, c, e0⟩ := Joins.slice_form Try.underlying22 h0
  obtain ⟨a', len', c', e1⟩ := Joins.slice_form Try.underlying22 h1
  simp only [List.cons.injEq, and_true] at e0 e1
  subst e0 e1
  have t0 : DataW.Trod enc Try.prog W 0 (fun _ => true) true 22 (.slice a len c) y0.1 y0.2 := ⟨m, h0⟩
  have t1 : DataW.Trod enc Try.prog W 0 (fun _ => true) true 22 (.slice a' len' c') y1.1 y1.2 := ⟨m, h1⟩
  obtain ⟨x0, hx0, hy0, _⟩ := row64 t0
  obtain ⟨x1, hx1, hy1, _⟩ := row64 t1
  obtain ⟨vs, rfl, _, a2, a3, _⟩ := row64D t0
  obtain ⟨ls, rfl, _, b2, b3, _⟩ := row64D t1
  exact ⟨a, c, vs, a', c', ls, rfl, hy0, a2, a3, hy1, b2, b3⟩
/-- The truths of a slice as they lie in memory. -/
structure BoolsAt (w : World) (a : Option Addr) (l : List Bool) : Prop where
  cell : ∀ i (hi : i < l.length), ∃ b off, a = some ⟨b, off, none⟩ ∧ w.cell? ⟨b, off + i, none⟩ = some (.bool l[i])
theorem BoolsAt.later {w w' : World} {a : Option Addr} {l : List Bool} (h : BoolsAt w a l) (hb : Below w.heap.size w w') : BoolsAt w' a l :=
  ⟨fun i hi => by obtain ⟨b, off, e, hc⟩ := h.cell i hi; exact ⟨b, off, e, cell_later hb hc⟩⟩
theorem rowB {H : Type} {enc : TypeId × Value → H} {W : World} {a : Option Addr} {len cap : Nat} {d : DataW H} {p : List MemPlace}
    (h : DataW.Trod enc Try.prog W 0 (fun _ => true) true 25 (.slice a len cap) d p) :
    ∃ l : List Bool, l.length = len ∧ len ≤ maxLen ∧ BoolsAt W a l := by
  obtain ⟨fuel, hf⟩ := h
  rcases Deep.open_bools Try.underlying25 Try.underlying4 (by kernel_rfl) hf with ⟨hcs, hx⟩ | ⟨x, l, c, B, hcs, _, hl, hm, hx, hcell⟩
  · simp [Value.cells] at hcs
    obtain ⟨rfl, rfl, rfl⟩ := hcs
    exact ⟨[], rfl, by simp [maxLen], ⟨by simp⟩⟩
  · simp [Value.cells] at hcs
    obtain ⟨rfl, rfl, rfl⟩ := hcs
    refine ⟨(List.range len).map B, by simp, by omega, ⟨fun i hi => ?_⟩⟩
    simp only [List.length_map, List.length_range] at hi
    have hc := hcell i (by omega)
    obtain ⟨b, off, spot⟩ := x
    have hspot : spot = none := by simpa [Addr.add] using World.cell?_spot (hcell 0 (by omega))
    subst hspot
    refine ⟨b, off, rfl, ?_⟩
    rw [Addr.add_lit] at hc
    rw [hc]
    simp
end Go.Proofs.Ytiapcpcdhonefaa
