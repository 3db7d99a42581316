/- Members, places, changes and lists that came in, opened, with their sizes. -/
import Derived.Test.YtnclkkoefejjiaaMb8
import Derived.Lib.SmallJoins
import Derived.Deep.Slices
namespace Go.Proofs.Ytnclkkoefejjiaa
open Go.ChangeShapes Go.WideShapes Go.ChangeAt Go.RowKit

theorem bytes64 : Try.prog.bytesOf 3 = 8 := by kernel_rfl
theorem bytesAt2 : Try.prog.bytesOf 36 = 16 := by kernel_rfl
theorem row64S {H : Type} {enc : TypeId × Value → H} {W : World} {a : Option Addr} {len cap : Nat} {d : DataW H} {p : List MemPlace}
    (h : DataW.Trod enc Try.prog W 0 (fun _ => true) true 22 (.slice a len cap) d p) (hw : ∀ n ∈ d.weights Try.prog 22, n ≤ reachBytes) :
    ∃ l : List Int, l.length = len ∧ len * 8 ≤ 140737488351232 ∧ IntsAt W a l ∧ (a = none → cap = 0) := by
  obtain ⟨l, h1, _, h3⟩ := row64 h
  obtain ⟨fuel, hf⟩ := h
  rcases open_ints Try.underlying22 Try.underlying3 (by kernel_rfl) hf with ⟨hcs, hx⟩ | ⟨x, l', c, zs, hcs, _, hl, hm, hz, hx, hcell, hwz⟩
  · simp [Value.cells] at hcs
    obtain ⟨rfl, rfl, rfl⟩ := hcs
    exact ⟨l, h1, by omega, h3, fun _ => rfl⟩
  · simp [Value.cells] at hcs
    obtain ⟨rfl, rfl, rfl⟩ := hcs
    have hz' : zs.length = cap := by simpa using hz
    refine ⟨l, h1, ?_, h3, fun h => by cases h⟩
    obtain ⟨es, sp, rfl, he⟩ : ∃ es sp, d = .slice es sp ∧ es.length + sp.length = cap := ⟨_, _, (Prod.mk.inj hx).1, by simp [lits]; omega⟩
    have h4 := hw ((es.length + sp.length) * Try.prog.bytesOf 3) (by simp [DataW.weights, Try.underlying22])
    rw [bytes64] at h4
    simp only [reachBytes] at h4
    omega
theorem open_membersS {H : Type} {enc : TypeId × Value → H} {W : World} {r : Reach} {b0 : Nat} {v : Value} {d : DataW H} {p : List MemPlace} (hv : Value.okWide Try.prog W r b0 24 v)
    (h : DataW.Trod enc Try.prog W 0 (fun _ => true) true 24 v d p) (hw : ∀ n ∈ d.weights Try.prog 24, n ≤ reachBytes) :
    ∃ (va : Option Addr) (vc : Nat) (vs : List Int) (la : Option Addr) (lc : Nat) (ls : List Int), v = mV va vs.length vc la ls.length lc ∧ vs.length * 8 ≤ 140737488351232 ∧ IntsAt W va vs ∧ (va = none → vc = 0) ∧ ls.length * 8 ≤ 140737488351232 ∧ IntsAt W la ls ∧ (la = none → lc = 0) := by
  obtain ⟨v0, v1, y0, y1, m, rfl, hd, _, h0, h1⟩ := Joins.open_agg2 Try.underlying24 (by kernel_rfl) (by kernel_rfl) hv h
  obtain ⟨a, len, c, e0⟩ := Joins.slice_form Try.underlying22 h0
  obtain ⟨a', len', c', e1⟩ := Joins.slice_form Try.underlying22 h1
  simp only [List.cons.injEq, and_true] at e0 e1
  subst e0 e1
  have hw0 : ∀ n ∈ y0.1.weights Try.prog 22, n ≤ reachBytes := fun n hn => hw n (by rw [hd]; simp [DataW.weights, DataW.weightsEach, Try.underlying24, hn])
  have hw1 : ∀ n ∈ y1.1.weights Try.prog 22, n ≤ reachBytes := fun n hn => hw n (by rw [hd]; simp [DataW.weights, DataW.weightsEach, Try.underlying24, hn])
  obtain ⟨vs, rfl, a1, a2, a3⟩ := row64S (show DataW.Trod enc Try.prog W 0 (fun _ => true) true 22 (.slice a len c) y0.1 y0.2 from ⟨m, h0⟩) hw0
  obtain ⟨ls, rfl, b1, b2, b3⟩ := row64S (show DataW.Trod enc Try.prog W 0 (fun _ => true) true 22 (.slice a' len' c') y1.1 y1.2 from ⟨m, h1⟩) hw1
  exact ⟨a, c, vs, a', c', ls, rfl, a1, a2, a3, b1, b2, b3⟩
theorem open_listsS {H : Type} {enc : TypeId × Value → H} {W : World} {r : Reach} {b0 : Nat} {v : Value} {d : DataW H} {p : List MemPlace} (hv : Value.okWide Try.prog W r b0 46 v)
    (h : DataW.Trod enc Try.prog W 0 (fun _ => true) true 46 v d p) (hw : ∀ n ∈ d.weights Try.prog 46, n ≤ reachBytes) :
    ∃ (va : Option Addr) (vc : Nat) (vs : List Int) (la : Option Addr) (lc : Nat) (ls : List Int), v = mV va vs.length vc la ls.length lc ∧ vs.length * 8 ≤ 140737488351232 ∧ IntsAt W va vs ∧ (va = none → vc = 0) ∧ ls.length * 8 ≤ 140737488351232 ∧ IntsAt W la ls ∧ (la = none → lc = 0) := by
  obtain ⟨v0, v1, y0, y1, m, rfl, hd, _, h0, h1⟩ := Joins.open_agg2 Try.underlying46 (by kernel_rfl) (by kernel_rfl) hv h
  obtain ⟨a, len, c, e0⟩ := Joins.slice_form Try.underlying22 h0
  obtain ⟨a', len', c', e1⟩ := Joins.slice_form Try.underlying22 h1
  simp only [List.cons.injEq, and_true] at e0 e1
  subst e0 e1
  have hw0 : ∀ n ∈ y0.1.weights Try.prog 22, n ≤ reachBytes := fun n hn => hw n (by rw [hd]; simp [DataW.weights, DataW.weightsEach, Try.underlying46, hn])
  have hw1 : ∀ n ∈ y1.1.weights Try.prog 22, n ≤ reachBytes := fun n hn => hw n (by rw [hd]; simp [DataW.weights, DataW.weightsEach, Try.underlying46, hn])
  obtain ⟨vs, rfl, a1, a2, a3⟩ := row64S (show DataW.Trod enc Try.prog W 0 (fun _ => true) true 22 (.slice a len c) y0.1 y0.2 from ⟨m, h0⟩) hw0
  obtain ⟨ls, rfl, b1, b2, b3⟩ := row64S (show DataW.Trod enc Try.prog W 0 (fun _ => true) true 22 (.slice a' len' c') y1.1 y1.2 from ⟨m, h1⟩) hw1
  exact ⟨a, c, vs, a', c', ls, rfl, a1, a2, a3, b1, b2, b3⟩
theorem open_change {H : Type} {enc : TypeId × Value → H} {W : World} {r : Reach} {b0 : Nat} {v : Value} {d : DataW H} {p : List MemPlace} (hv : Value.okWide Try.prog W r b0 40 v)
    (h : DataW.Trod enc Try.prog W 0 (fun _ => true) true 40 v d p) : ∃ t n : Int, v = .agg #[.int .i64 t, .int .i64 n] ∧ (-9223372036854775808 ≤ t ∧ t ≤ 9223372036854775807) ∧ (-9223372036854775808 ≤ n ∧ n ≤ 9223372036854775807) := by
  obtain ⟨v0, v1, y0, y1, m, rfl, _, _, h0, h1⟩ := Joins.open_agg2 Try.underlying40 (by kernel_rfl) (by kernel_rfl) hv h
  obtain ⟨t, e0, _, w0⟩ := DataW.trod_int Try.underlying38 h0
  obtain ⟨n, e1, _, w1⟩ := DataW.trod_int Try.underlying3 h1
  simp only [List.cons.injEq, and_true] at e0 e1
  subst e0 e1
  exact ⟨t, n, rfl, i64_bounds w0, i64_bounds w1⟩
theorem cells2 {w : World} {a : Addr} {cs : List Value} (h : w.cells? 0 a 2 = some cs) : ∃ v0 v1, cs = [v0, v1] ∧ w.cell? (a.add 0) = some v0 ∧ w.cell? (a.add 1) = some v1 := by
  unfold World.cells? at h
  rw [if_pos (Nat.zero_le _)] at h
  simp only [show List.range 2 = [0, 1] from rfl, List.mapM_cons, List.mapM_nil, Option.bind_eq_bind, Option.bind_eq_some_iff, Option.pure_def, Option.some.injEq] at h
  obtain ⟨v0, h0, r, ⟨v1, h1, r1, rfl, rfl⟩, rfl⟩ := h
  exact ⟨v0, v1, rfl, h0, h1⟩
theorem list2 {α : Type} {l : List α} (h : l.length = 2) : ∃ c0 c1, l = [c0, c1] := by
  match l, h with
  | [c0, c1], _ => exact ⟨c0, c1, rfl⟩
set_option maxRecDepth 20000 in
theorem ats_argS {H : Type} {enc : TypeId × Value → H} {W : World} {a : Option Addr} {len cap : Nat} {d : DataW H} {p : List MemPlace}
    (h : DataW.Trod enc Try.prog W 0 (fun _ => true) true 33 (.slice a len cap) d p) (hw : ∀ n ∈ d.weights Try.prog 33, n ≤ reachBytes) :
    ∃ es : List (Int × Int), es.length = len ∧ len * 16 ≤ 140737488351232 ∧ AtsAt W a es ∧ (a = none → cap = 0) := by
  obtain ⟨fuel, hf⟩ := h
  have c2 : Try.prog.cellsOf 36 = 2 := by kernel_rfl
  rcases Deep.open_slice Try.underlying33 hf with ⟨hcs, _⟩ | ⟨x, l, c, m, n, D, Pl, hcs, _, hl, hm, hm', hxd, hel⟩
  · simp [Value.cells] at hcs
    obtain ⟨rfl, rfl, rfl⟩ := hcs
    exact ⟨[], rfl, by omega, ⟨by simp, by simp⟩, fun _ => rfl⟩
  · simp [Value.cells] at hcs
    obtain ⟨rfl, rfl, rfl⟩ := hcs
    have hmm : m = cap := by simpa using hm'
    rw [c2] at hel
    have hd : d = .slice ((List.range len).map D) ((List.range (m - len)).map fun j => D (len + j)) := (Prod.mk.inj hxd).1
    have hlen16 : len * 16 ≤ 140737488351232 := by
      have h4 := hw ((((List.range len).map D).length + ((List.range (m - len)).map fun j => D (len + j)).length) * Try.prog.bytesOf 36) (by rw [hd]; simp [DataW.weights, Try.underlying33])
      rw [bytesAt2] at h4
      simp only [reachBytes, List.length_map, List.length_range] at h4
      omega
    have hone : ∀ i, i < len → ∃ (e : Int × Int), W.cell? ((x.add (i * 2)).add 0) = some (.int .i64 e.1) ∧ W.cell? ((x.add (i * 2)).add 1) = some (.int .i64 e.2) ∧ In64 e.1 ∧ In64 e.2 := by
      intro i hi
      obtain ⟨cs', h1, h2⟩ := hel i (by omega)
      obtain ⟨v0, v1, rfl, g0, g1⟩ := cells2 h1
      obtain ⟨xs, n', _, _, _, hx, hfs⟩ := DataW.trod_struct Try.underlying36 h2
      obtain ⟨y0, y1, rfl⟩ := list2 (show xs.length = 2 from hx)
      obtain ⟨k, e0, _, w0⟩ := DataW.trod_int Try.underlying3 (show DataW.trod enc Try.prog W 0 (fun _ => true) true n' 3 [v0] = some y0 from hfs 0 _ rfl)
      obtain ⟨f, e1, _, w1⟩ := DataW.trod_int Try.underlying3 (show DataW.trod enc Try.prog W 0 (fun _ => true) true n' 3 [v1] = some y1 from hfs 1 _ rfl)
      simp only [List.cons.injEq, and_true] at e0 e1
      subst e0 e1
      exact ⟨(k, f), g0, g1, i64_bounds w0, i64_bounds w1⟩
    obtain ⟨f, hfp⟩ := Deep.choose_lt (n := len) (p := fun i (e : Int × Int) => W.cell? ((x.add (i * 2)).add 0) = some (.int .i64 e.1) ∧ W.cell? ((x.add (i * 2)).add 1) = some (.int .i64 e.2) ∧ In64 e.1 ∧ In64 e.2) (fun i hi => hone i hi)
    refine ⟨(List.range len).map f, by simp, hlen16, ⟨?_, fun i hi => ?_⟩, fun h => by cases h⟩
    · intro e he
      obtain ⟨i, hi, rfl⟩ := List.mem_map.1 he
      exact (hfp i (List.mem_range.1 hi)).2.2
    · simp only [List.length_map, List.length_range] at hi
      obtain ⟨h0, h1, _⟩ := hfp i hi
      have e : ((List.range len).map f)[i]'(by simpa using hi) = f i := by simp
      rw [e]
      obtain ⟨b, off, spot⟩ := x
      have hspot : spot = none := by simpa [Addr.add] using World.cell?_spot (hfp 0 (by omega)).1
      subst hspot
      simp only [Addr.add_lit] at h0 h1
      exact ⟨b, off, rfl, h0, h1⟩
theorem row64D {H : Type} {enc : TypeId × Value → H} {W : World} {a : Option Addr} {len cap : Nat} {d : DataW H} {p : List MemPlace}
    (h : DataW.Trod enc Try.prog W 0 (fun _ => true) true 22 (.slice a len cap) d p) :
    ∃ l : List Int, l.length = len ∧ len ≤ cap ∧ IntsAt W a l ∧ (a = none → cap = 0) ∧ ((d = .nil ∧ cap = 0) ∨ ∃ es sp, d = .slice es sp ∧ es.length + sp.length = cap) := by
  obtain ⟨l, h1, _, h3⟩ := row64 h
  obtain ⟨fuel, hf⟩ := h
  rcases open_ints Try.underlying22 Try.underlying3 (by kernel_rfl) hf with ⟨hcs, hx⟩ | ⟨x, l', c, zs, hcs, _, hl, hm, hz, hx, hcell, hwz⟩
  · simp [Value.cells] at hcs
    obtain ⟨rfl, rfl, rfl⟩ := hcs
    exact ⟨l, h1, by omega, h3, (fun _ => rfl), .inl ⟨(Prod.mk.inj hx).1, rfl⟩⟩
  · simp [Value.cells] at hcs
    obtain ⟨rfl, rfl, rfl⟩ := hcs
    have hz' : zs.length = cap := by simpa using hz
    exact ⟨l, h1, by omega, h3, (fun h => by cases h), .inr ⟨_, _, (Prod.mk.inj hx).1, by simp [lits]; omega⟩⟩
theorem open_members {H : Type} {enc : TypeId × Value → H} {W : World} {r : Reach} {b0 : Nat} {v : Value} {d : DataW H} {p : List MemPlace} (hv : Value.okWide Try.prog W r b0 24 v)
    (h : DataW.Trod enc Try.prog W 0 (fun _ => true) true 24 v d p) :
    ∃ (va : Option Addr) (vc : Nat) (vs : List Int) (la : Option Addr) (lc : Nat) (ls : List Int), v = mV va vs.length vc la ls.length lc ∧ vs.length ≤ maxLen ∧ IntsAt W va vs ∧ (va = none → vc = 0) ∧ ls.length ≤ maxLen ∧ IntsAt W la ls ∧ (la = none → lc = 0) := by
  obtain ⟨v0, v1, y0, y1, m, rfl, hd, _, h0, h1⟩ := Joins.open_agg2 Try.underlying24 (by kernel_rfl) (by kernel_rfl) hv h
  obtain ⟨a, len, c, e0⟩ := Joins.slice_form Try.underlying22 h0
  obtain ⟨a', len', c', e1⟩ := Joins.slice_form Try.underlying22 h1
  simp only [List.cons.injEq, and_true] at e0 e1
  subst e0 e1
  have t0 : DataW.Trod enc Try.prog W 0 (fun _ => true) true 22 (.slice a len c) y0.1 y0.2 := ⟨m, h0⟩
  have t1 : DataW.Trod enc Try.prog W 0 (fun _ => true) true 22 (.slice a' len' c') y1.1 y1.2 := ⟨m, h1⟩
  obtain ⟨x0, hx0, hy0, _⟩ := row64 t0
  obtain ⟨x1, hx1, hy1, _⟩ := row64 t1
  obtain ⟨vs, rfl, _, a2, a3, _⟩ := row64D t0
  obtain ⟨ls, rfl, _, b2, b3, _⟩ := row64D t1
  exact ⟨a, c, vs, a', c', ls, rfl, hy0, a2, a3, hy1, b2, b3⟩
end Go.Proofs.Ytnclkkoefejjiaa
