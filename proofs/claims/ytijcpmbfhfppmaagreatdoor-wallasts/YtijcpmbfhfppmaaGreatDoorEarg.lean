/- Entries that came in, opened (without messages). -/
import Derived.Test.YtijcpmbfhfppmaaGreatDoorStr
import Derived.Test.YtijcpmbfhfppmaaGreatDoorSames
import Derived.Deep.Slices
namespace Go.Proofs.YtijcpmbfhfppmaaGreatDoor
open Go.ChangeShapes Go.WideShapes Go.ChangeAt Go.RowKit

theorem cells4 {w : World} {a : Addr} {cs : List Value} (h : w.cells? 0 a 4 = some cs) : ∃ v0 v1 v2 v3, cs = [v0, v1, v2, v3] ∧ w.cell? (a.add 0) = some v0 ∧ w.cell? (a.add 1) = some v1 ∧ w.cell? (a.add 2) = some v2 ∧ w.cell? (a.add 3) = some v3 := by
  unfold World.cells? at h
  rw [if_pos (Nat.zero_le _)] at h
  simp only [show List.range 4 = [0, 1, 2, 3] from rfl, List.mapM_cons, List.mapM_nil, Option.bind_eq_bind, Option.bind_eq_some_iff, Option.pure_def, Option.some.injEq] at h
  obtain ⟨v0, h0, r, ⟨v1, h1, r1, ⟨v2, h2, r2, ⟨v3, h3, r3, rfl, rfl⟩, rfl⟩, rfl⟩, rfl⟩ := h
  exact ⟨v0, v1, v2, v3, rfl, h0, h1, h2, h3⟩
/-- The bounds of an entry that came in. -/
def EntBd (e : EntI) : Prop := (-9223372036854775808 ≤ e.1 ∧ e.1 ≤ 9223372036854775807) ∧ (-9223372036854775808 ≤ e.2.1 ∧ e.2.1 ≤ 9223372036854775807) ∧ (-9223372036854775808 ≤ e.2.2.1 ∧ e.2.2.1 ≤ 9223372036854775807) ∧ e.2.2.2.length ≤ maxLen
set_option maxRecDepth 20000 in
theorem ents_arg {H : Type} {enc : TypeId × Value → H} {W : World} {a : Option Addr} {len cap : Nat} {d : DataW H} {p : List MemPlace}
    (h : DataW.Trod enc Tryz.prog W 0 (fun _ => true) true 27 (.slice a len cap) d p) :
    ∃ es : List EntI, es.length = len ∧ len ≤ maxLen ∧ EntsAt W a es ∧ ∀ e ∈ es, EntBd e := by
  obtain ⟨fuel, hf⟩ := h
  have c4 : Tryz.prog.cellsOf 60 = 4 := by kernel_rfl
  rcases Deep.open_slice Tryz.underlying27 hf with ⟨hcs, _⟩ | ⟨x, l, c, m, n, D, Pl, hcs, _, hl, hm, hm', _, hel⟩
  · simp [Value.cells] at hcs
    obtain ⟨rfl, rfl, rfl⟩ := hcs
    exact ⟨[], rfl, by simp [maxLen], ⟨by simp⟩, by simp⟩
  · simp [Value.cells] at hcs
    obtain ⟨rfl, rfl, rfl⟩ := hcs
    have hmm : m = cap := by simpa using hm'
    rw [c4] at hel
    have hone : ∀ i, i < len → ∃ (e : EntI) (dp : Option Addr) (dc : Nat), W.cell? ((x.add (i * 4)).add 0) = some (.int .i64 e.1) ∧ W.cell? ((x.add (i * 4)).add 1) = some (.int .i64 e.2.1) ∧ W.cell? ((x.add (i * 4)).add 2) = some (.int .i64 e.2.2.1) ∧ W.cell? ((x.add (i * 4)).add 3) = some (.slice dp e.2.2.2.length dc) ∧ BytesAt W dp e.2.2.2 ∧ (dp = none → dc = 0) ∧ EntBd e := by
      intro i hi
      obtain ⟨cs', h1, h2⟩ := hel i (by omega)
      obtain ⟨v0, v1, v2, v3, rfl, g0, g1, g2, g3⟩ := cells4 h1
      obtain ⟨y0, y1, y2, y3, n', _, _, t0, t1, t2, t3⟩ := Joins.trod_struct4 Tryz.underlying60 h2
      obtain ⟨k, e0, _, w0⟩ := DataW.trod_int Tryz.underlying57 (show DataW.trod enc Tryz.prog W 0 (fun _ => true) true n' 57 [v0] = some y0 from t0)
      obtain ⟨t, e1, _, w1⟩ := DataW.trod_int Tryz.underlying3 (show DataW.trod enc Tryz.prog W 0 (fun _ => true) true n' 3 [v1] = some y1 from t1)
      obtain ⟨j, e2, _, w2⟩ := DataW.trod_int Tryz.underlying3 (show DataW.trod enc Tryz.prog W 0 (fun _ => true) true n' 3 [v2] = some y2 from t2)
      have t3' : DataW.trod enc Tryz.prog W 0 (fun _ => true) true n' 58 [v3] = some y3 := t3
      obtain ⟨a', l', c', e3⟩ := Joins.slice_form Tryz.underlying58 t3'
      simp only [List.cons.injEq, and_true] at e0 e1 e2 e3
      subst e0 e1 e2 e3
      have hs : DataW.Trod enc Tryz.prog W 0 (fun _ => true) true 58 (.slice a' l' c') y3.1 y3.2 := ⟨n', t3'⟩
      obtain ⟨bs, rfl, hc, hx, hb, hz, _⟩ := row8 hs
      exact ⟨(k, t, j, bs), a', c', g0, g1, g2, g3, hb, hz, i64_bounds w0, i64_bounds w1, i64_bounds w2, by simp only; omega⟩
    obtain ⟨f, hfp⟩ := Deep.choose_lt (n := len) (p := fun i (e : EntI) => ∃ (dp : Option Addr) (dc : Nat), W.cell? ((x.add (i * 4)).add 0) = some (.int .i64 e.1) ∧ W.cell? ((x.add (i * 4)).add 1) = some (.int .i64 e.2.1) ∧ W.cell? ((x.add (i * 4)).add 2) = some (.int .i64 e.2.2.1) ∧ W.cell? ((x.add (i * 4)).add 3) = some (.slice dp e.2.2.2.length dc) ∧ BytesAt W dp e.2.2.2 ∧ (dp = none → dc = 0) ∧ EntBd e) (fun i hi => hone i hi)
    refine ⟨(List.range len).map f, by simp, by omega, ⟨fun i hi => ?_⟩, ?_⟩
    · simp only [List.length_map, List.length_range] at hi
      obtain ⟨dp, dc, h0, h1, h2, h3, h4, h5, _⟩ := hfp i hi
      have e : ((List.range len).map f)[i]'(by simpa using hi) = f i := by simp
      rw [e]
      obtain ⟨b, off, spot⟩ := x
      obtain ⟨_, _, h00, _⟩ := hfp 0 (by omega)
      have hspot : spot = none := by simpa [Addr.add] using World.cell?_spot h00
      subst hspot
      simp only [Addr.add_lit] at h0 h1 h2 h3
      exact ⟨b, off, dp, dc, rfl, h0, h1, h2, h3, h4, h5⟩
    · intro e he
      obtain ⟨i, hi, rfl⟩ := List.mem_map.1 he
      obtain ⟨dp, dc, _, _, _, _, _, _, h6⟩ := hfp i (List.mem_range.1 hi)
      exact h6
end Go.Proofs.YtijcpmbfhfppmaaGreatDoor
