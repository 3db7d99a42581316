/- Messages that came in, opened. -/
import Derived.Test.YtilkginjppgcoaaStr
import Derived.Test.YtilkginjppgcoaaSames
import Derived.Deep.Slices
namespace Go.Proofs.Ytilkginjppgcoaa
open Go.ChangeShapes Go.WideShapes Go.ChangeAt Go.RowKit

theorem cells4 {w : World} {a : Addr} {cs : List Value} (h : w.cells? 0 a 4 = some cs) : ∃ v0 v1 v2 v3, cs = [v0, v1, v2, v3] ∧ w.cell? (a.add 0) = some v0 ∧ w.cell? (a.add 1) = some v1 ∧ w.cell? (a.add 2) = some v2 ∧ w.cell? (a.add 3) = some v3 := by
  unfold World.cells? at h
  rw [if_pos (Nat.zero_le _)] at h
  simp only [show List.range 4 = [0, 1, 2, 3] from rfl, List.mapM_cons, List.mapM_nil, Option.bind_eq_bind, Option.bind_eq_some_iff, Option.pure_def, Option.some.injEq] at h
  obtain ⟨v0, h0, r, ⟨v1, h1, r1, ⟨v2, h2, r2, ⟨v3, h3, r3, rfl, rfl⟩, rfl⟩, rfl⟩, rfl⟩ := h
  exact ⟨v0, v1, v2, v3, rfl, h0, h1, h2, h3⟩
/-- The bounds of an entry that came in. -/
def EntBd (e : EntI) : Prop := (-9223372036854775808 ≤ e.1 ∧ e.1 ≤ 9223372036854775807) ∧ (-9223372036854775808 ≤ e.2.1 ∧ e.2.1 ≤ 9223372036854775807) ∧ (-9223372036854775808 ≤ e.2.2.1 ∧ e.2.2.1 ≤ 9223372036854775807) ∧ e.2.2.2.length ≤ maxLen
theorem ents_arg {H : Type} {enc : TypeId × Value → H} {W : World} {a : Option Addr} {len cap : Nat} {d : DataW H} {p : List MemPlace}
    (h : DataW.Trod enc Try.prog W 0 (fun _ => true) true 23 (.slice a len cap) d p) :
    ∃ es : List EntI, es.length = len ∧ len ≤ maxLen ∧ EntsAt W a es ∧ ∀ e ∈ es, EntBd e := by
  obtain ⟨fuel, hf⟩ := h
  have c4 : Try.prog.cellsOf 36 = 4 := by kernel_rfl
  rcases Deep.open_slice Try.underlying23 hf with ⟨hcs, _⟩ | ⟨x, l, c, m, n, D, Pl, hcs, _, hl, hm, hm', _, hel⟩
  · simp [Value.cells] at hcs
    obtain ⟨rfl, rfl, rfl⟩ := hcs
    exact ⟨[], rfl, by simp [maxLen], ⟨by simp⟩, by simp⟩
  · simp [Value.cells] at hcs
    obtain ⟨rfl, rfl, rfl⟩ := hcs
    have hmm : m = cap := by simpa using hm'
    rw [c4] at hel
    have hone : ∀ i, i < len → ∃ (e : EntI) (dp : Option Addr) (dc : Nat), W.cell? ((x.add (i * 4)).add 0) = some (.int .i64 e.1) ∧ W.cell? ((x.add (i * 4)).add 1) = some (.int .i64 e.2.1) ∧ W.cell? ((x.add (i * 4)).add 2) = some (.int .i64 e.2.2.1) ∧ W.cell? ((x.add (i * 4)).add 3) = some (.slice dp e.2.2.2.length dc) ∧ BytesAt W dp e.2.2.2 ∧ (dp = none → dc = 0) ∧ EntBd e := by
      intro i hi
      obtain ⟨cs', h1, h2⟩ := hel i (by omega)
      obtain ⟨v0, v1, v2, v3, rfl, g0, g1, g2, g3⟩ := cells4 h1
      obtain ⟨y0, y1, y2, y3, n', _, _, t0, t1, t2, t3⟩ := Joins.trod_struct4 Try.underlying36 h2
      obtain ⟨k, e0, _, w0⟩ := DataW.trod_int Try.underlying34 (show DataW.trod enc Try.prog W 0 (fun _ => true) true n' 34 [v0] = some y0 from t0)
      obtain ⟨t, e1, _, w1⟩ := DataW.trod_int Try.underlying3 (show DataW.trod enc Try.prog W 0 (fun _ => true) true n' 3 [v1] = some y1 from t1)
      obtain ⟨j, e2, _, w2⟩ := DataW.trod_int Try.underlying3 (show DataW.trod enc Try.prog W 0 (fun _ => true) true n' 3 [v2] = some y2 from t2)
      have t3' : DataW.trod enc Try.prog W 0 (fun _ => true) true n' 24 [v3] = some y3 := t3
      obtain ⟨a', l', c', e3⟩ := Joins.slice_form Try.underlying24 t3'
      simp only [List.cons.injEq, and_true] at e0 e1 e2 e3
      subst e0 e1 e2 e3
      have hs : DataW.Trod enc Try.prog W 0 (fun _ => true) true 24 (.slice a' l' c') y3.1 y3.2 := ⟨n', t3'⟩
      obtain ⟨bs, rfl, hc, hx, hb, hz, _⟩ := row8 hs
      exact ⟨(k, t, j, bs), a', c', g0, g1, g2, g3, hb, hz, i64_bounds w0, i64_bounds w1, i64_bounds w2, by simp only; omega⟩
    obtain ⟨f, hfp⟩ := Deep.choose_lt (n := len) (p := fun i (e : EntI) => ∃ (dp : Option Addr) (dc : Nat), W.cell? ((x.add (i * 4)).add 0) = some (.int .i64 e.1) ∧ W.cell? ((x.add (i * 4)).add 1) = some (.int .i64 e.2.1) ∧ W.cell? ((x.add (i * 4)).add 2) = some (.int .i64 e.2.2.1) ∧ W.cell? ((x.add (i * 4)).add 3) = some (.slice dp e.2.2.2.length dc) ∧ BytesAt W dp e.2.2.2 ∧ (dp = none → dc = 0) ∧ EntBd e) (fun i hi => hone i hi)
    refine ⟨(List.range len).map f, by simp, by omega, ⟨fun i hi => ?_⟩, ?_⟩
    · simp only [List.length_map, List.length_range] at hi
      obtain ⟨dp, dc, h0, h1, h2, h3, h4, h5, _⟩ := hfp i hi
      have e : ((List.range len).map f)[i]'(by simpa using hi) = f i := by simp
      rw [e]
      obtain ⟨b, off, spot⟩ := x
      obtain ⟨_, _, h00, _⟩ := hfp 0 (by omega)
      have hspot : spot = none := by simpa [Addr.add] using World.cell?_spot h00
      subst hspot
      simp only [Addr.add_lit] at h0 h1 h2 h3
      exact ⟨b, off, dp, dc, rfl, h0, h1, h2, h3, h4, h5⟩
    · intro e he
      obtain ⟨i, hi, rfl⟩ := List.mem_map.1 he
      obtain ⟨dp, dc, _, _, _, _, _, _, h6⟩ := hfp i (List.mem_range.1 hi)
      exact h6
theorem array12 {α : Type} {cs : Array α} (h : cs.size = 12) : ∃ c0 c1 c2 c3 c4 c5 c6 c7 c8 c9 c10 c11, cs = #[c0, c1, c2, c3, c4, c5, c6, c7, c8, c9, c10, c11] := by
  obtain ⟨l⟩ := cs
  match l, h with
  | [c0, c1, c2, c3, c4, c5, c6, c7, c8, c9, c10, c11], _ => exact ⟨c0, c1, c2, c3, c4, c5, c6, c7, c8, c9, c10, c11, rfl⟩
theorem list12 {α : Type} {l : List α} (h : l.length = 12) : ∃ c0 c1 c2 c3 c4 c5 c6 c7 c8 c9 c10 c11, l = [c0, c1, c2, c3, c4, c5, c6, c7, c8, c9, c10, c11] := by
  match l, h with
  | [c0, c1, c2, c3, c4, c5, c6, c7, c8, c9, c10, c11], _ => exact ⟨c0, c1, c2, c3, c4, c5, c6, c7, c8, c9, c10, c11, rfl⟩
theorem open_msg {H : Type} {enc : TypeId × Value → H} {W : World} {r : Reach} {b0 : Nat} {v : Value} {d : DataW H} {p : List MemPlace} (hv : Value.okWide Try.prog W r b0 26 v)
    (h : DataW.Trod enc Try.prog W 0 (fun _ => true) true 26 v d p) : ∃ (kd fr to t ix lt cm hi ro : Int) (bo : Bool) (ep : Option Addr) (ec : Nat) (es : List EntI) (dp : Option Addr) (dc : Nat) (dl : List Nat),
      v = .agg #[.int .i64 kd, .int .i64 fr, .int .i64 to, .int .i64 t, .int .i64 ix, .int .i64 lt, .int .i64 cm, .int .i64 hi, .int .i64 ro, .bool bo, .slice ep es.length ec, .slice dp dl.length dc] ∧ es.length ≤ maxLen ∧ EntsAt W ep es ∧ (∀ e ∈ es, EntBd e) ∧ dl.length ≤ dc ∧ dc ≤ maxLen ∧ BytesAt W dp dl ∧ (dp = none → dc = 0) := by
  obtain ⟨cs, rfl, hsz⟩ := okWide_struct Try.underlying26 hv
  have c12 : Try.prog.cellsOf 26 = 12 := by kernel_rfl
  obtain ⟨v0, v1, v2, v3, v4, v5, v6, v7, v8, v9, v10, v11, rfl⟩ := array12 (hsz.trans c12)
  obtain ⟨fuel, hf⟩ := h
  obtain ⟨xs, n, _, _, _, hx, hfs⟩ := DataW.trod_struct Try.underlying26 hf
  obtain ⟨y0, y1, y2, y3, y4, y5, y6, y7, y8, y9, y10, y11, rfl⟩ := list12 (show xs.length = 12 from hx)
  obtain ⟨kd, e0, _, _⟩ := DataW.trod_int Try.underlying22 (show DataW.trod enc Try.prog W 0 (fun _ => true) true n 22 [v0] = some y0 from hfs 0 _ rfl)
  obtain ⟨fr, e1, _, _⟩ := DataW.trod_int Try.underlying3 (show DataW.trod enc Try.prog W 0 (fun _ => true) true n 3 [v1] = some y1 from hfs 1 _ rfl)
  obtain ⟨to, e2, _, _⟩ := DataW.trod_int Try.underlying3 (show DataW.trod enc Try.prog W 0 (fun _ => true) true n 3 [v2] = some y2 from hfs 2 _ rfl)
  obtain ⟨t, e3, _, _⟩ := DataW.trod_int Try.underlying3 (show DataW.trod enc Try.prog W 0 (fun _ => true) true n 3 [v3] = some y3 from hfs 3 _ rfl)
  obtain ⟨ix, e4, _, _⟩ := DataW.trod_int Try.underlying3 (show DataW.trod enc Try.prog W 0 (fun _ => true) true n 3 [v4] = some y4 from hfs 4 _ rfl)
  obtain ⟨lt, e5, _, _⟩ := DataW.trod_int Try.underlying3 (show DataW.trod enc Try.prog W 0 (fun _ => true) true n 3 [v5] = some y5 from hfs 5 _ rfl)
  obtain ⟨cm, e6, _, _⟩ := DataW.trod_int Try.underlying3 (show DataW.trod enc Try.prog W 0 (fun _ => true) true n 3 [v6] = some y6 from hfs 6 _ rfl)
  obtain ⟨hi, e7, _, _⟩ := DataW.trod_int Try.underlying3 (show DataW.trod enc Try.prog W 0 (fun _ => true) true n 3 [v7] = some y7 from hfs 7 _ rfl)
  obtain ⟨ro, e8, _, _⟩ := DataW.trod_int Try.underlying3 (show DataW.trod enc Try.prog W 0 (fun _ => true) true n 3 [v8] = some y8 from hfs 8 _ rfl)
  have u9 : DataW.trod enc Try.prog W 0 (fun _ => true) true n 4 [v9] = some y9 := hfs 9 _ rfl
  have u10 : DataW.trod enc Try.prog W 0 (fun _ => true) true n 23 [v10] = some y10 := hfs 10 _ rfl
  have u11 : DataW.trod enc Try.prog W 0 (fun _ => true) true n 24 [v11] = some y11 := hfs 11 _ rfl
  obtain ⟨bo, e9, _⟩ := DataW.trod_bool Try.underlying4 u9
  obtain ⟨ea, el, ec, e10⟩ := Joins.slice_form Try.underlying23 u10
  obtain ⟨da, dl, dc, e11⟩ := Joins.slice_form Try.underlying24 u11
  simp only [List.cons.injEq, and_true] at e0 e1 e2 e3 e4 e5 e6 e7 e8 e9 e10 e11
  subst e0 e1 e2 e3 e4 e5 e6 e7 e8 e9 e10 e11
  obtain ⟨es, rfl, h1, h2, h3⟩ := ents_arg (show DataW.Trod enc Try.prog W 0 (fun _ => true) true 23 (.slice ea el ec) y10.1 y10.2 from ⟨n, u10⟩)
  obtain ⟨bs, rfl, hc, hx', hb, hz, _⟩ := row8 (show DataW.Trod enc Try.prog W 0 (fun _ => true) true 24 (.slice da dl dc) y11.1 y11.2 from ⟨n, u11⟩)
  exact ⟨kd, fr, to, t, ix, lt, cm, hi, ro, bo, ea, ec, es, da, dc, bs, rfl, h1, h2, h3, hc, hx', hb, hz⟩
end Go.Proofs.Ytilkginjppgcoaa
