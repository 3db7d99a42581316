/- Hard states and entries that came in, opened. -/
import Derived.Test.YtijcpmbfhfppmaaGreatDoorArg
import Derived.Lib.SmallJoins
namespace Go.Proofs.YtijcpmbfhfppmaaGreatDoor
open Go.ChangeShapes Go.WideShapes Go.ChangeAt Go.RowKit

set_option maxRecDepth 100000
theorem open_hard {H : Type} {enc : TypeId × Value → H} {W : World} {r : Reach} {b0 : Nat} {v : Value} {d : DataW H} {p : List MemPlace} (hv : Value.okWide Tryz.prog W r b0 29 v)
    (h : DataW.Trod enc Tryz.prog W 0 (fun _ => true) true 29 v d p) : ∃ t n : Int, v = .agg #[.int .i64 t, .int .i64 n] ∧ (-9223372036854775808 ≤ t ∧ t ≤ 9223372036854775807) ∧ (-9223372036854775808 ≤ n ∧ n ≤ 9223372036854775807) := by
  obtain ⟨v0, v1, y0, y1, m, rfl, _, _, h0, h1⟩ := Joins.open_agg2 Tryz.underlying29 (by kernel_rfl) (by kernel_rfl) hv h
  obtain ⟨t, e0, _, w0⟩ := DataW.trod_int Tryz.underlying3 h0
  obtain ⟨n, e1, _, w1⟩ := DataW.trod_int Tryz.underlying3 h1
  simp only [List.cons.injEq, and_true] at e0 e1
  subst e0 e1
  exact ⟨t, n, rfl, i64_bounds w0, i64_bounds w1⟩
theorem open_entry {H : Type} {enc : TypeId × Value → H} {W : World} {r : Reach} {b0 : Nat} {v : Value} {d : DataW H} {p : List MemPlace} (hv : Value.okWide Tryz.prog W r b0 60 v)
    (h : DataW.Trod enc Tryz.prog W 0 (fun _ => true) true 60 v d p) : ∃ (k t i : Int) (a : Option Addr) (c : Nat) (l : List Nat), v = .agg #[.int .i64 k, .int .i64 t, .int .i64 i, .slice a l.length c] ∧
      (-9223372036854775808 ≤ k ∧ k ≤ 9223372036854775807) ∧ (-9223372036854775808 ≤ t ∧ t ≤ 9223372036854775807) ∧ (-9223372036854775808 ≤ i ∧ i ≤ 9223372036854775807) ∧ l.length ≤ c ∧ c ≤ maxLen ∧ BytesAt W a l ∧ (a = none → c = 0) := by
  obtain ⟨v0, v1, v2, v3, y0, y1, y2, y3, m, rfl, _, _, h0, h1, h2, h3⟩ := Joins.open_agg4 Tryz.underlying60 (by kernel_rfl) (by kernel_rfl) hv h
  obtain ⟨k, e0, _, w0⟩ := DataW.trod_int Tryz.underlying57 h0
  obtain ⟨t, e1, _, w1⟩ := DataW.trod_int Tryz.underlying3 h1
  obtain ⟨i, e2, _, w2⟩ := DataW.trod_int Tryz.underlying3 h2
  obtain ⟨a, len, c, e3⟩ := Joins.slice_form Tryz.underlying58 h3
  simp only [List.cons.injEq, and_true] at e0 e1 e2 e3
  subst e0 e1 e2 e3
  have hs : DataW.Trod enc Tryz.prog W 0 (fun _ => true) true 58 (.slice a len c) y3.1 y3.2 := ⟨m, h3⟩
  obtain ⟨l, rfl, hc, hx, hb, hz, _⟩ := row8 hs
  exact ⟨k, t, i, a, c, l, rfl, i64_bounds w0, i64_bounds w1, i64_bounds w2, hc, hx, hb, hz⟩
end Go.Proofs.YtijcpmbfhfppmaaGreatDoor
