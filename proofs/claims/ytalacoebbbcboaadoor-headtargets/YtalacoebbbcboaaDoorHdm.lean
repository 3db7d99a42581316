/- Arguments that are two texts. -/
import Derived.Test.YtalacoebbbcboaaDoorArg
import Derived.SizedLaws
import Derived.Lib.SmallJoins
import Derived.OpenShut

namespace Go.Proofs.YtalacoebbbcboaaDoor
open Go.ChangeShapes Go.WideShapes Go.ChangeAt Go.RowKit
set_option linter.unusedVariables false

theorem wide_array2 {P : Program} {w : World} {r : Reach} {base : Nat} {t : TypeId} {v : Value} {n : Nat} {e : TypeId} (ht : P.underlying t = some (.array n e)) (h : Value.okWide P w r base t v) : ∃ cs, v = .agg cs ∧ cs.size = P.cellsOf t := by
  simp only [Value.okWide, ht] at h
  obtain ⟨cs, h1, h2, _⟩ := h
  exact ⟨cs, h1, h2⟩
set_option maxRecDepth 100000 in
theorem open_two {H : Type} {enc : TypeId × Value → H} {W : World} {r : Reach} {b0 : Nat} {v : Value} {d : DataW H} {p : List MemPlace} (hv : Value.okWide Tryd.prog W r b0 48 v)
    (h : DataW.Trod enc Tryd.prog W 0 (fun _ => true) true 48 v d p) (hw : ∀ n ∈ d.weights Tryd.prog 48, n ≤ reachBytes) : ∃ t n : ByteArray, v = .agg #[.string t, .string n] ∧ t.size ≤ 140737488355328 ∧ n.size ≤ 140737488355328 := by
  obtain ⟨cs, rfl, hsz⟩ := wide_array2 Tryd.underlying48 hv
  obtain ⟨c0, c1, rfl⟩ := Joins.array2 (hsz.trans (by kernel_rfl))
  obtain ⟨fuel, hf⟩ := h
  have hh := DataW.trod_array Tryd.underlying48 hf
  obtain ⟨xs, m, _, hd, _, hl, hx⟩ := hh
  have hc : Tryd.prog.cellsOf 9 = 1 := by kernel_rfl
  have h0 := hx 0 (by omega)
  have h1 := hx 1 (by omega)
  rw [hc, List.getElem?_eq_getElem (by omega)] at h0 h1
  obtain ⟨t, e0, f0, _⟩ := DataW.trod_string Tryd.underlying9 h0
  obtain ⟨n, e1, f1, _⟩ := DataW.trod_string Tryd.underlying9 h1
  simp [Value.cells] at e0 e1
  subst e0 e1
  have hxs : xs = [(.lit (.string t.data.toList), []), (.lit (.string n.data.toList), [])] := by
    match xs, hl with
    | [y, z], _ => simp at f0 f1; rw [f0, f1]
  subst hxs
  obtain ⟨rfl, _⟩ := Prod.mk.inj hd
  have hr := reachBytes_lt
  have q0 := hw t.data.toList.length (by simp [DataW.weights, DataW.weightsAll, Tryd.underlying48])
  have q1 := hw n.data.toList.length (by simp [DataW.weights, DataW.weightsAll, Tryd.underlying48])
  have e0 : t.data.toList.length = t.size := by simp
  have e1 : n.data.toList.length = n.size := by simp
  exact ⟨t, n, rfl, by omega, by omega⟩
end Go.Proofs.YtalacoebbbcboaaDoor
