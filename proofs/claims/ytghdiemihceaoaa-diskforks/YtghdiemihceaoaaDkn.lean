/- Disk: bytes of one's own that are written to; what a torn write leaves. -/
import Derived.Test.YtghdiemihceaoaaDkm
import Derived.Lib.SmallJoins
import Derived.OpenShut
namespace Go.Proofs.Ytghdiemihceaoaa
open Go.ChangeShapes Go.WideShapes Go.ChangeAt Go.RowKit Go.Maps

theorem Bx.set {base : Nat} {w : World} {sp : Option Addr} {c : Nat} {l : List Nat} (h : Bx base w sp c l) (j : Nat) (hj : j < l.length) (y : Nat) (hy : y < 256) :
    ∃ g, sp = some ⟨g, 0, none⟩ ∧ base ≤ g ∧ w.cell? ⟨g, j, none⟩ = some (byteV l[j]) ∧ w.frozen? ⟨g, j, none⟩ = false ∧ Bx base (w.setCell ⟨g, j, none⟩ (.int .u8 (y : Int))) sp c (l.set j y) ∧ w.grownBy (w.setCell ⟨g, j, none⟩ (.int .u8 (y : Int))) (some g) := by
  rcases h.row with ⟨_, _, rfl⟩ | ⟨g, cur, rfl, hb, hg, hle, hcc, hmx, ht⟩
  · simp at hj
  · refine ⟨g, rfl, hb, ?_, ffree hg j, ⟨?_, .inr ⟨g, cur.set j (.int .u8 (y : Int)), rfl, hb, ?_, by rw [List.length_set]; exact hle, by rw [List.length_set]; exact hcc, hmx, ?_⟩⟩, grown_set w g j _⟩
    · rw [cell_of_row w g j _ _ _ hg]
      have e : (l.map byteV)[j]? = some (byteV l[j]) := by rw [List.getElem?_map, List.getElem?_eq_getElem hj]; rfl
      rw [← ht, List.getElem?_take, if_pos hj] at e
      simpa using e
    · intro x hx
      rcases List.mem_or_eq_of_mem_set hx with hx | rfl
      · exact h.lt x hx
      · exact hy
    · rw [heap_setCell_same w g j cur.toArray 5 (.int .u8 (y : Int)) hg]
      simp
    · rw [List.length_set, List.take_set, ht, List.map_set]
      rfl
theorem wide_array {P : Program} {w : World} {r : Reach} {base : Nat} {t : TypeId} {v : Value} {n : Nat} {e : TypeId} (ht : P.underlying t = some (.array n e)) (h : Value.okWide P w r base t v) : ∃ cs, v = .agg cs ∧ cs.size = P.cellsOf t := by
  simp only [Value.okWide, ht] at h
  obtain ⟨cs, h1, h2, _⟩ := h
  exact ⟨cs, h1, h2⟩
set_option maxRecDepth 100000 in
theorem open_pair {H : Type} {enc : TypeId × Value → H} {W : World} {r : Reach} {b0 : Nat} {v : Value} {d : DataW H} {p : List MemPlace} (hv : Value.okWide Try.prog W r b0 51 v)
    (h : DataW.Trod enc Try.prog W 0 (fun _ => true) true 51 v d p) : ∃ t n : Int, v = .agg #[.int .i64 t, .int .i64 n] ∧ (-9223372036854775808 ≤ t ∧ t ≤ 9223372036854775807) ∧ (-9223372036854775808 ≤ n ∧ n ≤ 9223372036854775807) := by
  obtain ⟨cs, rfl, hsz⟩ := wide_array Try.underlying51 hv
  obtain ⟨c0, c1, rfl⟩ := Joins.array2 (hsz.trans (by kernel_rfl))
  obtain ⟨fuel, hf⟩ := h
  obtain ⟨xs, m, _, _, _, hl, hx⟩ := DataW.trod_array Try.underlying51 hf
  have hc : Try.prog.cellsOf 3 = 1 := by kernel_rfl
  have h0 := hx 0 (by omega)
  have h1 := hx 1 (by omega)
  rw [hc, List.getElem?_eq_getElem (by omega)] at h0 h1
  obtain ⟨t, e0, _, w0⟩ := DataW.trod_int Try.underlying3 h0
  obtain ⟨n, e1, _, w1⟩ := DataW.trod_int Try.underlying3 h1
  simp [Value.cells] at e0 e1
  subst e0 e1
  exact ⟨t, n, rfl, bounds_i64 w0, bounds_i64 w1⟩
theorem overL_set (A : List Nat) (k j : Nat) (o : List Nat) (hk : k ≤ A.length) (hj : j < o.length) (hin : k + j < A.length) : overL A k (o.take (j + 1)) = (overL A k (o.take j)).set (k + j) o[j] := by
  have h1 : (o.take j).length = j := by rw [List.length_take]; omega
  have h2 : (o.take (j + 1)).length = j + 1 := by rw [List.length_take]; omega
  have h3 : (A.take k).length = k := by rw [List.length_take]; omega
  unfold overL
  rw [h1, h2, List.set_append_right _ _ (by omega), h3, List.set_append_right _ _ (by omega), h1]
  rw [show k + j - k - j = 0 by omega, List.drop_eq_getElem_cons hin, List.set_cons_zero, List.take_succ_eq_append_getElem hj, List.append_assoc]
  rfl
theorem overL_app (A : List Nat) (k j : Nat) (o : List Nat) (hj : j < o.length) (hin : ¬ k + j < A.length) : overL A k (o.take (j + 1)) = overL A k (o.take j) ++ [o[j]] := by
  have h1 : (o.take j).length = j := by rw [List.length_take]; omega
  have h2 : (o.take (j + 1)).length = j + 1 := by rw [List.length_take]; omega
  unfold overL
  rw [h1, h2, List.take_succ_eq_append_getElem hj, List.drop_of_length_le (by omega), List.drop_of_length_le (by omega)]
  simp
theorem torn_write (A B : List Nat) (k : Nat) (hA : A.length ≤ 4000) (hB : B.length ≤ 4000) (hk : k ≤ A.length) : dWrite 65536 [102] (k : Int) B [([102], ⟨true, A, []⟩)] = (0, [([102], wrote ⟨true, A, []⟩ k B)]) := by
  rw [dWrite_old 65536 [102] rfl k B [([102], ⟨true, A, []⟩)] ⟨true, A, []⟩ rfl hk (by omega) (by simp [usedS, Sp.now, nowC]; omega)]
  rfl
theorem torn_crash (A B : List Nat) (k : Nat) (keep : Int) : crashS [keep] 0 [([102], wrote ⟨true, A, []⟩ k B)] = [([102], ⟨true, overL A k (B.take (min keep.toNat B.length)), []⟩)] := by
  have hu : unitsAt [keep] 0 = keep.toNat := rfl
  simp only [crashS, List.append_nil]
  rw [hu]
  unfold crashOne wrote
  split
  · rename_i h0
    have hB : B = [] := List.eq_nil_of_length_eq_zero h0
    subst hB
    simp [crashL, overL_nil]
  · rename_i h0
    simp only [List.nil_append, Bool.true_eq_false, false_and, if_false]
    by_cases hU : keep.toNat = 0
    · rw [hU]
      simp [crashL, overL_nil]
    · simp only [crashL, if_neg hU, unitsC, ontoC, Bool.false_eq_true, if_false]
end Go.Proofs.Ytghdiemihceaoaa
