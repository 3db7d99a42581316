/- Flight: links as keys of a map; isNode, isLink. -/
import Derived.Test.YticemhnfcelpmaaApp
import Derived.Maps.OwnSet
import Derived.DeepKeys4
namespace Go.Proofs.Yticemhnfcelpmaa
open Go.ChangeShapes Go.WideShapes Go.ChangeAt Go.RowKit Go.Maps

theorem size_alloc (w : World) (o : Obj) : (w.alloc o).heap.size = w.heap.size + 1 := by simp
theorem heap_old {w : World} {g : Nat} {x : Obj} (o : Obj) (h : w.heap[g]? = some x) : (w.alloc o).heap[g]? = some x :=
  (Below.heap_alloc w o g (Array.getElem?_eq_some_iff.1 h).1).trans h
theorem grown_block {w w' : World} {R j : Nat} {o : Obj} (hg : w.grownBy w' (some R)) (hj : w.heap[j]? = some o) (hne : j ≠ R) : w'.heap[j]? = some o :=
  (hg.block j (Array.getElem?_eq_some_iff.1 hj).1 (fun e => hne (Option.some.inj e))).trans hj
theorem box_cell {w : World} {j : Nat} {cs : Array Value} {T : TypeId} (h : w.heap[j]? = some (.cells cs T (0, 0))) (f : Nat) (v : Value) (hv : cs[f]? = some v) : w.cell? ⟨j, f, none⟩ = some v := by
  rw [cell_of_row _ _ _ _ _ _ h, hv]
theorem box_free {w : World} {j : Nat} {cs : Array Value} {T : TypeId} (h : w.heap[j]? = some (.cells cs T (0, 0))) (f : Nat) : w.frozen? ⟨j, f, none⟩ = false := by
  simp [World.frozen?, h]
theorem later_block {w w' : World} {j : Nat} {o : Obj} (hb : Below w.heap.size w w') (h : w.heap[j]? = some o) : w'.heap[j]? = some o := (hb.block j (Array.getElem?_eq_some_iff.1 h).1).trans h
theorem laidOut0 : laidOutB Try.prog = true := by kernel_rfl
theorem linkLaw : Keyed Try.prog 56 := Keyed.of_law (deep_law_laid laidOut0 (m := Try.prog.types.size + 1) (of_decide_eq_true (by kernel_rfl)) (of_decide_eq_true (by kernel_rfl)) (by kernel_rfl) (by kernel_rfl))
/-- A link as a key. -/
def lk (f t : Int) : Lit := .string (keyBytes [.int .i64 f, .int .i64 t])
def In64 (n : Int) : Prop := -9223372036854775808 ≤ n ∧ n ≤ 9223372036854775807
theorem keyOf_link {f t : Int} (hf : In64 f) (ht : In64 t) : keyOf Try.prog 56 (.agg #[.int .i64 f, .int .i64 t]) = some (lk f t) := by
  have wa : (Lit.int .i64 f).wf = true := WalkArith.wf_i64 hf
  have wb : (Lit.int .i64 t).wf = true := WalkArith.wf_i64 ht
  have hk : Try.prog.keyType 56 = true := by kernel_rfl
  have hs : Try.prog.types.size + 1 = 2 + (Try.prog.types.size - 1) := by
    have : 1 ≤ Try.prog.types.size := of_decide_eq_true (by kernel_rfl)
    omega
  have hcell : Try.prog.cellsOf 56 = 2 := by kernel_rfl
  have hc3 : Try.prog.cellsOf 3 = 1 := by kernel_rfl
  unfold keyOf
  simp only [Try.underlying56]
  rw [if_pos (by simp [hk, Value.formed, Try.underlying56, hcell]), hs, show 2 + (Try.prog.types.size - 1) = (Try.prog.types.size - 1) + 1 + 1 by omega]
  generalize Try.prog.types.size - 1 = m
  have h1 : Try.prog.keyLits (m + 1) 3 [.int .i64 f] = some [.int .i64 f] := by
    unfold Program.keyLits
    simp [Try.underlying3, wa]
  have h2 : Try.prog.keyLits (m + 1) 3 [.int .i64 t] = some [.int .i64 t] := by
    unfold Program.keyLits
    simp [Try.underlying3, wb]
  have h3 : Try.prog.keyLits (m + 1 + 1) 56 [.int .i64 f, .int .i64 t] = some [.int .i64 f, .int .i64 t] := by
    unfold Program.keyLits
    simp only [Try.underlying56]
    rw [if_pos ⟨by rw [hcell]; rfl, by kernel_rfl⟩]
    simp [hc3, h1, h2]
  show (Try.prog.keyLits (m + 1 + 1) 56 [.int .i64 f, .int .i64 t]).map _ = _
  rw [h3]
  rfl
theorem lk_inj {f t f' t' : Int} (hf : In64 f) (ht : In64 t) (hf' : In64 f') (ht' : In64 t') (h : lk f t = lk f' t') : f = f' ∧ t = t' := by
  have h1 := keyOf_link hf ht
  have h2 := keyOf_link hf' ht'
  rw [← h] at h2
  have := linkLaw.inj h1 h2
  simp only [Value.agg.injEq, Array.mk.injEq, List.cons.injEq, Value.int.injEq, true_and, and_true] at this
  exact this
def isN (k : Int) : Bool := decide (1 ≤ k) && decide (k ≤ 9)
def isL (f t : Int) : Bool := isN f && isN t && !decide (f = t)
theorem isNode_calls (k : Int) (w : World) : Calls Try.prog 44 #[.int .i64 k] w fun e w' => e = .returned (.bool (isN k)) ∧ w' = w := by
  by_cases h1 : 1 ≤ k
  · by_cases h2 : k ≤ 9
    · have e : isN k = true := by simp [isN, h1, h2]
      rw [e]
      go_enter Try.func44, Try.ntmps44
      go_wp2
      go_ret
      exact ⟨by simp, rfl⟩
    · have e : isN k = false := by simp [isN]; omega
      rw [e]
      go_enter Try.func44, Try.ntmps44
      go_wp2
      go_ret
      exact ⟨by simp, rfl⟩
  · have e : isN k = false := by simp [isN]; omega
    rw [e]
    go_enter Try.func44, Try.ntmps44
    go_wp2
    go_ret
    exact ⟨rfl, rfl⟩
theorem isLink_calls (f t : Int) (w : World) : Calls Try.prog 19 #[.agg #[.int .i64 f, .int .i64 t]] w fun e w' => e = .returned (.bool (isL f t)) ∧ Below w.heap.size w w' := by
  have h0 := heap_new w (.cells #[.int .i64 f, .int .i64 t] 56)
  have c0 := box_cell h0 0 _ rfl
  have c1 := box_cell h0 1 _ rfl
  have bA := hide (show Below w.heap.size w (w.alloc (.cells #[.int .i64 f, .int .i64 t] 56)) from (Below.refl _ _).alloc (Nat.le_refl _) _)
  clear h0
  go_enter Try.func19, Try.ntmps19
  go_wp2_with fail
  refine (isNode_calls f _).mono ?_
  rintro e w1 ⟨rfl, rfl⟩
  cases hf : isN f
  · go_wp2
    go_ret
    exact ⟨by simp [isL, hf], unhide bA⟩
  · go_wp2_with fail
    refine (isNode_calls t _).mono ?_
    rintro e w1 ⟨rfl, rfl⟩
    cases ht : isN t
    · go_wp2
      go_ret
      exact ⟨by simp [isL, hf, ht], unhide bA⟩
    · by_cases hft : f = t
      · subst hft
        go_wp2
        go_ret
        exact ⟨by simp [isL], unhide bA⟩
      · go_wp2
        go_ret
        exact ⟨by simp [isL, hf, ht, hft], unhide bA⟩
end Go.Proofs.Yticemhnfcelpmaa
