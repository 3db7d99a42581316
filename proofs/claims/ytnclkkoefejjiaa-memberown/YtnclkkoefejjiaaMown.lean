/- Member: stores into own numbers; how Apply ends, in one form. -/
import Derived.Test.YtnclkkoefejjiaaMpu
import Derived.Test.YtnclkkoefejjiaaMc2
namespace Go.Proofs.Ytnclkkoefejjiaa
open Go.ChangeShapes Go.WideShapes Go.ChangeAt Go.RowKit

theorem rowI_set {w : World} {g : Nat} {T : TypeId} {cur : List Value} (h : w.heap[g]? = some (.cells cur.toArray T (0, 0))) (k : Nat) (v : Value) : (w.setCell ⟨g, k, none⟩ v).heap[g]? = some (.cells (cur.set k v).toArray T (0, 0)) := by
  have := heap_setCell_same w g k _ T v h
  rw [this]
  simp
theorem OwnI.setAt {base : Nat} {w : World} {sp : Option Addr} {c : Nat} {l : List Int} (h : OwnI base w sp c l) (j : Nat) (hj : j < l.length) (y : Int) (hy : -9223372036854775808 ≤ y ∧ y ≤ 9223372036854775807) : ∃ g, sp = some ⟨g, 0, none⟩ ∧ base ≤ g ∧ (∃ x, w.cell? ⟨g, j, none⟩ = some (.int .i64 x)) ∧ w.frozen? ⟨g, j, none⟩ = false ∧ OwnI base (w.setCell ⟨g, j, none⟩ (.int .i64 y)) sp c (l.set j y) ∧ w.grownBy (w.setCell ⟨g, j, none⟩ (.int .i64 y)) (some g) := by
  obtain ⟨b, off, hsp, hcell⟩ := h.ints.cell j hj
  obtain ⟨g1, cap, cur, hv, hbg, hh, hle, hmx, hsz, htk⟩ := h.owns.2.resolve_left (fun e => by have := e.2; omega)
  simp only [Value.slice.injEq] at hv
  obtain ⟨rfl, _, rfl⟩ := hv
  simp only [Option.some.injEq, Addr.mk.injEq, and_true] at hsp
  obtain ⟨rfl, rfl⟩ := hsp
  rw [Nat.zero_add] at hcell
  obtain ⟨cl⟩ := cur
  have htk1 : cl.take (l.length * 1) = l.map iV := htk
  rw [Nat.mul_one] at htk1
  refine ⟨g1, rfl, hbg, ⟨_, hcell⟩, mbox_free hh j, ⟨⟨by rw [List.length_map, Nat.mul_one], .inr ⟨g1, c, (cl.set j (.int .i64 y)).toArray, by rw [List.length_set], hbg, rowI_set hh _ _, by rw [List.length_set]; exact hle, hmx, by simpa using hsz, ?_⟩⟩, ?_⟩, grown_set _ _ _ _⟩
  · rw [List.length_set, Nat.mul_one, List.toList_toArray, List.take_set, htk1, List.map_set]
  · intro x hx
    rcases List.mem_or_eq_of_mem_set hx with h1 | h1
    · exact h.bd x h1
    · rw [h1]; exact hy
/-- The first j are all x. -/
def Firsts (x : Int) (j : Nat) (l : List Int) : Prop := ∀ i, i < j → l[i]? = some x
theorem Firsts.zero (x : Int) (l : List Int) : Firsts x 0 l := fun i hi => absurd hi (by omega)
theorem Firsts.step {x : Int} {j : Nat} {l : List Int} (h : Firsts x j l) (hj : j < l.length) : Firsts x (j + 1) (l.set j x) := by
  intro i hi
  rcases (by omega : i = j ∨ i < j) with rfl | h1
  · exact List.getElem?_set_self hj
  · rw [List.getElem?_set_ne (by omega)]
    exact h i h1
theorem apply_two {v l : List Int} {d n : Int} {base : Nat} {W : World} {e : Ending} (h : ApplyRes v l d n base e W) : ∃ xs ys spA nA cA spB nB cB er, e = .returned (.tuple #[mV spA nA cA spB nB cB, .int .i64 er]) ∧ xs.length = nA ∧ ys.length = nB ∧ OwnI base W spA cA xs ∧ OwnI base W spB cB ys ∧ Apart spA spB ∧ nA ≤ 9 ∧ nB ≤ 9 := by
  rcases h with ⟨h1, h2⟩ | ⟨h1, _, _, spA, nA, cA, spB, nB, cB, h2, h3, h4, h5, h6, h7⟩
  · exact ⟨[], [], none, 0, 0, none, 0, 0, _, h2, rfl, rfl, OwnI.ofNil _ _, OwnI.ofNil _ _, Apart.none_left _, by omega, by omega⟩
  · exact ⟨_, _, spA, nA, cA, spB, nB, cB, 0, h2, h3, h4, h5, h6, h7, by rw [← h3]; exact voters_len, by rw [← h4]; exact learners_len⟩
end Go.Proofs.Ytnclkkoefejjiaa
