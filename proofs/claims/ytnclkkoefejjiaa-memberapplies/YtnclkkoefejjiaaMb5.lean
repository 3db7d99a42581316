/- Member: places of nodes in memory; slices.Backward over them. -/
import Derived.Test.YtnclkkoefejjiaaMb4
import Derived.RangeFuncNested
import Derived.RangeFuncBound
import Derived.RangeFuncCalls
import Derived.RangeFuncLeaves
import Derived.Shelf.Abstract
import Derived.Shelf.RegionOpen
import Derived.WalkKit
import Derived.OwnWalkIn
import Derived.TacticsInMore
import Derived.LoopNIn
import Derived.LoopIn
namespace Go.Proofs.Ytnclkkoefejjiaa
open Go.ChangeShapes Go.WideShapes Go.ChangeAt Go.RowKit Go.Maps Go.Shelf

attribute [local go_sem] Oper.semAt_some
/-- Places of nodes as they lie in memory. -/
structure AtsAt (w : World) (a : Option Addr) (es : List (Int × Int)) : Prop where
  bd : ∀ e ∈ es, In64 e.1 ∧ In64 e.2
  cell : ∀ i (hi : i < es.length), ∃ b off, a = some ⟨b, off, none⟩ ∧ w.cell? ⟨b, off + i * 2, none⟩ = some (.int .i64 es[i].1) ∧ w.cell? ⟨b, off + i * 2 + 1, none⟩ = some (.int .i64 es[i].2)
theorem AtsAt.later {w w' : World} {a : Option Addr} {es : List (Int × Int)} (h : AtsAt w a es) (hb : Below w.heap.size w w') : AtsAt w' a es :=
  ⟨h.bd, fun i hi => by obtain ⟨b, off, e, h1, h2⟩ := h.cell i hi; exact ⟨b, off, e, cell_later hb h1, cell_later hb h2⟩⟩
theorem cell_lt {w : World} {b off : Nat} {x : Value} (h : w.cell? ⟨b, off, none⟩ = some x) : b < w.heap.size := by
  rcases Nat.lt_or_ge b w.heap.size with h1 | h1
  · exact h1
  · have : w.heap[b]? = none := Array.getElem?_eq_none h1
    simp [World.cell?, this] at h
theorem AtsAt.lt {w : World} {a : Option Addr} {es : List (Int × Int)} (h : AtsAt w a es) (h0 : 0 < es.length) : ∀ b off, a = some ⟨b, off, none⟩ → b < w.heap.size := by
  intro b off e
  obtain ⟨b', off', e', h1, _⟩ := h.cell 0 h0
  rw [e'] at e
  cases e
  exact cell_lt h1
/-- Cells below a bound stay. -/
structure KC (n0 : Nat) (W W' : World) : Prop where
  size : W.heap.size ≤ W'.heap.size
  same : ∀ (k : Nat) (o : Obj), k < n0 → W.heap[k]? = some o → o.isCells = true → W'.heap[k]? = some o
theorem KC.refl (n0 : Nat) (W : World) : KC n0 W W := ⟨Nat.le_refl _, fun _ _ _ h _ => h⟩
theorem KC.trans {n0 : Nat} {A B C : World} (h : KC n0 A B) (k : KC n0 B C) : KC n0 A C := ⟨Nat.le_trans h.size k.size, fun i o hi h1 h2 => k.same i o hi (h.same i o hi h1 h2) h2⟩
theorem KC.put {n0 : Nat} (W : World) (l : Nat) (o o' : Obj) (h : n0 ≤ l) (_ : W.heap[l]? = some o) : KC n0 W (W.putObj l o') :=
  ⟨(grownBy_putObj' W l o').size, fun k x hk h1 _ => ((grownBy_putObj' W l o').block k (Array.getElem?_eq_some_iff.1 h1).1 (fun e => by have := Option.some.inj e; omega)).trans h1⟩
theorem KC.grown {n0 : Nat} {W W' : World} {row : Option Nat} (hg : W.grownBy W' row) (hr : ∀ j o, row = some j → W.heap[j]? = some o → o.isCells = false) : KC n0 W W' :=
  ⟨hg.size, fun k o _ h1 h2 => (hg.block k (Array.getElem?_eq_some_iff.1 h1).1 (fun e => by have := hr k o e.symm h1; rw [this] at h2; cases h2)).trans h1⟩
theorem KC.cell {n0 : Nat} {W W' : World} (h : KC n0 W W') {b off : Nat} (hb : b < n0) {v : Value} (hc : W.cell? ⟨b, off, none⟩ = some v) : W'.cell? ⟨b, off, none⟩ = some v := by
  unfold World.cell? at hc ⊢
  simp only at hc ⊢
  split at hc
  · rename_i c T fr hh
    rw [h.same b _ hb hh rfl]
    exact hc
  · cases hc
theorem AtsAt.keep {n0 : Nat} {w w' : World} {a : Option Addr} {es : List (Int × Int)} (h : AtsAt w a es) (hk : KC n0 w w') (hlow : 0 < es.length → ∀ b off, a = some ⟨b, off, none⟩ → b < n0) : AtsAt w' a es :=
  ⟨h.bd, fun i hi => by obtain ⟨b, off, e, h1, h2⟩ := h.cell i hi; exact ⟨b, off, e, hk.cell (hlow (by omega) b off e) h1, hk.cell (hlow (by omega) b off e) h2⟩⟩
/-- What a round of the loop is handed: an index and a place. -/
abbrev AtI := { x : Int × Int × Int // In64 x.2.1 ∧ In64 x.2.2 }
def encA (x : AtI) : Array Value := #[.int .i64 x.1.1, .agg #[.int .i64 x.1.2.1, .int .i64 x.1.2.2]]
def placesOf (ys : List AtI) : List (Int × Int) := ys.map fun x => x.1.2
theorem rev_take {es : List (Int × Int)} {j : Nat} (hj : j < es.length) : es.reverse.take (j + 1) = es.reverse.take j ++ [es[es.length - 1 - j]] := by
  rw [List.take_succ_eq_append_getElem (by rw [List.length_reverse]; exact hj), List.getElem_reverse]
set_option maxRecDepth 100000 in
set_option maxHeartbeats 4000000 in
theorem back1_in (n : Nat) (hn : 1 ≤ n) (l Bs n0 cap : Nat) (a : Option Addr) (es : List (Int × Int)) (m : Nat) (hm : es.length = m) (hx : m ≤ maxLen) (J Jx : List AtI → World → Prop)
    (hY : ∀ pre x W, J pre W → pre.length < m → YieldAt Fence.wide (n - 1) Try.prog l (encA x) W fun e W' => (e = .returned (.bool true) ∧ J (pre ++ [x]) W' ∧ KC n0 W W') ∨ (e = .returned (.bool false) ∧ Jx (pre ++ [x]) W'))
    (W : World) (hBs : W.cell? ⟨Bs, 0, none⟩ = some (.slice a m cap)) (hBn : Bs < n0) (hE : AtsAt W a es) (hlow : 0 < es.length → ∀ b off, a = some ⟨b, off, none⟩ → b < n0) (h0 : J [] W) :
    CallsIn Fence.wide n Try.prog 68 #[.func (.yield l) #[] #[], .pointer (some ⟨Bs, 0, none⟩)] W fun e W' => (∃ v, e = .returned v) ∧
      ((∃ ys, placesOf ys = es.reverse ∧ J ys W') ∨ (∃ pre, True ∧ Jx pre W')) := by
  have HY := hide hY
  have HM := hide hm
  have HE := hide hE
  have HL := hide hlow
  have H0 := hide h0
  have HBs := hide hBs
  simp only [maxLen] at hx
  clear hY hm hE hlow h0
  refine callsIn_of_wp Try.func68 rfl trivial ?_ rfl
  simp only [Try.ntmps68, List.size_toArray, List.length_cons, List.length_nil, Nat.reduceAdd, Nat.reduceSub, Array.replicate_succ, Array.replicate_zero, List.push_toArray, List.append_toArray, List.nil_append, List.cons_append]
  gi_wp2
  gi_loopw [3] (fun i wr => ∃ (j : Nat) (pre : List AtI), j ≤ m ∧ i = .int .i64 ((m : Int) - 1 - (j : Int)) ∧ Hid (pre.length = j) ∧ Hid (placesOf pre = es.reverse.take j) ∧ Hid (J pre wr) ∧ Hid (KC n0 W wr)) (fun i _ => (intOf i + 1).toNat)
  case atStart => exact ⟨0, [], by omega, by go_num, rfl, rfl, unhide H0, KC.refl _ _⟩
  case round =>
    obtain ⟨j, pre, hj, rfl, hlen, hpl, hJ, hK⟩ := hrel
    have hBx := (unhide hK).cell hBn (unhide HBs)
    by_cases hjm : j < m
    · have hjl : es.length - 1 - j < es.length := by have := unhide HM; omega
      have hei := hide (show m - 1 - j = es.length - 1 - j by rw [unhide HM])
      obtain ⟨b, off, rfl, c1, c2⟩ := ((unhide HE).keep (unhide hK) (unhide HL)).cell _ hjl
      have hT := hide (rev_take (es := es) (j := j) (by rw [unhide HM]; exact hjm))
      have hB := hide ((unhide HE).bd _ (List.getElem_mem hjl))
      generalize es[es.length - 1 - j] = x at *
      rw [← unhide hei] at c1 c2
      obtain ⟨x1, x2⟩ := x
      have hi0 : ((m : Int) - 1 - (j : Int)) = ((m - 1 - j : Nat) : Int) := by omega
      rw [hi0]
      generalize hk : m - 1 - j = k at *
      have hkm : k < m := by omega
      obtain ⟨fn, tmps, assign, body, hy, hR⟩ := unhide HY pre ⟨((k : Int), x1, x2), unhide hB⟩ wr (unhide hJ) (by rw [unhide hlen]; exact hjm)
      have hk0 : (0 : Int) ≤ (k : Int) := by omega
      have hk1 : (k : Int) < (m : Int) := by omega
      simp only [encA] at hy
      gi_wp2
      refine hR.mono ?_
      rintro e W3 (⟨rfl, hJ3, hk3⟩ | ⟨rfl, hJx3⟩)
      · gi_wp2
        go_roundw
        case rel => exact ⟨j + 1, pre ++ [⟨((k : Int), x1, x2), unhide hB⟩], by omega, by simp only [Value.int.injEq, true_and]; omega, by show _ = _; rw [List.length_append, unhide hlen]; rfl, by show _ = _; rw [unhide hT, ← unhide hpl]; simp [placesOf], hide hJ3, hide ((unhide hK).trans hk3)⟩
        case measure => simp [intOf]
      · gi_wp2
        refine bodyPost_ret (results_none rfl _ _ _) rfl ?_
        exact ⟨⟨_, rfl⟩, .inr ⟨_, trivial, hJx3⟩⟩
    · obtain rfl : j = m := by omega
      gi_wp2
      go_end0
      exact ⟨⟨_, rfl⟩, .inl ⟨pre, by rw [unhide hpl, List.take_of_length_le (by rw [List.length_reverse, unhide HM]; exact Nat.le_refl _)], unhide hJ⟩⟩
/-- slices.Backward(l): the slice in a box, and a function value over it. -/
theorem backward_calls (a : Option Addr) (m cap : Nat) (w : World) : Calls Try.prog 51 #[.slice a m cap] w fun e w' => e = .returned (.func (.func 68) #[] #[.pointer (some ⟨w.heap.size, 0, none⟩)]) ∧ w' = w.alloc (.cells #[.slice a m cap] 33) := by
  go_enter Try.func51, Try.ntmps51
  go_wp2
  go_ret
  exact ⟨rfl, rfl⟩
theorem back_stops (n : Nat) (hn : 1 ≤ n) (Bs n0 cap : Nat) (a : Option Addr) (es : List (Int × Int)) (m : Nat) (hm : es.length = m) (hx : m ≤ maxLen) (w : World) (hBs : w.cell? ⟨Bs, 0, none⟩ = some (.slice a m cap)) (hBn : Bs < n0) (hB : Bs < w.heap.size) (hE : AtsAt w a es) (hlow : 0 < es.length → ∀ b off, a = some ⟨b, off, none⟩ → b < n0) :
    SeqStopsK Fence.wide n Try.prog 68 #[.pointer (some ⟨Bs, 0, none⟩)] encA (KC n0) (fun ys => placesOf ys = es.reverse) (fun _ => True) m w := fun l J Jx W hW _ _ hY h0 =>
  back1_in n hn l Bs n0 cap a es m hm hx J Jx hY W ((hW.cell (p := ⟨Bs, 0, none⟩) hB).trans hBs) hBn (hE.later hW) hlow h0
end Go.Proofs.Ytnclkkoefejjiaa
