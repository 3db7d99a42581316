/- Logs: last, fits, term. -/
import Derived.Test.YtijcpmbfhfppmaaGreatDoorWl1
import Derived.Test.YtijcpmbfhfppmaaGreatDoorHld
namespace Go.Proofs.YtijcpmbfhfppmaaGreatDoor
open Go.ChangeShapes Go.WideShapes Go.ChangeAt Go.RowKit
set_option linter.unusedVariables false

def ct5 (c : Wc) (ep : Option Addr) (ec : Nat) : List Value := [.int .i64 (c.bi : Int), .int .i64 (c.bt : Int), .int .i64 (c.ht : Int), .int .i64 (c.hv : Int), .slice ep c.es.length ec]
/-- A block's cells: p, then a content's five, then q. -/
def ctRow (p q : List Value) (c : Wc) (ep : Option Addr) (ec : Nat) : Array Value := (p ++ (ct5 c ep ec ++ q)).toArray
structure CtAt (w : World) (B : Nat) (T : TypeId) (p q : List Value) (c : Wc) (ep : Option Addr) (ec : Nat) : Prop where
  row : w.heap[B]? = some (.cells (ctRow p q c ep ec) T (0, 0))
section
variable {w w' : World} {B : Nat} {T : TypeId} {p q : List Value} {c : Wc} {ep : Option Addr} {ec : Nat}
theorem CtAt.lt (h : CtAt w B T p q c ep ec) : B < w.heap.size := (Array.getElem?_eq_some_iff.1 h.row).1
theorem CtAt.same (h : CtAt w B T p q c ep ec) (hk : w'.heap[B]? = w.heap[B]?) : CtAt w' B T p q c ep ec := ⟨hk.trans h.row⟩
theorem CtAt.later (h : CtAt w B T p q c ep ec) (hb : Below w.heap.size w w') : CtAt w' B T p q c ep ec := h.same (hb.block B h.lt)
theorem ct_get (p q : List Value) (c : Wc) (ep : Option Addr) (ec f : Nat) (v : Value) (hf : f < 5) (hv : (ct5 c ep ec)[f]? = some v) : (ctRow p q c ep ec)[p.length + f]? = some v := by
  unfold ctRow
  rw [← Array.getElem?_toList, List.getElem?_append_right (by omega), show p.length + f - p.length = f by omega, List.getElem?_append_left (show f < 5 from hf)]
  exact hv
theorem CtAt.cells (h : CtAt w B T p q c ep ec) (o : Nat) (ho : p.length = o) : (w.cell? ⟨B, o, none⟩ = some (.int .i64 (c.bi : Int)) ∧ w.cell? ⟨B, o + 1, none⟩ = some (.int .i64 (c.bt : Int)) ∧ w.cell? ⟨B, o + 2, none⟩ = some (.int .i64 (c.ht : Int)) ∧ w.cell? ⟨B, o + 3, none⟩ = some (.int .i64 (c.hv : Int)) ∧ w.cell? ⟨B, o + 4, none⟩ = some (.slice ep c.es.length ec)) ∧ ∀ i, w.frozen? ⟨B, i, none⟩ = false := by
  subst ho
  have one : ∀ f v, f < 5 → (ct5 c ep ec)[f]? = some v → w.cell? ⟨B, p.length + f, none⟩ = some v := fun f v hf hv => by
    rw [cell_of_row _ _ _ _ _ _ h.row]
    exact ct_get p q c ep ec f v hf hv
  exact ⟨⟨one 0 _ (by omega) rfl, one 1 _ (by omega) rfl, one 2 _ (by omega) rfl, one 3 _ (by omega) rfl, one 4 _ (by omega) rfl⟩, fun i => froz_of h.row i⟩
/-- A new value in one of its cells. -/
theorem CtAt.set (h : CtAt w B T p q c ep ec) (o f : Nat) (ho : p.length = o) (c' : Wc) (ep' : Option Addr) (ec' : Nat) (v : Value)
    (hv : (ct5 c ep ec).set f v = ct5 c' ep' ec') (hf : f < 5) : CtAt (w.setCell ⟨B, o + f, none⟩ v) B T p q c' ep' ec' := by
  subst ho
  refine ⟨?_⟩
  rw [heap_setCell_same w B (p.length + f) _ T v h.row]
  congr 2
  unfold ctRow
  rw [List.setIfInBounds_toArray, List.set_append_right _ _ (by omega), show p.length + f - p.length = f by omega, List.set_append_left _ _ (show f < 5 from hf), hv]
set_option maxRecDepth 20000 in
set_option maxHeartbeats 4000000 in
theorem last_calls (h : CtAt w B T p q c ep ec) (o : Nat) (ho : p.length = o) (hb : c.bi ≤ 1099511627776) (hl : c.es.length ≤ 1099511627776) :
    Calls Tryz.prog 83 #[.pointer (some ⟨B, o, none⟩)] w fun e w' => e = .returned (.int .i64 ((c.bi + c.es.length : Nat) : Int)) ∧ Below w.heap.size w w' := by
  obtain ⟨⟨c0, _, _, _, c4⟩, _⟩ := h.cells o ho
  have BD := hide (show ∀ k, Below w.heap.size w (w.drewN k) from fun k => ⟨rfl, rfl, rfl, Nat.le_refl _, fun _ _ => rfl⟩)
  clear h ho
  generalize c.es.length = n at *
  generalize c.bi = bi at *
  go_enter Tryz.func83, Tryz.ntmps83
  go_wp2_with fail
  go_quiet (fail)
  go_wp2
  go_ret
  exact ⟨by congr 2, unhide BD _⟩
/-- May an entry of that index be added? -/
def fitsW (c : Wc) (i : Int) : Bool := decide ((c.bi : Int) < i) && decide (i ≤ ((c.bi + c.es.length : Nat) : Int) + 1)
set_option maxRecDepth 20000 in
set_option maxHeartbeats 4000000 in
theorem fits_calls (h : CtAt w B T p q c ep ec) (o : Nat) (ho : p.length = o) (hb : c.bi ≤ 1099511627776) (hl : c.es.length ≤ 1099511627776) (i : Int) :
    Calls Tryz.prog 105 #[.pointer (some ⟨B, o, none⟩), .int .i64 i] w fun e w' => e = .returned (.bool (fitsW c i)) ∧ Below w.heap.size w w' := by
  obtain ⟨⟨c0, _, _, _, c4⟩, _⟩ := h.cells o ho
  have LC := hide (last_calls h o ho hb hl)
  have FE := hide (show fitsW c i = (decide ((c.bi : Int) < i) && decide (i ≤ ((c.bi + c.es.length : Nat) : Int) + 1)) from rfl)
  have hs : ((c.bi + c.es.length : Nat) : Int) + 1 ≤ 9223372036854775807 := by omega
  have hs0 : (0 : Int) ≤ ((c.bi + c.es.length : Nat) : Int) := by omega
  clear h ho
  generalize ((c.bi + c.es.length : Nat) : Int) = la at *
  generalize fitsW c i = fw at *
  generalize c.es.length = n at *
  generalize c.bi = bi at *
  by_cases h1 : (bi : Int) < i
  · have FW := hide (show fw = decide (i ≤ la + 1) by rw [unhide FE, decide_eq_true h1, Bool.true_and])
    go_enter Tryz.func105, Tryz.ntmps105
    go_wp2_with fail
    go_at_call 83
    refine (unhide LC).mono ?_
    rintro e V ⟨rfl, v1⟩
    have B1 := hide v1
    clear v1
    go_wp2
    go_ret
    exact ⟨by rw [unhide FW]; rfl, unhide B1⟩
  · have FW := hide (show fw = false by rw [unhide FE, decide_eq_false h1]; rfl)
    have B0 := hide (Below.refl w.heap.size w)
    go_enter Tryz.func105, Tryz.ntmps105
    go_wp2
    go_ret
    exact ⟨by rw [unhide FW]; rfl, unhide B0⟩
/-- The term at an index. -/
def termW (c : Wc) (i : Int) : Int × Bool := if i = (c.bi : Int) then ((c.bt : Int), true) else if (c.bi : Int) < i ∧ i ≤ ((c.bi + c.es.length : Nat) : Int) then (((c.es.getD (i - (c.bi : Int) - 1).toNat default).2.1 : Int), true) else (0, false)
set_option maxRecDepth 20000 in
set_option maxHeartbeats 4000000 in
theorem term_calls (h : CtAt w B T p q c ep ec) (o : Nat) (ho : p.length = o) (hb : c.bi ≤ 1099511627776) (hl : c.es.length ≤ 1099511627776) {base : Nat} {hs : List (Option Addr × Nat)} (hE : OwnL base w ep ec c.es hs) (i : Int) (hi : -9223372036854775808 ≤ i ∧ i ≤ 9223372036854775807) :
    Calls Tryz.prog 58 #[.pointer (some ⟨B, o, none⟩), .int .i64 i] w fun e w' => e = .returned (.tuple #[.int .i64 (termW c i).1, .bool (termW c i).2]) ∧ Below w.heap.size w w' := by
  obtain ⟨⟨c0, c1, _, _, c4⟩, _⟩ := h.cells o ho
  have LC := hide (last_calls h o ho hb hl)
  have HC := hide h
  have EA := hide hE.ents
  have FE := hide (show termW c i = (if i = (c.bi : Int) then ((c.bt : Int), true) else if (c.bi : Int) < i ∧ i ≤ ((c.bi + c.es.length : Nat) : Int) then (((c.es.getD (i - (c.bi : Int) - 1).toNat default).2.1 : Int), true) else (0, false)) from rfl)
  have hs : ((c.bi + c.es.length : Nat) : Int) ≤ 4398046511104 := by omega
  generalize termW c i = tw at *
  clear h hE
  by_cases h1 : i = (c.bi : Int)
  · have FW := hide (show tw = ((c.bt : Int), true) by rw [unhide FE, if_pos h1])
    have B0 := hide (Below.refl w.heap.size w)
    have hb1 : (i == (c.bi : Int)) = true := by simp [h1]
    generalize c.bi = bi at *
    generalize c.bt = bt at *
    generalize c.es.length = n at *
    go_enter Tryz.func58, Tryz.ntmps58
    go_wp2
    go_ret2
    exact ⟨by rw [unhide FW]; rfl, unhide B0⟩
  · have hb1 : (i == (c.bi : Int)) = false := by simp [h1]
    by_cases h2 : i < (c.bi : Int)
    · have FW := hide (show tw = (0, false) by rw [unhide FE, if_neg h1, if_neg (by omega)])
      have B0 := hide (Below.refl w.heap.size w)
      generalize c.bi = bi at *
      generalize c.bt = bt at *
      generalize c.es.length = n at *
      go_enter Tryz.func58, Tryz.ntmps58
      go_wp2
      go_ret2
      exact ⟨by rw [unhide FW]; rfl, unhide B0⟩
    · by_cases h3 : ((c.bi + c.es.length : Nat) : Int) < i
      · have FW := hide (show tw = (0, false) by rw [unhide FE, if_neg h1, if_neg (by omega)])
        generalize ((c.bi + c.es.length : Nat) : Int) = la at *
        generalize c.bi = bi at *
        generalize c.bt = bt at *
        generalize c.es.length = n at *
        go_enter Tryz.func58, Tryz.ntmps58
        go_wp2_with fail
        go_at_call 83
        refine (unhide LC).mono ?_
        rintro e V ⟨rfl, v1⟩
        have B1 := hide v1
        clear v1
        go_wp2
        go_ret2
        exact ⟨by rw [unhide FW]; rfl, unhide B1⟩
      · obtain ⟨k, hk⟩ : ∃ k : Nat, i = (c.bi : Int) + 1 + k := ⟨(i - (c.bi : Int) - 1).toNat, by omega⟩
        have hkl : k < c.es.length := by omega
        have FW := hide (show tw = (((c.es[k]).2.1 : Int), true) by
          rw [unhide FE, if_neg h1, if_pos ⟨by omega, by omega⟩, show (i - (c.bi : Int) - 1).toNat = k by omega, List.getD_eq_getElem?_getD, List.getElem?_eq_getElem hkl]
          rfl)
        obtain ⟨b, off, dp, dc, rfl, q0, q1, qr⟩ := (unhide EA).cell k (by rw [List.length_map]; exact hkl)
        have hm : (c.es.map toI)[k]'(by rw [List.length_map]; exact hkl) = toI c.es[k] := by simp
        rw [hm] at q1
        clear q0 qr hm EA HC FE
        have q1 : w.cell? ⟨b, off + k * 4 + 1, none⟩ = some (.int .i64 ((c.es[k]).2.1 : Int)) := q1
        have hk0 : (0 : Int) ≤ (k : Int) := by omega
        have hk1 : (k : Int) < (c.es.length : Int) := by omega
        have hik : IntKind.i64.wrap (IntKind.i64.wrap (i - (c.bi : Int)) - 1) = (k : Int) := by
          rw [IntKind.wrap_i64, IntKind.wrap_i64]
          omega
        have h2' : ¬ i < (c.bi : Int) := by omega
        have h3' : ¬ ((c.bi + c.es.length : Nat) : Int) < i := by omega
        have HK := hide hk
        clear hk
        generalize c.es[k] = ek at *
        clear hkl
        generalize ((c.bi + c.es.length : Nat) : Int) = la at *
        generalize c.bi = bi at *
        generalize c.bt = bt at *
        generalize c.es.length = n at *
        go_enter Tryz.func58, Tryz.ntmps58
        go_wp2_with fail
        go_at_call 83
        refine (unhide LC).mono ?_
        rintro e V ⟨rfl, v1⟩
        have d0 := cell_later v1 c0
        have d4 := cell_later v1 c4
        have r1 := cell_later v1 q1
        have B1 := hide v1
        have BD := hide (show ∀ k, Below w.heap.size w (V.drewN k) from fun k => ⟨v1.os, v1.tape, v1.output, v1.size, v1.block⟩)
        clear v1 c0 c1 c4 q1
        go_wp2_with fail
        go_quiet (fail)
        go_wp2
        go_ret2
        exact ⟨by rw [unhide FW]; rfl, unhide BD _⟩
end
end Go.Proofs.YtijcpmbfhfppmaaGreatDoor
