/- Plane: clone. -/
import Derived.Test.YtcmiappiocfbiaaGreatDoorPs7
import Derived.Test.YtcmiappiocfbiaaGreatDoorPs6
namespace Go.Proofs.YtcmiappiocfbiaaGreatDoor
open Go.ChangeShapes Go.WideShapes Go.ChangeAt Go.RowKit
set_option linter.unusedVariables false

theorem OwnT.keep {base : Nat} {w w' : World} {sp : Option Addr} {c : Nat} {l : List Tg} (h : OwnT base w sp c l) (hb : ∀ g, sp.map (·.block) = some g → base ≤ g → g < w.heap.size → w'.heap[g]? = w.heap[g]?) : OwnT base w' sp c l := by
  refine ⟨h.1, ?_⟩
  rcases h.2 with hv | ⟨g', cap, cur, hv, hbg, hg, r⟩
  · exact .inl hv
  · have hv' := hv
    simp only [Value.slice.injEq] at hv'
    obtain ⟨rfl, _⟩ := hv'
    exact .inr ⟨g', cap, cur, hv, hbg, (hb g' rfl hbg (Array.getElem?_eq_some_iff.1 hg).1).trans hg, r⟩
theorem OwnT.lt {base : Nat} {w : World} {sp : Option Addr} {c : Nat} {l : List Tg} (h : OwnT base w sp c l) (g : Nat) (hg : sp.map (·.block) = some g) : base ≤ g ∧ g < w.heap.size := by
  rcases h.2 with ⟨hv, _⟩ | ⟨g', cap, cur, hv, hbg, hg', r⟩
  · simp only [Value.slice.injEq] at hv
    obtain ⟨rfl, _⟩ := hv
    cases hg
  · simp only [Value.slice.injEq] at hv
    obtain ⟨rfl, _⟩ := hv
    cases hg
    exact ⟨hbg, (Array.getElem?_eq_some_iff.1 hg').1⟩
theorem OwnT.cap {base : Nat} {w : World} {sp : Option Addr} {c : Nat} {l : List Tg} (h : OwnT base w sp c l) : l.length ≤ c ∧ (sp = none → c = 0) := by
  rcases h.2 with ⟨hv, h0⟩ | ⟨g', cap, cur, hv, hbg, hg', hle, r⟩
  · simp only [Value.slice.injEq] at hv
    exact ⟨by omega, fun _ => hv.2.2⟩
  · simp only [Value.slice.injEq] at hv
    obtain ⟨rfl, _, rfl⟩ := hv
    exact ⟨hle, fun e => by cases e⟩
/-- The pools' row while the targets of its first j pools are made one's own. -/
def PoolRow (base G : Nat) (w wr : World) (ps : List Po) (j : Nat) : Prop :=
  base ≤ G ∧ ∃ cur, wr.heap[G]? = some (.cells cur 39 (0, 0)) ∧ ∀ q (hq : q < ps.length), cur[q * 2]? = some (.string ps[q].nm) ∧ ∃ ta tc, cur[q * 2 + 1]? = some (.slice ta ps[q].ts.length tc) ∧ (q < j → OwnT base wr ta tc ps[q].ts ∧ ta.map (·.block) ≠ some G) ∧ (j ≤ q → TgsAt w ta ps[q].ts ∧ (ta = none → tc = 0))
theorem PoolRow.later {base G : Nat} {w wr wr' : World} {ps : List Po} {j : Nat} (h : PoolRow base G w wr ps j) (hb : ∀ g, base ≤ g → g < wr.heap.size → wr'.heap[g]? = wr.heap[g]?) : PoolRow base G w wr' ps j := by
  obtain ⟨hG, cur, h1, h2⟩ := h
  refine ⟨hG, cur, (hb G hG (Array.getElem?_eq_some_iff.1 h1).1).trans h1, fun q hq => ?_⟩
  obtain ⟨n1, ta, tc, n2, n3, n4⟩ := h2 q hq
  exact ⟨n1, ta, tc, n2, fun hj => ⟨(n3 hj).1.keep (fun g _ g1 g2 => hb g g1 g2), (n3 hj).2⟩, n4⟩
theorem PoolRow.step {base G : Nat} {w wr : World} {ps : List Po} {j : Nat} (h : PoolRow base G w wr ps j) (hj : j < ps.length) (ta' : Option Addr) (tc' : Nat) (ho : OwnT base wr ta' tc' ps[j].ts) (hne : ta'.map (·.block) ≠ some G) : PoolRow base G w (wr.setCell ⟨G, j * 2 + 1, none⟩ (.slice ta' ps[j].ts.length tc')) ps (j + 1) := by
  obtain ⟨hG, cur, h1, h2⟩ := h
  have oth : ∀ g, some g ≠ some G → (wr.setCell ⟨G, j * 2 + 1, none⟩ (.slice ta' ps[j].ts.length tc')).heap[g]? = wr.heap[g]? := fun g hg => heap_setCell_other wr ⟨G, j * 2 + 1, none⟩ g _ (fun e => hg (by rw [e]))
  refine ⟨hG, _, heap_setCell_same wr G (j * 2 + 1) cur _ _ h1, fun q hq => ?_⟩
  obtain ⟨n1, ta, tc, n2, n3, n4⟩ := h2 q hq
  by_cases e : q = j
  · subst e
    have hlt : q * 2 + 1 < cur.size := (Array.getElem?_eq_some_iff.1 n2).1
    refine ⟨by rw [Array.getElem?_setIfInBounds_ne (by omega)]; exact n1, ta', tc', by rw [Array.getElem?_setIfInBounds_self_of_lt hlt], fun _ => ⟨ho.keep (fun g g0 _ _ => oth g (fun e => hne (by rw [g0, e]))), hne⟩, fun h => by omega⟩
  · refine ⟨by rw [Array.getElem?_setIfInBounds_ne (by omega)]; exact n1, ta, tc, by rw [Array.getElem?_setIfInBounds_ne (by omega)]; exact n2, fun hq' => ⟨(n3 (by omega)).1.keep (fun g g0 _ _ => oth g (fun e => (n3 (by omega)).2 (by rw [g0, e]))), (n3 (by omega)).2⟩, fun hq' => n4 (by omega)⟩
/-- A configuration that lies wholly in blocks of one's own. -/
def Stay (base : Nat) (w : World) (e : Cf) (h : CfH) : Prop := ∀ w', (∀ g, base ≤ g → g < w.heap.size → w'.heap[g]? = w.heap[g]?) → CfAt w' e h
theorem Stay.now {base : Nat} {w : World} {e : Cf} {h : CfH} (s : Stay base w e h) : CfAt w e h := s w (fun _ _ _ => rfl)
theorem Stay.later {base : Nat} {w w' : World} {e : Cf} {h : CfH} (s : Stay base w e h) (hb : ∀ g, base ≤ g → g < w.heap.size → w'.heap[g]? = w.heap[g]?) (hs : w.heap.size ≤ w'.heap.size) : Stay base w' e h :=
  fun v hv => s v (fun g h1 h2 => (hv g h1 (Nat.lt_of_lt_of_le h2 hs)).trans (hb g h1 h2))
theorem PoolRow.pos {base G : Nat} {w wr : World} {ps : List Po} (h : PoolRow base G w wr ps ps.length) (hl : ∀ y ∈ ps, (∀ t ∈ y.ts, t.2 < 18446744073709551616) ∧ y.ts.length ≤ maxLen) : PosAt wr (some ⟨G, 0, none⟩) ps := by
  obtain ⟨hG, cur, h1, h2⟩ := h
  refine ⟨fun i hi => ?_⟩
  obtain ⟨n1, ta, tc, n2, n3, _⟩ := h2 i hi
  obtain ⟨m1, m2⟩ := hl _ (List.getElem_mem hi)
  have o := (n3 hi).1
  exact ⟨G, 0, ta, tc, rfl, by rw [Nat.zero_add]; exact box_cell h1 _ _ n1, by rw [Nat.zero_add]; exact box_cell h1 _ _ n2, o.at_ m1, ⟨m2, o.cap.1⟩, o.cap.2⟩
end Go.Proofs.YtcmiappiocfbiaaGreatDoor
