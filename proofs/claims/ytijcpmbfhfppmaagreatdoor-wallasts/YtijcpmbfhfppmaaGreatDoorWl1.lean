/- Logs: what a log's records say, and how it lies in memory. -/
import Derived.Test.YtijcpmbfhfppmaaGreatDoorWr3
import Derived.Test.YtijcpmbfhfppmaaGreatDoorDkb
namespace Go.Proofs.YtijcpmbfhfppmaaGreatDoor
open Go.ChangeShapes Go.WideShapes Go.ChangeAt Go.RowKit
set_option linter.unusedVariables false

/-- What a log's records say: base, hard state, entries. -/
structure Wc where
  bi : Nat
  bt : Nat
  ht : Nat
  hv : Nat
  es : List EntN
def wc0 : Wc := ⟨0, 0, 0, 0, []⟩
/-- Entries of one's own: the row, and where their data lie. -/
structure OwnL (base : Nat) (w : World) (sp : Option Addr) (c : Nat) (es : List EntN) (hs : List (Option Addr × Nat)) : Prop where
  len : hs.length = es.length
  row : w.ownsRow base 60 4 (.slice sp es.length c) es.length (rowsV es hs)
  dat : ∀ i (hi : i < es.length) (hj : i < hs.length), Bx base w hs[i].1 hs[i].2 es[i].2.2.2
/-- The blocks of entries. -/
def LFoot (sp : Option Addr) (hs : List (Option Addr × Nat)) (g : Nat) : Prop := blk sp = some g ∨ ∃ h ∈ hs, blk h.1 = some g
section
variable {base : Nat} {w w' : World} {sp : Option Addr} {c : Nat} {es : List EntN} {hs : List (Option Addr × Nat)}
theorem OwnL.ofNil (base : Nat) (w : World) : OwnL base w none 0 [] [] := ⟨rfl, w.ownsRow_nil base 60 4, fun i hi => by simp at hi⟩
theorem OwnL.foot (h : OwnL base w sp c es hs) : ∀ g, LFoot sp hs g → base ≤ g ∧ g < w.heap.size ∧ ∃ (cur : Array Value) (T : TypeId), w.heap[g]? = some (.cells cur T (0, 0)) ∧ (T = 60 ∨ T = 5) := by
  rintro g (hg | ⟨x, hx, hg⟩)
  · rcases h.row.2 with ⟨hv, h0⟩ | ⟨g', cap, cur, hv, hbg, hh, _⟩
    · simp only [Value.slice.injEq] at hv
      rw [hv.1] at hg
      cases hg
    · simp only [Value.slice.injEq] at hv
      rw [hv.1] at hg
      cases hg
      exact ⟨hbg, (Array.getElem?_eq_some_iff.1 hh).1, cur, _, hh, .inl rfl⟩
  · obtain ⟨i, hi, rfl⟩ := List.getElem_of_mem hx
    obtain ⟨h1, h2, cur, h3⟩ := (h.dat i (by rw [← h.len]; exact hi) hi).isT g hg
    exact ⟨h1, h2, cur, _, h3, .inr rfl⟩
theorem OwnL.same (h : OwnL base w sp c es hs) (hk : ∀ g, LFoot sp hs g → w'.heap[g]? = w.heap[g]?) : OwnL base w' sp c es hs := by
  refine ⟨h.len, ⟨h.row.1, ?_⟩, fun i hi hj => (h.dat i hi hj).same (fun g hg => hk g (.inr ⟨_, List.getElem_mem hj, hg⟩))⟩
  rcases h.row.2 with hv | ⟨g, cap, cur, hv, hbg, hg, r⟩
  · exact .inl hv
  · refine .inr ⟨g, cap, cur, hv, hbg, (hk g (.inl ?_)).trans hg, r⟩
    simp only [Value.slice.injEq] at hv
    rw [hv.1]
    rfl
theorem OwnL.later (h : OwnL base w sp c es hs) (hb : Below w.heap.size w w') : OwnL base w' sp c es hs := h.same (fun g hg => hb.block g (h.foot g hg).2.1)
theorem OwnL.mono {base' : Nat} (h : OwnL base w sp c es hs) (hb : base' ≤ base) : OwnL base' w sp c es hs :=
  ⟨h.len, ⟨h.row.1, h.row.2.imp id (fun ⟨g, cap, cur, h1, h2, h3⟩ => ⟨g, cap, cur, h1, Nat.le_trans hb h2, h3⟩)⟩, fun i hi hj => (h.dat i hi hj).mono hb⟩
theorem OwnL.ents (h : OwnL base w sp c es hs) : EntsAt w sp (es.map toI) := by
  refine ⟨fun i hi => ?_⟩
  have hi' : i < es.length := by simpa using hi
  have hh : i < hs.length := by rw [h.len]; exact hi'
  rcases h.row.2 with ⟨hv, h0⟩ | ⟨g, cap, cur, hv, hb, hg, hle, hmx, hsz, ht⟩
  · omega
  · simp only [Value.slice.injEq] at hv
    obtain ⟨rfl, _, rfl⟩ := hv
    have one : ∀ f, f < 4 → w.cell? ⟨g, 0 + i * 4 + f, none⟩ = (entRow es[i] hs[i])[f]? := fun f hf => by
      have hk := rowsV_get es hs i f hi' hh hf
      rw [Nat.zero_add, cell_of_row w g _ cur _ _ hg, ← Array.getElem?_toList]
      have hj : i * 4 + f < es.length * 4 := by omega
      rw [← ht, List.getElem?_take, if_pos hj] at hk
      exact hk
    have e : (es.map toI)[i] = toI es[i] := by simp
    rw [e]
    have hd := h.dat i hi' hh
    exact ⟨g, 0, hs[i].1, hs[i].2, rfl, one 0 (by omega), one 1 (by omega), one 2 (by omega), one 3 (by omega), hd.bytes, hd.nil0⟩
theorem rowsV_take : ∀ (es : List EntN) (hs : List (Option Addr × Nat)) (k : Nat), hs.length = es.length → rowsV (es.take k) (hs.take k) = (rowsV es hs).take (k * 4)
  | [], [], k, _ => by simp [rowsV]
  | [], _ :: _, _, h => by simp at h
  | _ :: _, [], _, h => by simp at h
  | e :: es, h :: hs, 0, _ => by simp [rowsV]
  | e :: es, h :: hs, k + 1, hl => by
    have ih := rowsV_take es hs k (by simpa using hl)
    have hc : ∀ (e : EntN) (es : List EntN) (h : Option Addr × Nat) (hs : List (Option Addr × Nat)), rowsV (e :: es) (h :: hs) = entRow e h ++ rowsV es hs := fun _ _ _ _ => rfl
    have t1 : (entRow e h).take (4 + k * 4) = entRow e h := List.take_of_length_le (show 4 ≤ 4 + k * 4 by omega)
    rw [List.take_succ_cons, List.take_succ_cons, hc, hc, ih, show (k + 1) * 4 = 4 + k * 4 by omega, List.take_append, t1, show 4 + k * 4 - (entRow e h).length = k * 4 from by show 4 + k * 4 - 4 = k * 4; omega]
/-- The first ones of them. -/
theorem OwnL.take (h : OwnL base w sp c es hs) (k : Nat) (hk : k ≤ es.length) : OwnL base w sp c (es.take k) (hs.take k) := by
  have hl : (es.take k).length = k := by rw [List.length_take]; omega
  refine ⟨by rw [List.length_take, List.length_take, h.len], ?_, fun i hi hj => ?_⟩
  · rw [hl, rowsV_take es hs k h.len]
    refine ⟨by rw [List.length_take, h.row.1]; omega, ?_⟩
    rcases h.row.2 with ⟨hv, h0⟩ | ⟨g, cap, cur, hv, hb, hg, hle, hmx, hsz, ht⟩
    · have hk0 : k = 0 := by omega
      subst hk0
      simp only [Value.slice.injEq] at hv
      obtain ⟨rfl, _, rfl⟩ := hv
      exact .inl ⟨rfl, rfl⟩
    · simp only [Value.slice.injEq] at hv
      obtain ⟨rfl, _, rfl⟩ := hv
      refine .inr ⟨g, c, cur, rfl, hb, hg, by omega, hmx, hsz, ?_⟩
      rw [← ht, List.take_take]
      congr 1
      omega
  · rw [List.getElem_take, List.getElem_take]
    exact h.dat i (by rw [List.length_take] at hi; omega) (by rw [List.length_take] at hj; omega)
theorem LFoot.take {g k : Nat} (h : LFoot sp (hs.take k) g) : LFoot sp hs g := by
  rcases h with h | ⟨x, hx, h⟩
  · exact .inl h
  · exact .inr ⟨x, List.mem_of_mem_take hx, h⟩
/-- append(l, e). -/
theorem run_appendL (hown : OwnL base w sp c es hs) (B : Nat) (e : EntN) (h : Option Addr × Nat)
    (hB : w.heap[B]? = some (.cells (entRow e h).toArray 60 (0, 0))) (hd : Bx base w h.1 h.2 e.2.2.2) (hn : es.length ≤ 1048576) (hbase : base ≤ w.heap.size) (ty : TypeId) :
    ∃ sp' c' w', (Builtin.append_ #[27, 27] ty #[.slice sp es.length c, .slice (some ⟨B, 0, none⟩) 1 1]).run Tryz.prog w = .ok (.slice sp' (es.length + 1) c') w' ∧ OwnL base w' sp' c' (es ++ [e]) (hs ++ [h]) ∧ w.grownBy w' (blk sp) ∧ (∀ g, blk sp' = some g → blk sp = some g ∨ w.heap.size ≤ g) := by
  obtain ⟨i0, hi, hz0, hz1, hz2⟩ := info_parts infoE
  obtain ⟨v', w', hrun, h1, h2, h4, h5⟩ := run_append_own_at (P := Tryz.prog) w base 27 ty 60 i0 _ 4 48 Tryz.underlying27 hi hz0 hz1 hz2 rfl (by omega) _ _ _ hown.row ⟨B, 0, none⟩ 1 1 (entRow e h) rfl
    (fun j u hu => by have := World.news_of_block hB j u; simp only at this; exact this hu) (by intro u hu; simp only [entRow, List.mem_cons, List.not_mem_nil, or_false] at hu; rcases hu with rfl | rfl | rfl | rfl <;> rfl) (by simp only [maxLen]; omega) (by omega) hbase
  have hv : ∃ sp' c', v' = .slice sp' (es.length + 1) c' := by
    rcases h1.2 with ⟨hv, h0⟩ | ⟨g, cap, cur, hv, _⟩
    · omega
    · exact ⟨_, _, hv⟩
  obtain ⟨sp', c', rfl⟩ := hv
  rw [ownBlock_slice] at h2
  rw [ownBlock_slice, ownBlock_slice] at h5
  have hrow := hown.row
  have notE : ∀ (x : Option Addr) (xc : Nat) (l : List Nat), Bx base w x xc l → ∀ g, blk x = some g → blk sp ≠ some g := fun x xc l hx g hg hsp => by
    obtain ⟨_, _, cur, hc⟩ := hx.isT g hg
    rcases hrow.2 with ⟨hv, h0⟩ | ⟨g', cap, cur', hv, _, hh, _⟩
    · simp only [Value.slice.injEq] at hv
      rw [hv.1] at hsp
      cases hsp
    · simp only [Value.slice.injEq] at hv
      rw [hv.1] at hsp
      cases hsp
      rw [hc] at hh
      simp at hh
  refine ⟨sp', c', w', hrun, ⟨by simp [hown.len], ?_, ?_⟩, h2, ?_⟩
  · rw [rowsV_snoc es hs e h hown.len, List.length_append]
    exact h1
  · intro i hi hj
    rw [List.length_append] at hi
    simp only [List.length_cons, List.length_nil] at hi
    by_cases hi' : i < es.length
    · have hj' : i < hs.length := by rw [hown.len]; exact hi'
      rw [List.getElem_append_left hi', List.getElem_append_left hj']
      exact (hown.dat i hi' hj').grownNe h2 (fun g hg e => notE _ _ _ (hown.dat i hi' hj') g hg e)
    · have hi2 : i = es.length := by omega
      have e1 : (es ++ [e])[i] = e := by rw [List.getElem_append_right (by omega)]; simp
      have e2 : (hs ++ [h])[i] = h := by rw [List.getElem_append_right (by rw [hown.len]; omega)]; simp
      rw [e1, e2]
      exact hd.grownNe h2 (fun g hg e => notE _ _ _ hd g hg e)
  · intro g hg
    rcases h5 with h5 | h5
    · exact .inl (by rw [← h5]; exact hg)
    · right
      rw [h5] at hg
      cases hg
      exact Nat.le_refl _
end
end Go.Proofs.YtijcpmbfhfppmaaGreatDoor
