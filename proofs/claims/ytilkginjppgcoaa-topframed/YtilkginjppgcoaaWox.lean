/- Wire: what was got may be changed: the entries' data, one by one. -/
import Derived.Test.YtilkginjppgcoaaSames
import Derived.Test.YtilkginjppgcoaaRgmsg
import Derived.Laws.BitsAllLaws
namespace Go.Proofs.Ytilkginjppgcoaa
open Go.ChangeShapes Go.WideShapes Go.ChangeAt Go.RowKit

theorem row_set {w : World} {g : Nat} {T : TypeId} {cur : List Value} (h : w.heap[g]? = some (.cells cur.toArray T (0, 0))) (k : Nat) (v : Value) : (w.setCell ⟨g, k, none⟩ v).heap[g]? = some (.cells (cur.set k v).toArray T (0, 0)) := by
  have := heap_setCell_same w g k _ T v h
  rw [this]
  simp
theorem OwnB.ne_block {base : Nat} {w : World} {sp : Option Addr} {c : Nat} {l : List Nat} (h : OwnB base w sp c l) {g : Nat} {cs : Array Value} {T : TypeId} {fr : Nat × Nat} (hg : w.heap[g]? = some (.cells cs T fr)) (hT : T ≠ 5) : blk sp ≠ some g := by
  intro hs
  rcases h.owns.2 with ⟨hv, _⟩ | ⟨g1, cap, cur, hv, _, hh, _⟩
  · simp only [Value.slice.injEq] at hv
    rw [hv.1] at hs
    cases hs
  · simp only [Value.slice.injEq] at hv
    rw [hv.1] at hs
    obtain rfl : g1 = g := by simpa [blk] using hs
    rw [hh] at hg
    simp only [Option.some.injEq, Obj.cells.injEq] at hg
    exact hT hg.2.1.symm
theorem OwnB.setAt {base : Nat} {w : World} {sp : Option Addr} {c : Nat} {l : List Nat} (h : OwnB base w sp c l) (j : Nat) (hj : j < l.length) (y : Nat) (hy : y < 256) : ∃ g, sp = some ⟨g, 0, none⟩ ∧ base ≤ g ∧ w.cell? ⟨g, j, none⟩ = some (.int .u8 ((l.getD j 0 : Nat) : Int)) ∧ w.frozen? ⟨g, j, none⟩ = false ∧ OwnB base (w.setCell ⟨g, j, none⟩ (.int .u8 (y : Int))) sp c (l.set j y) ∧ w.grownBy (w.setCell ⟨g, j, none⟩ (.int .u8 (y : Int))) (some g) ∧ (w.setCell ⟨g, j, none⟩ (.int .u8 (y : Int))).heap.size = w.heap.size := by
  obtain ⟨b, off, hsp, hcell⟩ := h.bytes.cell j hj
  obtain ⟨g1, cap, cur, hv, hbg, hh, hle, hmx, hsz, htk⟩ := h.owns.2.resolve_left (fun e => by have := e.2; omega)
  simp only [Value.slice.injEq] at hv
  obtain ⟨rfl, _, rfl⟩ := hv
  simp only [Option.some.injEq, Addr.mk.injEq, and_true] at hsp
  obtain ⟨rfl, rfl⟩ := hsp
  rw [Nat.zero_add] at hcell
  obtain ⟨cl⟩ := cur
  have htk1 : cl.take (l.length * 1) = l.map byteV := htk
  rw [Nat.mul_one] at htk1
  have hsz1 : cl.length = c * 1 := hsz
  refine ⟨g1, rfl, hbg, hcell, box_free hh j, ⟨⟨by rw [List.length_map, Nat.mul_one], .inr ⟨g1, c, (cl.set j (.int .u8 (y : Int))).toArray, by rw [List.length_set], hbg, row_set hh _ _, by rw [List.length_set]; exact hle, hmx, by simpa using hsz, ?_⟩⟩, ?_⟩, grown_set _ _ _ _, by simp⟩
  · rw [List.length_set, Nat.mul_one, List.toList_toArray, List.take_set, htk1, List.map_set]
    rfl
  · intro x hx
    rcases List.mem_or_eq_of_mem_set hx with h1 | h1
    · exact h.lt x h1
    · rw [h1]; exact hy
theorem xor_byte (x k : Nat) (hx : x < 256) (hk : k < 256) : ∃ y : Nat, bits .xor .u8 (x : Int) (k : Int) = (y : Int) ∧ y < 256 := ⟨x ^^^ k, u8_xor_nat x k hx hk, Nat.xor_lt_two_pow (n := 8) hx hk⟩
theorem OwnB.getLt {base : Nat} {w : World} {sp : Option Addr} {c : Nat} {l : List Nat} (h : OwnB base w sp c l) (j : Nat) (hj : j < l.length) : l.getD j 0 < 256 := by
  rw [List.getD_eq_getElem?_getD, List.getElem?_eq_getElem hj]
  exact h.lt _ (List.getElem_mem hj)
/-- An entry with other data. -/
def entSet (e : EntN) (d : List Nat) : EntN := (e.1, e.2.1, e.2.2.1, d)
theorem rowsV_set : ∀ (es : List EntN) (hs : List (Option Addr × Nat)) (i : Nat) (d : List Nat) (h : Option Addr × Nat), hs.length = es.length → i < es.length → rowsV (es.set i (entSet (es.getD i default) d)) (hs.set i h) = (rowsV es hs).set (i * 4 + 3) (.slice h.1 d.length h.2)
  | [], _, i, _, _, _, hi => by simp at hi
  | _ :: _, [], _, _, _, hl, _ => by simp at hl
  | e :: es, h0 :: hs, 0, d, h, _, _ => by
    simp [rowsV, entRow, entSet]
  | e :: es, h0 :: hs, i + 1, d, h, hl, hi => by
    have ih := rowsV_set es hs i d h (by simpa using hl) (by simpa using hi)
    have e4 : (i + 1) * 4 + 3 = (i * 4 + 3) + 1 + 1 + 1 + 1 := by omega
    rw [e4]
    simp only [rowsV, List.set_cons_succ, List.zip_cons_cons, List.flatMap_cons, List.getD_cons_succ] at ih ⊢
    rw [ih]
    simp only [entRow, List.cons_append, List.nil_append, List.set_cons_succ]
/-- One's own entries and one's own bytes, all data apart. -/
structure OwnX (base : Nat) (w : World) (ep : Option Addr) (ec : Nat) (es : List EntN) (sp : Option Addr) (cc : Nat) (d : List Nat) : Prop where
  own : ∃ hs : List (Option Addr × Nat), OwnH base w ep ec es hs ∧ OwnB base w sp cc d ∧ ∀ i, i < es.length → ∀ g, blk (hs.getD i (none, 0)).1 = some g → blk sp ≠ some g
section
variable {base : Nat} {w w' : World} {ep : Option Addr} {ec : Nat} {es : List EntN} {sp : Option Addr} {cc : Nat} {d : List Nat}
theorem OwnD.toX (h : OwnD base w ep ec es sp cc d) : OwnX base w ep ec es sp cc d := by
  obtain ⟨top, ⟨hs, h1, h2⟩, h3⟩ := h.ap
  exact ⟨hs, h1, h.own, fun i hi g hg hg' => by have := h2 i hi g hg; have := h3 g hg'; omega⟩
theorem OwnX.later (h : OwnX base w ep ec es sp cc d) (hb : Below w.heap.size w w') : OwnX base w' ep ec es sp cc d := by
  obtain ⟨hs, h1, h2, h3⟩ := h.own
  exact ⟨hs, h1.later hb, h2.later hb, h3⟩
theorem OwnX.far (h : OwnX base w ep ec es sp cc d) {j : Nat} (hg : w.grownBy w' (some j)) (hj : j < base) : OwnX base w' ep ec es sp cc d := by
  obtain ⟨hs, h1, h2, h3⟩ := h.own
  exact ⟨hs, h1.far hg hj, h2.far hg hj, h3⟩
theorem OwnX.drew (h : OwnX base w ep ec es sp cc d) : OwnX base w.drew ep ec es sp cc d := by
  obtain ⟨hs, h1, h2, h3⟩ := h.own
  exact ⟨hs, h1.drew, ⟨h2.owns, h2.lt⟩, h3⟩
theorem OwnX.ents (h : OwnX base w ep ec es sp cc d) : EntsAt w ep (es.map toI) := by
  obtain ⟨hs, h1, _⟩ := h.own
  exact OwnEs.ents ⟨hs, h1⟩
theorem OwnX.data (h : OwnX base w ep ec es sp cc d) : OwnB base w sp cc d := by
  obtain ⟨hs, _, h2, _⟩ := h.own
  exact h2
theorem OwnX.rowBlk (h : OwnX base w ep ec es sp cc d) (i : Nat) (hi : i < es.length) : ∃ g cur, ep = some ⟨g, 0, none⟩ ∧ base ≤ g ∧ w.heap[g]? = some (.cells cur 36 (0, 0)) := by
  obtain ⟨hs, h1, _⟩ := h.own
  rcases h1.row.2 with ⟨_, h0⟩ | ⟨g, cap, cur, hv, hbg, hg, _⟩
  · omega
  · simp only [Value.slice.injEq] at hv
    exact ⟨g, cur, hv.1, hbg, hg⟩
/-- The i-th entry's data, and what becomes of all when other data is put there. -/
theorem OwnX.at (h : OwnX base w ep ec es sp cc d) (i : Nat) (hi : i < es.length) : ∃ g dp dc, ep = some ⟨g, 0, none⟩ ∧ base ≤ g ∧ w.cell? ⟨g, i * 4 + 3, none⟩ = some (.slice dp (es.getD i default).2.2.2.length dc) ∧ OwnB base w dp dc (es.getD i default).2.2.2 ∧ (∃ cur, w.heap[g]? = some (.cells cur 36 (0, 0))) ∧
    ∀ W dp' n' dc' d', w.grownBy W (blk dp) → OwnB base W dp' dc' d' → d'.length = n' → (∀ x, blk dp' = some x → blk dp = some x ∨ w.heap.size ≤ x) → W.cell? ⟨g, i * 4 + 3, none⟩ = some (.slice dp (es.getD i default).2.2.2.length dc) ∧ W.frozen? ⟨g, i * 4 + 3, none⟩ = false ∧ OwnX base (W.setCell ⟨g, i * 4 + 3, none⟩ (.slice dp' n' dc')) ep ec (es.set i (entSet (es.getD i default) d')) sp cc d ∧ (∃ cur, W.heap[g]? = some (.cells cur 36 (0, 0))) := by
  obtain ⟨hs, h1, h2, h3⟩ := h.own
  rcases h1.row.2 with ⟨_, h0⟩ | ⟨g, cap, cur, hv, hbg, hg, hle, hmx, hsz, ht⟩
  · omega
  · simp only [Value.slice.injEq] at hv
    obtain ⟨rfl, _, rfl⟩ := hv
    have hih : i < hs.length := by have := h1.len; omega
    have e1 : hs.getD i (none, 0) = hs[i] := by rw [List.getD_eq_getElem?_getD, List.getElem?_eq_getElem hih]; rfl
    have e2 : es.getD i default = es[i] := by rw [List.getD_eq_getElem?_getD, List.getElem?_eq_getElem hi]; rfl
    obtain ⟨cl⟩ := cur
    have ht1 : cl.take (es.length * 4) = rowsV es hs := ht
    have hsz1 : cl.length = ec * 4 := hsz
    have hdi := h1.dat i hi
    have key : w.cell? ⟨g, i * 4 + 3, none⟩ = some (.slice (hs.getD i (none, 0)).1 (es.getD i default).2.2.2.length (hs.getD i (none, 0)).2) := by
      refine box_cell hg _ _ ?_
      have e := rowsV_get es hs i 3 hi hih (by omega)
      rw [← ht1, List.getElem?_take, if_pos (by omega)] at e
      rw [e1, e2]
      simpa [entRow] using e
    refine ⟨g, (hs.getD i (none, 0)).1, (hs.getD i (none, 0)).2, rfl, hbg, key, hdi, ⟨_, hg⟩, ?_⟩
    intro W dp' n' dc' d' hgr ho hn hlies
    subst hn
    have hWg : W.heap[g]? = some (.cells cl.toArray 36 (0, 0)) := (hgr.block g (Array.getElem?_eq_some_iff.1 hg).1 (fun e => hdi.ne_block hg (by decide) e.symm)).trans hg
    have hgs := grown_set W g (i * 4 + 3) (.slice dp' d'.length dc')
    have hneq : ∀ q, q < es.length → q ≠ i → OwnB base W (hs.getD q (none, 0)).1 (hs.getD q (none, 0)).2 (es.getD q default).2.2.2 := fun q hq hne => (h1.dat q hq).grownNe hgr (fun x hx e => by
      rcases Nat.lt_or_gt_of_ne hne with hlt | hlt
      · exact h1.apart q i hlt hi x hx e
      · exact h1.apart i q hlt hq x e hx)
    have gs : ∀ q, (hs.set i (dp', dc')).getD q (none, 0) = if q = i then (dp', dc') else hs.getD q (none, 0) := fun q => by
      rw [List.getD_eq_getElem?_getD, List.getElem?_set]
      by_cases hq : i = q
      · subst hq; simp [hih]
      · rw [if_neg hq, if_neg (fun e => hq e.symm), ← List.getD_eq_getElem?_getD]
    have ge : ∀ q, (es.set i (entSet (es.getD i default) d')).getD q default = if q = i then entSet (es.getD i default) d' else es.getD q default := fun q => by
      rw [List.getD_eq_getElem?_getD, List.getElem?_set]
      by_cases hq : i = q
      · subst hq; simp [hi]
      · rw [if_neg hq, if_neg (fun e => hq e.symm), ← List.getD_eq_getElem?_getD]
    refine ⟨?_, box_free hWg _, ⟨hs.set i (dp', dc'), ⟨by simp [h1.len], ⟨?_, .inr ⟨g, ec, (cl.set (i * 4 + 3) (.slice dp' d'.length dc')).toArray, by rw [List.length_set], hbg, row_set hWg _ _, by rw [List.length_set]; exact hle, hmx, by simpa using hsz, ?_⟩⟩, ?_, ?_⟩, ?_, ?_⟩, ⟨_, hWg⟩⟩
    · refine box_cell hWg _ _ ?_
      have := key
      rw [cell_of_row w g _ _ _ _ hg] at this
      exact this
    · rw [List.length_set, rowsV_length _ _ (by simp [h1.len]), List.length_set]
    · rw [List.length_set, List.toList_toArray, List.take_set, ht1, rowsV_set es hs i d' (dp', dc') h1.len hi]
    · intro q hq
      rw [List.length_set] at hq
      rw [gs, ge]
      by_cases hqi : q = i
      · rw [if_pos hqi, if_pos hqi]
        exact ho.grownNe hgs (fun x hx e => ho.ne_block hWg (by decide) (hx.trans e.symm))
      · rw [if_neg hqi, if_neg hqi]
        exact (hneq q hq hqi).grownNe hgs (fun x hx e => (hneq q hq hqi).ne_block hWg (by decide) (hx.trans e.symm))
    · intro p q hpq hq x hx hx'
      rw [List.length_set] at hq
      rw [gs] at hx hx'
      by_cases hp : p = i
      · rw [if_pos hp] at hx
        rw [if_neg (by omega)] at hx'
        rcases hlies x hx with h5 | h5
        · exact h1.apart i q (by omega) hq x h5 hx'
        · have := ((h1.dat q hq).blk_lt x hx').2; omega
      · rw [if_neg hp] at hx
        by_cases hqi : q = i
        · rw [if_pos hqi] at hx'
          rcases hlies x hx' with h5 | h5
          · exact h1.apart p i (by omega) hi x hx h5
          · have := ((h1.dat p (by omega)).blk_lt x hx).2; omega
        · rw [if_neg hqi] at hx'
          exact h1.apart p q hpq hq x hx hx'
    · have hd : OwnB base W sp cc d := h2.grownNe hgr (fun x hx e => h3 i hi x e hx)
      exact hd.grownNe hgs (fun x hx e => hd.ne_block hWg (by decide) (hx.trans e.symm))
    · intro q hq x hx hx'
      rw [List.length_set] at hq
      rw [gs] at hx
      by_cases hqi : q = i
      · rw [if_pos hqi] at hx
        rcases hlies x hx with h5 | h5
        · exact h3 i hi x h5 hx'
        · have := (h2.blk_lt x hx').2; omega
      · rw [if_neg hqi] at hx
        exact h3 q hq x hx hx'
/-- The bytes are changed: the entries stay. -/
theorem OwnX.other (h : OwnX base w ep ec es sp cc d) (hg : w.grownBy w' (blk sp)) : OwnX base w' ep ec es none 0 [] := by
  obtain ⟨hs, h1, h2, h3⟩ := h.own
  refine ⟨hs, ⟨h1.len, ⟨h1.row.1, ?_⟩, fun i hi => (h1.dat i hi).grownNe hg (fun x hx e => h3 i hi x hx e), h1.apart⟩, OwnB.ofNil _ _, fun _ _ _ _ e => by cases e⟩
  rcases h1.row.2 with hv | ⟨g, cap, cur, hv, hbg, hgg, r⟩
  · exact .inl hv
  · exact .inr ⟨g, cap, cur, hv, hbg, (hg.block g (Array.getElem?_eq_some_iff.1 hgg).1 (fun e => h2.ne_block hgg (by decide) e.symm)).trans hgg, r⟩
/-- A box of another type is changed. -/
theorem OwnX.box (h : OwnX base w ep ec es none 0 []) {B : Nat} {cs : Array Value} {T : TypeId} {fr : Nat × Nat} (hB : w.heap[B]? = some (.cells cs T fr)) (h8 : T ≠ 5) (hE : T ≠ 36) (hg : w.grownBy w' (some B)) : OwnX base w' ep ec es none 0 [] := by
  obtain ⟨hs, h1, h2, h3⟩ := h.own
  refine ⟨hs, ⟨h1.len, ⟨h1.row.1, ?_⟩, fun i hi => (h1.dat i hi).grownNe hg (fun x hx e => (h1.dat i hi).ne_block hB h8 (hx.trans e.symm)), h1.apart⟩, OwnB.ofNil _ _, fun _ _ _ _ e => by cases e⟩
  rcases h1.row.2 with hv | ⟨g, cap, cur, hv, hbg, hgg, r⟩
  · exact .inl hv
  · refine .inr ⟨g, cap, cur, hv, hbg, (hg.block g (Array.getElem?_eq_some_iff.1 hgg).1 (fun e => ?_)).trans hgg, r⟩
    obtain rfl := Option.some.inj e
    rw [hgg] at hB
    simp only [Option.some.injEq, Obj.cells.injEq] at hB
    exact hE hB.2.1.symm
end
/-- The first j entries' data has a 9 behind it. -/
def es9 (es : List EntN) (j : Nat) : List EntN := (es.take j).map (fun e => entSet e (e.2.2.2 ++ [9])) ++ es.drop j
theorem es9_zero (es : List EntN) : es9 es 0 = es := by simp [es9]
theorem es9_length (es : List EntN) (j : Nat) : (es9 es j).length = es.length := by simp [es9]; omega
theorem es9_at (es : List EntN) (j : Nat) (hj : j < es.length) : (es9 es j).getD j default = es.getD j default := by
  rw [List.getD_eq_getElem?_getD, es9, List.getElem?_append_right (by simp; omega)]
  simp [List.getD_eq_getElem?_getD, Nat.min_eq_left (Nat.le_of_lt hj)]
theorem es9_set (es : List EntN) (j : Nat) (hj : j < es.length) : (es9 es j).set j (entSet (es.getD j default) ((es.getD j default).2.2.2 ++ [9])) = es9 es (j + 1) := by
  have e2 : es.getD j default = es[j] := by rw [List.getD_eq_getElem?_getD, List.getElem?_eq_getElem hj]; rfl
  rw [e2]
  have hl : ((es.take j).map (fun e => entSet e (e.2.2.2 ++ [9]))).length = j := by simp; omega
  unfold es9
  rw [List.set_append_right _ _ (by omega), hl, Nat.sub_self, List.take_succ_eq_append_getElem hj, List.drop_eq_getElem_cons hj]
  simp only [List.set_cons_zero, List.map_cons, List.map_nil, List.map_append, List.append_assoc, List.cons_append, List.nil_append]
theorem es9_all (es : List EntN) : es9 es es.length = es.map (fun e => entSet e (e.2.2.2 ++ [9])) := by simp [es9]
theorem es9_last (es : List EntN) (j : Nat) (hj : j < es.length) : ((es9 es es.length).getD j default).2.2.2 = (es.getD j default).2.2.2 ++ [9] := by
  rw [es9_all, List.getD_eq_getElem?_getD, List.getD_eq_getElem?_getD, List.getElem?_map, List.getElem?_eq_getElem hj]
  rfl
theorem below_drewX {b : Nat} {w w' : World} (h : Below b w w') (n : Nat) : Below b w (w'.drewN n) := ⟨h.os, h.tape, h.output, h.size, h.block⟩
end Go.Proofs.Ytilkginjppgcoaa
