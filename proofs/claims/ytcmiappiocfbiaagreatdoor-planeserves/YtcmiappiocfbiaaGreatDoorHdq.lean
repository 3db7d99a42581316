/- Bytes that were made of a text, with more texts behind them. -/
import Derived.Test.YtcmiappiocfbiaaGreatDoorHdi
import Derived.Lib.AppendStr
import Derived.Lib.FrozenHead
namespace Go.Proofs.YtcmiappiocfbiaaGreatDoor
open Go.ChangeShapes Go.WideShapes Go.ChangeAt Go.RowKit
set_option linter.unusedVariables false

theorem strCells_nums (s : ByteArray) : Lib.strCells s = (numsB s).map byteV := by
  unfold Lib.strCells numsB
  rw [List.map_map]
  rfl
theorem numsB_lt (s : ByteArray) : ∀ c ∈ numsB s, c < 256 := fun c hc => by
  obtain ⟨x, _, rfl⟩ := List.mem_map.1 hc
  exact x.toNat_lt
/-- No cell of a block of n cells is frozen. -/
def FreeZ (fz : Nat × Nat) (n : Nat) : Prop := fz.2 = 0 ∨ n ≤ fz.1
theorem run_storeZ (g o : Nat) (t : TypeId) (fz : Nat × Nat) : ∀ (vs : List Value) (i : Nat) (cur : Array Value) (w : World), w.heap[g]? = some (.cells cur t fz) → FreeZ fz cur.size → o + i + vs.length ≤ cur.size → (∀ v ∈ vs, v.oneCell' = true) →
    (storeCells ⟨g, o, none⟩ vs i).run Tryz.prog w = .ok () (w.setRow g (cur.toList.take (o + i) ++ vs ++ cur.toList.drop (o + i + vs.length)).toArray)
  | [], i, cur, w, hg, _, _, _ => by
    have e : (cur.toList.take (o + i) ++ [] ++ cur.toList.drop (o + i + ([] : List Value).length)).toArray = cur := by simp
    rw [e, setRow_self w g cur t fz hg]
    rfl
  | v :: rest, i, cur, w, hg, hz, hl, h1 => by
    have hl' : o + i + (rest.length + 1) ≤ cur.size := hl
    have hi : o + i < cur.size := by omega
    have hfro : w.frozen? ⟨g, o + i, none⟩ = false := by
      obtain ⟨lo, top⟩ := fz
      simp only [World.frozen?, hg, Bool.and_eq_false_iff, decide_eq_false_iff_not]
      rcases hz with hz | hz
      · right; simp only at hz; omega
      · left; simp only at hz; omega
    have hst : (store ((⟨g, o, none⟩ : Addr).add i) v).run Tryz.prog w = .ok () (w.setRow g (cur.setIfInBounds (o + i) v)) := by
      rw [Addr.add_lit, run_store Tryz.prog w _ v _ (h1 v (by simp)), show w.cell? ⟨g, o + i, none⟩ = some cur[o + i] by simp [World.cell?, hg, hi]]
      simp [hfro, setCell_eq_setRow w g (o + i) cur t fz v hg]
    have ih := run_storeZ g o t fz rest (i + 1) (cur.setIfInBounds (o + i) v) (w.setRow g (cur.setIfInBounds (o + i) v)) (setRow_heap w g cur _ t _ hg) (by rw [Array.size_setIfInBounds]; exact hz) (by rw [Array.size_setIfInBounds]; omega) (fun x hx => h1 x (List.mem_cons_of_mem _ hx))
    simp only [storeCells, Sem.run_bind, hst, Result.andThen_ok, ih, setRow_setRow]
    congr 3
    have e := list_seg_step cur.toList (o + i) v rest (by rw [Array.length_toList]; exact hl')
    simpa [Array.toList_setIfInBounds, Nat.add_assoc] using e
/-- Bytes of one's own, in a block of which no cell is frozen. -/
structure OwnZ (base : Nat) (w : World) (g c : Nat) (l : List Nat) : Prop where
  lt : ∀ x ∈ l, x < 256
  ge : base ≤ g
  row : ∃ cur fz, w.heap[g]? = some (.cells cur 5 fz) ∧ FreeZ fz cur.size ∧ cur.size = c ∧ cur.toList.take l.length = l.map byteV
  le : l.length ≤ c
  mx : c ≤ maxLen
theorem OwnZ.bytes {base : Nat} {w : World} {g c : Nat} {l : List Nat} (h : OwnZ base w g c l) : BytesAt w (some ⟨g, 0, none⟩) l := by
  obtain ⟨cur, fz, hg, _, _, ht⟩ := h.row
  refine ⟨h.lt, fun i hi => ⟨g, 0, rfl, ?_⟩⟩
  rw [cell_of_row w g (0 + i) cur _ _ hg, Nat.zero_add]
  have e : (l.map byteV)[i]? = some (byteV (l.getD i 0)) := by
    rw [List.getElem?_map, List.getElem?_eq_getElem hi, List.getD_eq_getElem?_getD, List.getElem?_eq_getElem hi]; rfl
  rw [← ht, List.getElem?_take, if_pos hi] at e
  rw [← Array.getElem?_toList]
  exact e
theorem OwnZ.later {base : Nat} {w w' : World} {g c : Nat} {l : List Nat} (h : OwnZ base w g c l) (hb : Below w.heap.size w w') : OwnZ base w' g c l := by
  obtain ⟨cur, fz, hg, r⟩ := h.row
  exact ⟨h.lt, h.ge, ⟨cur, fz, (hb.block g (Array.getElem?_eq_some_iff.1 hg).1).trans hg, r⟩, h.le, h.mx⟩
/-- '[]byte(s)'. -/
theorem conv_own (w : World) (s : ByteArray) (base : Nat) (hb : base ≤ w.heap.size) (hs : s.size ≤ 140737488355328) : ∃ c W, (convert 9 29 (.string s)).run Tryz.prog w = .ok (.slice (some ⟨w.heap.size, 0, none⟩) s.size c) W ∧ OwnZ base W w.heap.size c (numsB s) ∧ Below w.heap.size w W := by
  refine ⟨_, _, run_bytes_of_string w 9 29 5 s Tryz.underlying9 Tryz.underlying29 Tryz.underlying5, ⟨numsB_lt s, hb, ⟨_, _, heap_new w.drew _, .inr (Nat.le_refl _), ?_, ?_⟩, ?_, ?_⟩, ((Below.refl _ _).drew).alloc (Nat.le_refl _) _⟩
  · have hge := grownCap_ge w s.size 0 5
    simp only [bytesRow, Array.size_append, Array.size_map, Array.size_replicate]
    have : s.data.size = s.size := rfl
    omega
  · rw [numsB_len]
    have e : (bytesRow s (grownCap w s.size 0 5)).toList = (numsB s).map byteV ++ List.replicate (grownCap w s.size 0 5 - s.size) (.int .u8 0) := by
      simp [bytesRow, numsB, List.map_map, Function.comp_def, byteV]
    rw [e, ← numsB_len s, ← List.length_map (f := byteV), List.take_left]
  · rw [numsB_len]; exact grownCap_ge _ _ _ _
  · exact grownCap_le_maxLen w s.size 0 5 (by simp only [maxLen]; omega)
theorem run_appendZ {base : Nat} {w : World} {g c : Nat} {l : List Nat} (h : OwnZ base w g c l) (s : ByteArray) (hsz : l.length + s.size ≤ 140737488355328) (hbase : base ≤ w.heap.size) (ty : TypeId) :
    ∃ g' c' w', (Builtin.append_ #[29, 9] ty #[.slice (some ⟨g, 0, none⟩) l.length c, .string s]).run Tryz.prog w = .ok (.slice (some ⟨g', 0, none⟩) (l ++ numsB s).length c') w' ∧ OwnZ base w' g' c' (l ++ numsB s) ∧ Below base w w' := by
  obtain ⟨i0, hi, hz0, hz1, hz2⟩ := info_parts info8
  obtain ⟨cur, fz, hg, hfz, hcs, ht⟩ := h.row
  have hlt : ∀ x ∈ l ++ numsB s, x < 256 := fun x hx => (List.mem_append.1 hx).elim (h.lt x) (numsB_lt s x)
  have hlen : (l ++ numsB s).length = l.length + s.size := by rw [List.length_append, numsB_len]
  have hle := h.le
  have hmx := h.mx
  have hll : (l.map byteV).length = l.length := List.length_map _
  by_cases hroom : l.length + s.size ≤ c
  · have hf := Lib.run_firstCells_string (P := Tryz.prog) w 1 s
    have hst := run_storeZ g l.length 5 fz (Lib.strCells s) 0 cur w hg hfz (by rw [Lib.strCells_length]; omega) (Lib.strCells_oneCell s)
    simp only [Nat.add_zero, Lib.strCells_length] at hst
    refine ⟨g, c, w.setRow g (cur.toList.take l.length ++ Lib.strCells s ++ cur.toList.drop (l.length + s.size)).toArray, ?_, ⟨hlt, h.ge, ⟨_, fz, setRow_heap w g cur _ _ _ hg, ?_, ?_, ?_⟩, by omega, h.mx⟩, ?_⟩
    · rw [hlen]
      simp [Builtin.append_, run_underlying Tryz.underlying29, run_underlying Tryz.underlying9, sizeOf, typeInfo, hi, hz1, Builtin.lenOf, hroom, hf, Addr.add_lit, hst]
    · have : (cur.toList.take l.length ++ Lib.strCells s ++ cur.toList.drop (l.length + s.size)).toArray.size = cur.size := by
        simp only [List.size_toArray, List.length_append, List.length_take, List.length_drop, Array.length_toList, Lib.strCells_length]
        omega
      rw [this]; exact hfz
    · simp only [List.size_toArray, List.length_append, List.length_take, List.length_drop, Array.length_toList, Lib.strCells_length]
      omega
    · rw [ht, strCells_nums, ← List.map_append]
      show ((l ++ numsB s).map byteV ++ _).take _ = _
      rw [show (l ++ numsB s).length = ((l ++ numsB s).map byteV).length from (List.length_map _).symm, List.take_left]
    · exact (Below.refl base w).grown (row := some g) ⟨rfl, rfl, rfl, by simp, fun k _ hk => setRow_other w g k _ (fun e => hk (by rw [e]))⟩ hbase (fun j hj => by cases hj; exact h.ge)
  · have holds : ∀ j u, (l.map byteV)[j]? = some u → w.cell? ((⟨g, 0, none⟩ : Addr).add j) = some u := fun j u hu => by
      rw [Addr.add_lit, cell_of_row w g (0 + j) cur _ _ hg, Nat.zero_add]
      rw [← ht, List.getElem?_take] at hu
      split at hu
      · rw [← Array.getElem?_toList]; exact hu
      · cases hu
    have hr := Lib.run_append_grow_string (P := Tryz.prog) w 29 9 ty 5 i0 (.int .u8 0) Tryz.underlying29 Tryz.underlying9 hi hz0 ⟨g, 0, none⟩ l.length c (l.map byteV) (by rw [hz1, hll, Nat.mul_one]) holds s (by omega) (by omega) (by rw [hz2]; exact growslice_fits (by omega) (by omega))
    have hge := grownCap_ge w (l.length + s.size) c 5
    refine ⟨w.heap.size, grownCap w (l.length + s.size) c 5, _, by rw [hlen]; exact hr, ⟨hlt, hbase, ⟨_, (0, 0), heap_alloc_new w.drew _, .inl rfl, ?_, ?_⟩, by omega, grownCap_le_maxLen w _ c 5 (by simp only [maxLen]; omega)⟩, ((Below.refl base w).drew).alloc hbase _⟩
    · have hz1 : (Value.int IntKind.u8 0).cells.size = 1 := rfl
      simp only [Array.size_append, List.size_toArray, size_zeroCells, hz1, hll, Lib.strCells_length]
      omega
    · simp only [Array.toList_append, strCells_nums]
      rw [← List.map_append, show (l ++ numsB s).length = ((l ++ numsB s).map byteV).length from (List.length_map _).symm, List.take_left]
theorem wpList_appendZ {base : Nat} {w : World} {ops : Array Oper} {rest : List Oper} {o : Oper} {a : Act} {Q : Exit → Act → World → Prop} (hgd : o.guard = none) (s x : Operand)
    (ho : o.op = .call { callee := .builtin .append, args := #[s, x], argTypes := #[29, 9] })
    (g n c : Nat) (l : List Nat) (hs : a.eval s = .slice (some ⟨g, 0, none⟩) n c) (hn : l.length = n) (hown : OwnZ base w g c l)
    (t : ByteArray) (hx : a.eval x = .string t) (hsz : n + t.size ≤ 140737488355328) (hbase : base ≤ w.heap.size)
    (h : ∀ g' n' c' w', Hid ((l ++ numsB t).length = n') → OwnZ base w' g' c' (l ++ numsB t) → Below base w w' → wpList Tryz.prog ops Q rest (a.put o.dst (.slice (some ⟨g', 0, none⟩) n' c')) w') :
    wpList Tryz.prog ops Q (o :: rest) a w := by
  subst hn
  refine wpList_plain hgd fun K hK => ?_
  obtain ⟨g', c', w', hrun, h1, h3⟩ := run_appendZ hown t hsz hbase o.type
  unfold Oper.wp
  simp [execOp, ho, resolve, invoke, builtin, hs, hx, hrun, Result.andThen]
  have := hK _ _ (h g' (l ++ numsB t).length c' w' rfl h1 h3)
  rw [List.length_append] at this
  exact this
def numsT (l : Tx) : List Nat := l.map UInt8.toNat
theorem numsB_st (l : Tx) : numsB (stS l) = numsT l := rfl
theorem numsT_app (a b : Tx) : numsT (a ++ b) = numsT a ++ numsT b := List.map_append
theorem numsT_len (l : Tx) : (numsT l).length = l.length := List.length_map _
theorem numsT_tx (l : Tx) : txN (numsT l) = l := numsB_tx (stS l)
theorem numsB_is {s : ByteArray} {l : Tx} (h : s.data.toList = l) : numsB s = numsT l := by subst h; rfl
end Go.Proofs.YtcmiappiocfbiaaGreatDoor
