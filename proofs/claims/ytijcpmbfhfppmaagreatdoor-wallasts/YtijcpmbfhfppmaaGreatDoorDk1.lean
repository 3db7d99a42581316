/- Disk: copies of bytes, bytes laid over bytes. -/
import Derived.Test.YtijcpmbfhfppmaaGreatDoorApp
import Derived.Laws.CopyOwn
import Derived.Laws.AppendOwn
import Derived.ArgAppend
import Derived.Laws.Tables
import Derived.Laws.Rows
namespace Go.Proofs.YtijcpmbfhfppmaaGreatDoor
open Go.ChangeShapes Go.WideShapes Go.ChangeAt Go.RowKit

/-- Bytes with others over them from a place on. -/
def overL (l : List Nat) (k : Nat) (o : List Nat) : List Nat := l.take k ++ (o ++ l.drop (k + o.length))
theorem overL_nil (l : List Nat) (k : Nat) : overL l k [] = l := by simp [overL]
theorem overL_length (l : List Nat) (k : Nat) (o : List Nat) (hk : k ≤ l.length) : (overL l k o).length = max l.length (k + o.length) := by
  simp only [overL, List.length_append, List.length_take, List.length_drop]
  omega
theorem overL_lt {l o : List Nat} (k : Nat) (hl : ∀ c ∈ l, c < 256) (ho : ∀ c ∈ o, c < 256) : ∀ c ∈ overL l k o, c < 256 := by
  intro c hc
  simp only [overL, List.mem_append] at hc
  rcases hc with h | h | h
  · exact hl c (List.mem_of_mem_take h)
  · exact ho c h
  · exact hl c (List.mem_of_mem_drop h)
theorem overL_two (l : List Nat) (k n : Nat) (o : List Nat) (hk : k ≤ l.length) (hn : n = min o.length (l.length - k)) : overL l k (o.take n) ++ o.drop n = overL l k o := by
  unfold overL
  by_cases h : o.length ≤ l.length - k
  · have e : n = o.length := by omega
    rw [e, List.take_of_length_le (Nat.le_refl _), List.drop_of_length_le (Nat.le_refl _), List.append_nil]
  · have e : n = l.length - k := by omega
    have h1 : (o.take n).length = n := by rw [List.length_take]; omega
    have h2 : l.drop (k + n) = [] := List.drop_of_length_le (by omega)
    have h3 : l.drop (k + o.length) = [] := List.drop_of_length_le (by omega)
    rw [h1, h2, h3, List.append_nil, List.append_nil, List.append_assoc, List.take_append_drop]
/-- Bytes of one's own, in a block that may be longer than their room. -/
structure Bx (base : Nat) (w : World) (sp : Option Addr) (c : Nat) (l : List Nat) : Prop where
  lt : ∀ x ∈ l, x < 256
  row : (sp = none ∧ c = 0 ∧ l = []) ∨ ∃ (g : Nat) (cur : List Value), sp = some ⟨g, 0, none⟩ ∧ base ≤ g ∧ w.heap[g]? = some (.cells cur.toArray 5 (0, 0)) ∧ l.length ≤ c ∧ c ≤ cur.length ∧ c ≤ maxLen ∧ cur.take l.length = l.map byteV
section
variable {base : Nat} {w w' : World} {sp : Option Addr} {c : Nat} {l : List Nat}
theorem Bx.ofNil (base : Nat) (w : World) : Bx base w none 0 [] := ⟨by simp, .inl ⟨rfl, rfl, rfl⟩⟩
theorem OwnB.toBx (h : OwnB base w sp c l) : Bx base w sp c l := by
  refine ⟨h.lt, ?_⟩
  rcases h.owns.2 with ⟨hv, h1⟩ | ⟨g, cap, cur, hv, hb, hg, hle, hmx, hsz, ht⟩
  · simp only [Value.slice.injEq] at hv
    exact .inl ⟨hv.1, hv.2.2, List.eq_nil_of_length_eq_zero h1⟩
  · simp only [Value.slice.injEq] at hv
    obtain ⟨rfl, _, rfl⟩ := hv
    obtain ⟨cl⟩ := cur
    have h2 : cl.length = c * 1 := hsz
    have h3 : cl.take (l.length * 1) = l.map byteV := ht
    rw [Nat.mul_one] at h2 h3
    exact .inr ⟨g, cl, rfl, hb, hg, hle, by omega, hmx, h3⟩
theorem Bx.bytes (h : Bx base w sp c l) : BytesAt w sp l := by
  refine ⟨h.lt, fun i hi => ?_⟩
  rcases h.row with ⟨_, _, rfl⟩ | ⟨g, cur, rfl, _, hg, _, _, _, ht⟩
  · simp at hi
  · refine ⟨g, 0, rfl, ?_⟩
    rw [cell_of_row w g (0 + i) _ _ _ hg, Nat.zero_add]
    have e : (l.map byteV)[i]? = some (byteV (l.getD i 0)) := by
      rw [List.getElem?_map, List.getElem?_eq_getElem hi, List.getD_eq_getElem?_getD, List.getElem?_eq_getElem hi]; rfl
    rw [← ht, List.getElem?_take, if_pos hi] at e
    have e2 : cur.toArray[i]? = cur[i]? := by simp
    exact e2.trans e
theorem Bx.cap (h : Bx base w sp c l) : l.length ≤ c ∧ c ≤ maxLen := by
  rcases h.row with ⟨_, rfl, rfl⟩ | ⟨g, cur, _, _, _, h1, _, h2, _⟩
  · exact ⟨by simp, by simp [maxLen]⟩
  · exact ⟨h1, h2⟩
theorem Bx.nil0 (h : Bx base w sp c l) : sp = none → c = 0 := by
  intro e
  rcases h.row with ⟨_, h1, _⟩ | ⟨g, cur, h1, _⟩
  · exact h1
  · rw [h1] at e; cases e
theorem Bx.isT (h : Bx base w sp c l) : ∀ g, blk sp = some g → base ≤ g ∧ g < w.heap.size ∧ ∃ cur : Array Value, w.heap[g]? = some (.cells cur 5 (0, 0)) := by
  intro g hg
  rcases h.row with ⟨h1, _⟩ | ⟨g1, cur, h1, hb, hh, _⟩
  · rw [h1] at hg; cases hg
  · rw [h1] at hg
    obtain rfl : g1 = g := by simpa [blk] using hg
    exact ⟨hb, (Array.getElem?_eq_some_iff.1 hh).1, _, hh⟩
theorem Bx.grownNe {o : Option Nat} (h : Bx base w sp c l) (hg : w.grownBy w' o) (hne : ∀ g, blk sp = some g → o ≠ some g) : Bx base w' sp c l := by
  refine ⟨h.lt, ?_⟩
  rcases h.row with hv | ⟨g, cur, h1, hb, hh, r⟩
  · exact .inl hv
  · exact .inr ⟨g, cur, h1, hb, (hg.block g (Array.getElem?_eq_some_iff.1 hh).1 (fun e => hne g (by rw [h1]; rfl) e.symm)).trans hh, r⟩
theorem Bx.later (h : Bx base w sp c l) (hb : Below w.heap.size w w') : Bx base w' sp c l := by
  refine ⟨h.lt, ?_⟩
  rcases h.row with hv | ⟨g, cur, h1, hbg, hh, r⟩
  · exact .inl hv
  · exact .inr ⟨g, cur, h1, hbg, (hb.block g (Array.getElem?_eq_some_iff.1 hh).1).trans hh, r⟩
theorem Bx.mono {base' : Nat} (h : Bx base w sp c l) (hb : base' ≤ base) : Bx base' w sp c l := by
  refine ⟨h.lt, ?_⟩
  rcases h.row with hv | ⟨g, cur, h1, hbg, r⟩
  · exact .inl hv
  · exact .inr ⟨g, cur, h1, by omega, r⟩
theorem Bx.ne_block (h : Bx base w sp c l) {g : Nat} {cs : Array Value} {T : TypeId} {fr : Nat × Nat} (hg : w.heap[g]? = some (.cells cs T fr)) (hT : T ≠ 5) : blk sp ≠ some g := by
  intro hs
  obtain ⟨_, _, cur, hc⟩ := h.isT g hs
  rw [hc] at hg
  simp only [Option.some.injEq, Obj.cells.injEq] at hg
  exact hT hg.2.1.symm
/-- b[:k] and b[:k:m]. -/
theorem Bx.cut (h : Bx base w sp c l) (k m : Nat) (hk : k ≤ l.length) (hkm : k ≤ m) (hm : m ≤ c) : Bx base w sp m (l.take k) := by
  refine ⟨fun x hx => h.lt x (List.mem_of_mem_take hx), ?_⟩
  have hl : (l.take k).length = k := by rw [List.length_take]; omega
  rcases h.row with ⟨h1, h2, h3⟩ | ⟨g, cur, h1, hb, hg, h2, h3, h4, ht⟩
  · subst h3
    exact .inl ⟨h1, by omega, by simp⟩
  · refine .inr ⟨g, cur, h1, hb, hg, by omega, by omega, by omega, ?_⟩
    rw [hl, List.map_take, ← ht, List.take_take]
    congr 1
    omega
theorem slp_zero (sp : Option Addr) (m : Nat) (h : ∀ ad, sp = some ad → ∃ g, ad = ⟨g, 0, none⟩) : slp sp 0 m = sp := by
  unfold slp
  split
  · rfl
  · cases sp with
    | none => rfl
    | some ad =>
      obtain ⟨g, rfl⟩ := h ad rfl
      simp [Addr.add_lit]
theorem Bx.slp0 (h : Bx base w sp c l) (m : Nat) : slp sp 0 m = sp := slp_zero sp m fun ad e => by
  rcases h.row with ⟨h1, _⟩ | ⟨g, cur, h1, _⟩
  · rw [h1] at e; cases e
  · rw [h1] at e; cases e; exact ⟨g, rfl⟩
theorem grown_setRow (w : World) (g : Nat) (cs : Array Value) : w.grownBy (w.setRow g cs) (some g) :=
  ⟨rfl, rfl, rfl, by simp, fun i _ hne => setRow_other w g i cs (fun e => hne (by rw [e]))⟩
/-- append onto such bytes. -/
theorem run_appendBx (h : Bx base w sp c l) (xp : Option Addr) (m xc : Nat) (k : List Nat) (hk : k.length = m) (hB : BytesAt w xp k) (hx0 : xp = none → xc = 0) (hsz : l.length + m ≤ 140737488355328) (hbase : base ≤ w.heap.size) (ty : TypeId) :
    ∃ sp' c' w', (Builtin.append_ #[58, 58] ty #[.slice sp l.length c, .slice xp m xc]).run Tryz.prog w = .ok (.slice sp' (l ++ k).length c') w' ∧ Bx base w' sp' c' (l ++ k) ∧ Grew w sp w' sp' := by
  rcases h.row with ⟨rfl, rfl, rfl⟩ | ⟨g, cur, rfl, hbg, hg, hle, hcc, hmx, ht⟩
  · obtain ⟨sp', c', w', h1, h2, h3, h4⟩ := run_append8L base none 0 [] (OwnB.ofNil w base) xp m xc k hk hB hx0 hsz hbase ty
    exact ⟨sp', c', w', h1, h2.toBx, h3, h4⟩
  · subst hk
    obtain ⟨i0, hi, hz0, hz1, hz2⟩ := info_parts info8
    cases xp with
    | none =>
      have hk0 : k = [] := by
        cases k with
        | nil => rfl
        | cons x r => obtain ⟨b, off, h, _⟩ := hB.cell 0 (by simp); cases h
      subst hk0
      rw [hx0 rfl]
      refine ⟨some ⟨g, 0, none⟩, c, w, ?_, by rw [List.append_nil]; exact h, Grew.refl _ _⟩
      rw [List.append_nil]
      simp [Builtin.append_, run_underlying Tryz.underlying58, sizeOf, typeInfo, hi, Builtin.lenOf, Builtin.firstCells, hle, storeCells]
    | some ad =>
      have hnews : ∀ j u, (k.map byteV)[j]? = some u → w.cell? (ad.add j) = some u := fun j u hu => by
        have h0 : 0 < (k.map byteV).length := by
          rcases Nat.eq_zero_or_pos (k.map byteV).length with h | h
          · rw [List.getElem?_eq_none (by omega)] at hu; cases hu
          · exact h
        obtain ⟨ad', had, hc⟩ := cells_of_bytesAt hB h0
        cases had
        exact hc j u hu
      have hlt : ∀ x ∈ l ++ k, x < 256 := fun x hx => (List.mem_append.1 hx).elim (h.lt x) (hB.lt x)
      by_cases hroom : l.length + k.length ≤ c
      · have hrun := run_append_room (P := Tryz.prog) w 58 ty 5 i0 Tryz.underlying58 hi g l.length c cur.toArray hg ad k.length xc (k.map byteV) (by rw [hz1]; simp) hnews (oneCell_bytes k) hroom (by rw [hz1]; simp; omega)
        refine ⟨some ⟨g, 0, none⟩, c, _, by rw [List.length_append]; exact hrun, ⟨hlt, .inr ⟨g, _, rfl, hbg, setRow_heap w g _ _ _ _ hg, by rw [List.length_append]; exact hroom, ?_, hmx, ?_⟩⟩, ⟨grown_setRow _ _ _, fun g' hg' => .inl hg'⟩⟩
        · rw [hz1]; simp; omega
        · rw [hz1]
          have hm : (cur.take l.length ++ k.map byteV).length = l.length + k.length := by simp; omega
          have hc2 : (cur.take l.length ++ k.map byteV ++ cur.drop (l.length + k.length)).take (l.length + k.length) = l.map byteV ++ k.map byteV := by
            rw [← hm, List.take_left, ht]
          simpa using hc2
      · obtain ⟨v', w', hrun, h1, h2⟩ := run_append_arg_grows (P := Tryz.prog) (w := w) 58 ty 5 i0 (.int .u8 0) 1 1 Tryz.underlying58 hi hz0 hz1 hz2 rfl (by omega) ⟨g, 0, none⟩ l.length c (l.map byteV) (by simp) (by
          intro j u hu
          rw [Addr.add_lit, Nat.zero_add, cell_of_row w g j _ _ _ hg]
          have hj : j < l.length := by have := (List.getElem?_eq_some_iff.1 hu).1; simpa using this
          rw [← ht, List.getElem?_take, if_pos hj] at hu
          simpa using hu) ad k.length xc (k.map byteV) (by simp) hnews (by omega) (by simp only [maxLen]; omega) (by omega)
        rw [← List.map_append] at h1
        rcases h1.2 with ⟨hv, h3⟩ | ⟨g', cap, cur', hv, hb', hg', hle', hmx', hsz', ht'⟩
        · omega
        · obtain ⟨cl⟩ := cur'
          have h4 : cl.length = cap * 1 := hsz'
          have h5 : cl.take ((l.length + k.length) * 1) = (l ++ k).map byteV := ht'
          rw [Nat.mul_one] at h4 h5
          refine ⟨some ⟨g', 0, none⟩, cap, w', by rw [hrun, hv, List.length_append], ⟨hlt, .inr ⟨g', cl, rfl, by omega, hg', by rw [List.length_append]; exact hle', by omega, hmx', by rw [List.length_append]; exact h5⟩⟩, ⟨?_, fun g2 hg2 => .inr ?_⟩⟩
          · exact ⟨h2.os, h2.tape, h2.output, h2.size, fun j hj _ => h2.block j hj (by simp)⟩
          · obtain rfl : g' = g2 := by simpa [blk] using hg2
            exact hb'
end
end Go.Proofs.YtijcpmbfhfppmaaGreatDoor
