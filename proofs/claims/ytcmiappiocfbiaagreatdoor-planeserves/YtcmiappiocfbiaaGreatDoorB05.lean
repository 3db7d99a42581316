/- Slices of bytes that the call itself makes by append: a law for the walk. -/
import Derived.Test.YtcmiappiocfbiaaGreatDoorB01
import Derived.Laws.AppendOwnNone
import Derived.Deep.AppendLies
import Derived.Maps.AppendAt
import Derived.WalkSmall
import Derived.Test.YtcmiappiocfbiaaGreatDoorRows
import Derived.ShutString
import Derived.ChangeOld
import Derived.SizedLaws
import Derived.Test.YtcmiappiocfbiaaGreatDoorB04
import Derived.ChangeMaps5
import Derived.Deep.Slices
import Derived.Lib.SmallJoins
import Derived.Deep.RegionHeld3
import Derived.Test.YtcmiappiocfbiaaGreatDoorB02
section
namespace Go.Proofs.YtcmiappiocfbiaaGreatDoor
open Go.ChangeShapes Go.WideShapes Go.ChangeAt Go.RowKit

/-- A slice of bytes in memory of the call's own, from block 'base' on. -/
structure OwnB (base : Nat) (w : World) (sp : Option Addr) (c : Nat) (l : List Nat) : Prop where
  owns : w.ownsRow base 5 1 (.slice sp l.length c) l.length (l.map byteV)
  lt : ∀ c ∈ l, c < 256

theorem OwnB.bytes {base : Nat} {w : World} {sp : Option Addr} {c : Nat} {l : List Nat} (h : OwnB base w sp c l) : BytesAt w sp l := by
  refine ⟨h.lt, fun i hi => ?_⟩
  rcases h.owns.2 with ⟨hv, h0⟩ | ⟨g, cap, cur, hv, _, hg, _, _, _, ht⟩
  · omega
  · cases hv
    refine ⟨g, 0, rfl, ?_⟩
    rw [cell_of_row w g (0 + i) cur _ _ hg, Nat.zero_add]
    have e : (l.map byteV)[i]? = some (byteV (l.getD i 0)) := by
      rw [List.getElem?_map, List.getElem?_eq_getElem hi, List.getD_eq_getElem?_getD, List.getElem?_eq_getElem hi]; rfl
    rw [← ht, List.getElem?_take, if_pos (by omega)] at e
    rw [← Array.getElem?_toList]
    exact e
theorem OwnB.cap {base : Nat} {w : World} {sp : Option Addr} {c : Nat} {l : List Nat} (h : OwnB base w sp c l) : l.length ≤ c ∧ c ≤ maxLen := by
  rcases h.owns.2 with ⟨hv, h0⟩ | ⟨g, cap, cur, hv, _, hg, h1, h2, _, ht⟩
  · simp only [Value.slice.injEq] at hv
    obtain ⟨_, _, rfl⟩ := hv
    exact ⟨by omega, by simp [maxLen]⟩
  · simp only [Value.slice.injEq] at hv
    obtain ⟨_, _, rfl⟩ := hv
    exact ⟨h1, h2⟩
theorem OwnB.empty (w : World) (base : Nat) (hb : base ≤ w.heap.size) : OwnB base (w.alloc (.cells #[] 5)) (some ⟨w.heap.size, 0, none⟩) 0 [] :=
  ⟨⟨rfl, .inr ⟨w.heap.size, 0, #[], rfl, hb, heap_new _ _, Nat.le_refl _, by simp [maxLen], rfl, rfl⟩⟩, by simp⟩
theorem OwnB.ofNil (w : World) (base : Nat) : OwnB base w none 0 [] := ⟨w.ownsRow_nil base 5 1, by simp⟩
theorem OwnB.later {base : Nat} {w w' : World} {sp : Option Addr} {c : Nat} {l : List Nat} (h : OwnB base w sp c l) (hb : Below w.heap.size w w') : OwnB base w' sp c l := by
  refine ⟨⟨h.owns.1, ?_⟩, h.lt⟩
  rcases h.owns.2 with hv | ⟨g, cap, cur, hv, hbg, hg, r⟩
  · exact .inl hv
  · exact .inr ⟨g, cap, cur, hv, hbg, (hb.block g (Array.getElem?_eq_some_iff.1 hg).1).trans hg, r⟩
theorem OwnB.mono {base base' : Nat} {w : World} {sp : Option Addr} {c : Nat} {l : List Nat} (h : OwnB base w sp c l) (hb : base' ≤ base) : OwnB base' w sp c l := by
  refine ⟨⟨h.owns.1, ?_⟩, h.lt⟩
  rcases h.owns.2 with hv | ⟨g, cap, cur, hv, hbg, r⟩
  · exact .inl hv
  · exact .inr ⟨g, cap, cur, hv, by omega, r⟩
/-- What an append leaves: a new value, all that lies below 'base' as it was. -/
theorem run_append8 {w : World} (base : Nat) (sp : Option Addr) (c : Nat) (l : List Nat) (hown : OwnB base w sp c l) (xp : Option Addr) (m xc : Nat) (k : List Nat) (hk : k.length = m) (hB : BytesAt w xp k) (hx0 : xp = none → xc = 0)
    (hsz : l.length + m ≤ 140737488355328) (hbase : base ≤ w.heap.size) (ty : TypeId) :
    ∃ sp' c' w', (Builtin.append_ #[29, 29] ty #[.slice sp l.length c, .slice xp m xc]).run Tryz.prog w = .ok (.slice sp' (l ++ k).length c') w' ∧ OwnB base w' sp' c' (l ++ k) ∧ w.grownBy w' (Value.slice sp l.length c).ownBlock ∧ Below base w w' := by
  subst hk
  obtain ⟨i0, hi, hz0, hz1, hz2⟩ := info_parts info8
  have hlt : ∀ c ∈ l ++ k, c < 256 := fun c hc => (List.mem_append.1 hc).elim (hown.lt c) (hB.lt c)
  have hbel : ∀ w', w.grownBy w' (Value.slice sp l.length c).ownBlock → Below base w w' := fun w' hg => (Below.refl base w).grown hg hbase (fun j hj => (hown.owns.lt j hj).1)
  cases xp with
  | none =>
    have hk0 : k = [] := by
      cases k with
      | nil => rfl
      | cons x r => obtain ⟨b, off, h, _⟩ := hB.cell 0 (by simp); cases h
    subst hk0
    rw [hx0 rfl]
    have hrun := run_append_owned_none (P := Tryz.prog) (w := w) base 29 ty 5 i0 1 Tryz.underlying29 hi _ _ _ hown.owns
    refine ⟨sp, c, w, ?_, ?_, ⟨rfl, rfl, rfl, Nat.le_refl _, fun _ _ _ => rfl⟩, Below.refl _ _⟩
    · rw [List.append_nil]; exact hrun
    · rw [List.append_nil]; exact hown
  | some x =>
    obtain ⟨v', w', hrun, h1, h2, _⟩ := run_append_own (P := Tryz.prog) (w := w) base 29 ty 5 i0 (.int .u8 0) 1 1 Tryz.underlying29 hi hz0 hz1 hz2 rfl (by omega) _ _ _ hown.owns x k.length xc (k.map byteV) (by simp)
      (fun j u hu => by
        have h0 : 0 < (k.map byteV).length := by
          rcases Nat.eq_zero_or_pos (k.map byteV).length with h | h
          · rw [List.getElem?_eq_none (by omega)] at hu; cases hu
          · exact h
        obtain ⟨ad, had, hc⟩ := cells_of_bytesAt hB h0
        cases had
        exact hc j u hu) (oneCell_bytes k) (by simp only [maxLen]; omega) (by omega) hbase
    rw [← List.map_append, ← List.length_append] at h1
    have hv : ∃ sp' c', v' = .slice sp' (l ++ k).length c' := by
      rcases h1.2 with ⟨hv, h0⟩ | ⟨g, cap, cur, hv, _⟩
      · exact ⟨none, 0, by rw [hv, h0]⟩
      · exact ⟨_, _, hv⟩
    obtain ⟨sp', c', rfl⟩ := hv
    exact ⟨sp', c', w', hrun, ⟨h1, hlt⟩, h2, hbel w' h2⟩
theorem wpList_append8 {w : World} {ops : Array Oper} {rest : List Oper} {o : Oper} {a : Act} {Q : Exit → Act → World → Prop} (hgd : o.guard = none) (s x : Operand)
    (ho : o.op = .call { callee := .builtin .append, args := #[s, x], argTypes := #[29, 29] })
    (base : Nat) (sp : Option Addr) (n c : Nat) (l : List Nat) (hs : a.eval s = .slice sp n c) (hn : l.length = n) (hown : OwnB base w sp c l)
    (xp : Option Addr) (m xc : Nat) (hx : a.eval x = .slice xp m xc) (k : List Nat) (hk : k.length = m) (hB : BytesAt w xp k) (hx0 : xp = none → xc = 0)
    (hsz : l.length + m ≤ 140737488355328) (hbase : base ≤ w.heap.size)
    (h : ∀ sp' n' c' w', Hid ((l ++ k).length = n') → OwnB base w' sp' c' (l ++ k) → w.grownBy w' (Value.slice sp l.length c).ownBlock → Below base w w' → wpList Tryz.prog ops Q rest (a.put o.dst (.slice sp' n' c')) w') :
    wpList Tryz.prog ops Q (o :: rest) a w := by
  subst hn
  refine wpList_plain hgd fun K hK => ?_
  obtain ⟨sp', c', w', hrun, h1, h2, h3⟩ := run_append8 (w := w) base sp c l hown xp m xc k hk hB hx0 hsz hbase o.type
  unfold Oper.wp
  simp [execOp, ho, resolve, invoke, builtin, hs, hx, hrun, Result.andThen]
  have := hK _ _ (h sp' (l ++ k).length c' w' rfl h1 h2 h3)
  rw [List.length_append] at this
  exact this

theorem OwnB.far {base : Nat} {w w' : World} {sp : Option Addr} {c : Nat} {l : List Nat} {j : Nat} (h : OwnB base w sp c l) (hg : w.grownBy w' (some j)) (hj : j < base) : OwnB base w' sp c l := by
  refine ⟨⟨h.owns.1, ?_⟩, h.lt⟩
  rcases h.owns.2 with hv | ⟨g, cap, cur, hv, hbg, hgg, r⟩
  · exact .inl hv
  · exact .inr ⟨g, cap, cur, hv, hbg, (hg.block g (Array.getElem?_eq_some_iff.1 hgg).1 (fun e => by simp only [Option.some.injEq] at e; omega)).trans hgg, r⟩
/-- The block of a slice. -/
def blk (sp : Option Addr) : Option Nat := sp.map (·.block)
theorem ownBlock_slice (sp : Option Addr) (n c : Nat) : (Value.slice sp n c).ownBlock = blk sp := by cases sp <;> rfl
theorem OwnB.blk_lt {base : Nat} {w : World} {sp : Option Addr} {c : Nat} {l : List Nat} (h : OwnB base w sp c l) : ∀ g, blk sp = some g → base ≤ g ∧ g < w.heap.size := by
  intro g hg
  have := h.owns.lt g (by rw [ownBlock_slice]; exact hg)
  exact this
/-- As run_append8, and where the new slice lies. -/
theorem run_append8L {w : World} (base : Nat) (sp : Option Addr) (c : Nat) (l : List Nat) (hown : OwnB base w sp c l) (xp : Option Addr) (m xc : Nat) (k : List Nat) (hk : k.length = m) (hB : BytesAt w xp k) (hx0 : xp = none → xc = 0)
    (hsz : l.length + m ≤ 140737488355328) (hbase : base ≤ w.heap.size) (ty : TypeId) :
    ∃ sp' c' w', (Builtin.append_ #[29, 29] ty #[.slice sp l.length c, .slice xp m xc]).run Tryz.prog w = .ok (.slice sp' (l ++ k).length c') w' ∧ OwnB base w' sp' c' (l ++ k) ∧ w.grownBy w' (blk sp) ∧ ∀ g, blk sp' = some g → blk sp = some g ∨ w.heap.size ≤ g := by
  subst hk
  obtain ⟨i0, hi, hz0, hz1, hz2⟩ := info_parts info8
  have hlt : ∀ c ∈ l ++ k, c < 256 := fun c hc => (List.mem_append.1 hc).elim (hown.lt c) (hB.lt c)
  cases xp with
  | none =>
    have hk0 : k = [] := by
      cases k with
      | nil => rfl
      | cons x r => obtain ⟨b, off, h, _⟩ := hB.cell 0 (by simp); cases h
    subst hk0
    rw [hx0 rfl]
    have hrun := run_append_owned_none (P := Tryz.prog) (w := w) base 29 ty 5 i0 1 Tryz.underlying29 hi _ _ _ hown.owns
    refine ⟨sp, c, w, ?_, ?_, ⟨rfl, rfl, rfl, Nat.le_refl _, fun _ _ _ => rfl⟩, fun g hg => .inl hg⟩
    · rw [List.append_nil]; exact hrun
    · rw [List.append_nil]; exact hown
  | some x =>
    obtain ⟨v', w', hrun, h1, h2, _, h5⟩ := run_append_own_at (P := Tryz.prog) w base 29 ty 5 i0 (.int .u8 0) 1 1 Tryz.underlying29 hi hz0 hz1 hz2 rfl (by omega) _ _ _ hown.owns x k.length xc (k.map byteV) (by simp)
      (fun j u hu => by
        have h0 : 0 < (k.map byteV).length := by
          rcases Nat.eq_zero_or_pos (k.map byteV).length with h | h
          · rw [List.getElem?_eq_none (by omega)] at hu; cases hu
          · exact h
        obtain ⟨ad, had, hc⟩ := cells_of_bytesAt hB h0
        cases had
        exact hc j u hu) (oneCell_bytes k) (by simp only [maxLen]; omega) (by omega) hbase
    rw [← List.map_append, ← List.length_append] at h1
    have hv : ∃ sp' c', v' = .slice sp' (l ++ k).length c' := by
      rcases h1.2 with ⟨hv, h0⟩ | ⟨g, cap, cur, hv, _⟩
      · exact ⟨none, 0, by rw [hv, h0]⟩
      · exact ⟨_, _, hv⟩
    obtain ⟨sp', c', rfl⟩ := hv
    rw [ownBlock_slice, ownBlock_slice] at h5
    rw [ownBlock_slice] at h2
    refine ⟨sp', c', w', hrun, ⟨h1, hlt⟩, h2, fun g hg => ?_⟩
    rcases h5 with h5 | h5
    · exact .inl (h5.symm.trans hg)
    · rw [h5] at hg
      exact .inr (Nat.le_of_eq (Option.some.inj hg))
/-- One's own slice through steps: what else lay there stays; the slice lies where it lay or in new memory. -/
structure Grew (w : World) (sp : Option Addr) (w' : World) (sp' : Option Addr) : Prop where
  grown : w.grownBy w' (blk sp)
  lies : ∀ g, blk sp' = some g → blk sp = some g ∨ w.heap.size ≤ g
theorem Grew.refl (w : World) (sp : Option Addr) : Grew w sp w sp := ⟨⟨rfl, rfl, rfl, Nat.le_refl _, fun _ _ _ => rfl⟩, fun _ h => .inl h⟩
theorem Grew.trans {w w1 w2 : World} {s s1 s2 : Option Addr} (h : Grew w s w1 s1) (k : Grew w1 s1 w2 s2) : Grew w s w2 s2 := by
  refine ⟨⟨k.grown.os.trans h.grown.os, k.grown.tape.trans h.grown.tape, k.grown.output.trans h.grown.output, Nat.le_trans h.grown.size k.grown.size, fun j hj hne => ?_⟩, fun g hg => ?_⟩
  · refine (k.grown.block j (Nat.lt_of_lt_of_le hj h.grown.size) (fun e => ?_)).trans (h.grown.block j hj hne)
    rcases h.lies j e.symm with h1 | h1
    · exact hne h1.symm
    · omega
  · rcases k.lies g hg with h1 | h1
    · exact h.lies g h1
    · exact .inr (Nat.le_trans h.grown.size h1)
theorem Grew.below {base : Nat} {w w' : World} {sp sp' : Option Addr} {c : Nat} {l : List Nat} (h : Grew w sp w' sp') (ho : OwnB base w sp c l) (hb : base ≤ w.heap.size) : Below base w w' :=
  (Below.refl base w).grown h.grown hb (fun j hj => (ho.blk_lt j hj).1)
/-- What is made aside changes nothing of one's own slice. -/
theorem Grew.aside {w w1 w' : World} {sp sp' : Option Addr} (hb : Below w.heap.size w w1) (h : Grew w1 sp w' sp') : Grew w sp w' sp' :=
  ⟨⟨h.grown.os.trans hb.os, h.grown.tape.trans hb.tape, h.grown.output.trans hb.output, Nat.le_trans hb.size h.grown.size, fun j hj hne => (h.grown.block j (Nat.lt_of_lt_of_le hj hb.size) hne).trans (hb.block j hj)⟩,
   fun g hg => (h.lies g hg).imp id (fun h1 => Nat.le_trans hb.size h1)⟩
theorem Grew.block {w w' : World} {sp sp' : Option Addr} (h : Grew w sp w' sp') {j : Nat} {o : Obj} (hj : w.heap[j]? = some o) (hne : blk sp ≠ some j) : w'.heap[j]? = some o :=
  (h.grown.block j (Array.getElem?_eq_some_iff.1 hj).1 (fun e => hne e.symm)).trans hj
end Go.Proofs.YtcmiappiocfbiaaGreatDoor
end
/- A slice of bytes that came in, as a list of numbers. -/
section
namespace Go.Proofs.YtcmiappiocfbiaaGreatDoor
open Go.ChangeShapes Go.WideShapes Go.ChangeAt Go.RowKit

/-- What is told of a slice of integers that came in: it is nil, or it leads to a row of 'cap' cells that hold 'zs'. -/
def IsRow (k : IntKind) (w : World) (a : Option Addr) (len cap : Nat) (zs : List Int) : Prop :=
  (a = none ∧ len = 0 ∧ cap = 0 ∧ zs = []) ∨
  ∃ x, a = some x ∧ len ≤ cap ∧ cap ≤ maxLen ∧ zs.length = cap ∧ (∀ i, i < zs.length → w.cell? (x.add i) = some (.int k (zs.getD i 0))) ∧ ∀ n ∈ zs, (Lit.int k n).wf = true

theorem isRow_bytes {w : World} {a : Option Addr} {len cap : Nat} {zs : List Int} (h : IsRow .u8 w a len cap zs) : ∃ l : List Nat, l.length = len ∧ len ≤ cap ∧ cap ≤ maxLen ∧ cap = zs.length ∧ BytesAt w a l := by
  rcases h with ⟨rfl, rfl, rfl, rfl⟩ | ⟨x, rfl, hl, hm, hz, hcell, hwz⟩
  · exact ⟨[], rfl, Nat.le_refl _, by simp [maxLen], rfl, ⟨by simp, by simp⟩⟩
  · have hbd : ∀ n ∈ zs, 0 ≤ n ∧ n ≤ 255 := fun n hn => bounds_u8 (hwz n hn)
    refine ⟨(zs.take len).map Int.toNat, by simp; omega, hl, hm, hz.symm, ⟨?_, ?_⟩⟩
    · intro c hc
      obtain ⟨n, hn, rfl⟩ := List.mem_map.1 hc
      have := hbd n (List.mem_of_mem_take hn)
      omega
    · intro i hi
      simp only [List.length_map, List.length_take] at hi
      have hiz : i < zs.length := by omega
      have hc := hcell i hiz
      obtain ⟨b, off, spot⟩ := x
      have hspot : spot = none := by simpa [Addr.add] using World.cell?_spot (hcell 0 (by omega))
      subst hspot
      refine ⟨b, off, rfl, ?_⟩
      rw [Addr.add_lit] at hc
      rw [hc]
      have e1 : zs.getD i 0 = zs[i] := by rw [List.getD_eq_getElem?_getD, List.getElem?_eq_getElem hiz]; rfl
      have e2 : ((zs.take len).map Int.toNat).getD i 0 = (zs[i]).toNat := by
        rw [List.getD_eq_getElem?_getD, List.getElem?_map, List.getElem?_take, if_pos (by omega), List.getElem?_eq_getElem hiz]; rfl
      have := hbd zs[i] (List.getElem_mem hiz)
      rw [e1, e2, Int.toNat_of_nonneg this.1]

/-- The bytes of an argument, and how much its reading holds. -/
theorem row8 {H : Type} {enc : TypeId × Value → H} {W : World} {a : Option Addr} {len cap : Nat} {d : DataW H} {p : List MemPlace}
    (h : DataW.Trod enc Tryz.prog W 0 (fun _ => true) true 29 (.slice a len cap) d p) :
    ∃ l : List Nat, l.length = len ∧ len ≤ cap ∧ cap ≤ maxLen ∧ BytesAt W a l ∧ (a = none → cap = 0) ∧ ((d = .nil ∧ cap = 0) ∨ ∃ es sp, d = .slice es sp ∧ es.length + sp.length = cap) := by
  obtain ⟨fuel, hf⟩ := h
  rcases open_ints Tryz.underlying29 Tryz.underlying5 (by kernel_rfl) hf with ⟨hcs, hx⟩ | ⟨x, l, c, zs, hcs, _, hl, hm, hz, hx, hcell, hwz⟩
  · simp [Value.cells] at hcs
    obtain ⟨rfl, rfl, rfl⟩ := hcs
    obtain ⟨k, h1, h2, h3, h4, h5⟩ := isRow_bytes (w := W) (a := none) (len := 0) (cap := 0) (zs := []) (.inl ⟨rfl, rfl, rfl, rfl⟩)
    exact ⟨k, h1, h2, h3, h5, (fun _ => rfl), .inl ⟨(Prod.mk.inj hx).1, rfl⟩⟩
  · simp [Value.cells] at hcs
    obtain ⟨rfl, rfl, rfl⟩ := hcs
    have hz' : zs.length = cap := by simpa using hz
    obtain ⟨k, h1, h2, h3, h4, h5⟩ := isRow_bytes (w := W) (a := some x) (len := len) (cap := cap) (zs := zs) (.inr ⟨_, rfl, hl, hm, hz', hcell, hwz⟩)
    exact ⟨k, h1, h2, h3, h5, (fun h => by cases h), .inr ⟨_, _, (Prod.mk.inj hx).1, by simp [lits]; omega⟩⟩
theorem bytes8 : Tryz.prog.bytesOf 5 = 1 := by kernel_rfl
theorem reach8 {H : Type} {ts : List TypeId} {ds : List (DataW H)} (h : (DataW.weightsEach Tryz.prog ts ds).all (· ≤ reachBytes) = true) {j cap : Nat} {d : DataW H} (ht : ts[j]? = some 29) (hd : ds[j]? = some d)
    (hr : (d = .nil ∧ cap = 0) ∨ ∃ es sp, d = .slice es sp ∧ es.length + sp.length = cap) : cap ≤ 140737488355328 := by
  rcases hr with ⟨_, rfl⟩ | ⟨es, sp, rfl, rfl⟩
  · omega
  · have := sized_slice h ht hd Tryz.underlying29
    rw [bytes8] at this
    have := reachBytes_lt
    omega

theorem i64_bounds {n : Int} (h : (Lit.int .i64 n).wf = true) : -9223372036854775808 ≤ n ∧ n ≤ 9223372036854775807 := bounds_i64 h
end Go.Proofs.YtcmiappiocfbiaaGreatDoor
end
/- Targets, routes and a draw that came in. -/
section
namespace Go.Proofs.YtcmiappiocfbiaaGreatDoor
open Go.ChangeShapes Go.WideShapes Go.ChangeAt Go.RowKit

theorem f64_lt {n : Nat} (h : (Lit.float .f64 n).wf = true) : n < 18446744073709551616 := by simpa [Lit.wf] using h
theorem cells2 {w : World} {a : Addr} {cs : List Value} (h : w.cells? 0 a 2 = some cs) : ∃ v0 v1, cs = [v0, v1] ∧ w.cell? (a.add 0) = some v0 ∧ w.cell? (a.add 1) = some v1 := by
  unfold World.cells? at h
  rw [if_pos (Nat.zero_le _)] at h
  simp only [show List.range 2 = [0, 1] from rfl, List.mapM_cons, List.mapM_nil, Option.bind_eq_bind, Option.bind_eq_some_iff, Option.pure_def, Option.some.injEq] at h
  obtain ⟨v0, h0, r, ⟨v1, h1, r1, rfl, rfl⟩, rfl⟩ := h
  exact ⟨v0, v1, rfl, h0, h1⟩
theorem list2 {α : Type} {l : List α} (h : l.length = 2) : ∃ c0 c1, l = [c0, c1] := by
  match l, h with
  | [c0, c1], _ => exact ⟨c0, c1, rfl⟩
theorem cells3 {w : World} {a : Addr} {cs : List Value} (h : w.cells? 0 a 3 = some cs) : ∃ v0 v1 v2, cs = [v0, v1, v2] ∧ w.cell? (a.add 0) = some v0 ∧ w.cell? (a.add 1) = some v1 ∧ w.cell? (a.add 2) = some v2 := by
  unfold World.cells? at h
  rw [if_pos (Nat.zero_le _)] at h
  simp only [show List.range 3 = [0, 1, 2] from rfl, List.mapM_cons, List.mapM_nil, Option.bind_eq_bind, Option.bind_eq_some_iff, Option.pure_def, Option.some.injEq] at h
  obtain ⟨v0, h0, r, ⟨v1, h1, r1, ⟨v2, h2, r2, rfl, rfl⟩, rfl⟩, rfl⟩ := h
  exact ⟨v0, v1, v2, rfl, h0, h1, h2⟩
theorem list3 {α : Type} {l : List α} (h : l.length = 3) : ∃ c0 c1 c2, l = [c0, c1, c2] := by
  match l, h with
  | [c0, c1, c2], _ => exact ⟨c0, c1, c2, rfl⟩
theorem trod_float0 {H : Type} {enc : TypeId × Value → H} {P : Program} {W : World} {base : Nat} {spare : TypeId → Bool} {held : Bool} {fuel : Nat} {t : TypeId} {cs : List Value} {x : DataW H × List MemPlace} {k : FloatKind} (ht : P.underlying t = some (.float k)) (h : DataW.trod enc P W base spare held fuel t cs = some x) : ∃ n, cs = [.float k n] ∧ (Lit.float k n).wf = true := by
  cases fuel with
  | zero => simp [DataW.trod] at h
  | succ n =>
    unfold DataW.trod at h
    rw [ht] at h
    split at h <;> simp_all
theorem trod_float1 {H : Type} {enc : TypeId × Value → H} {W : World} {n : Nat} {v : Value} {y : DataW H × List MemPlace} (h : DataW.trod enc Tryz.prog W 0 (fun _ => true) true n 30 [v] = some y) : ∃ b, v = .float .f64 b ∧ b < 18446744073709551616 := by
  obtain ⟨b, e, hw⟩ := trod_float0 Tryz.underlying30 h
  simp only [List.cons.injEq, and_true] at e
  exact ⟨b, e, f64_lt hw⟩
set_option maxRecDepth 20000 in
theorem targets_arg {H : Type} {enc : TypeId × Value → H} {W : World} {a : Option Addr} {len cap : Nat} {d : DataW H} {p : List MemPlace}
    (h : DataW.Trod enc Tryz.prog W 0 (fun _ => true) true 37 (.slice a len cap) d p) :
    ∃ es : List Tg, es.length = len ∧ (len ≤ maxLen ∧ len ≤ cap) ∧ TgsAt W a es := by
  obtain ⟨fuel, hf⟩ := h
  have c6 : Tryz.prog.cellsOf 41 = 2 := by kernel_rfl
  rcases Deep.open_slice Tryz.underlying37 hf with ⟨hcs, _⟩ | ⟨x, l, c, m, n, D, Pl, hcs, _, hl, hm, hm', _, hel⟩
  · simp [Value.cells] at hcs
    obtain ⟨rfl, rfl, rfl⟩ := hcs
    exact ⟨[], rfl, ⟨by simp [maxLen], Nat.le_refl _⟩, ⟨by simp, by simp⟩⟩
  · simp [Value.cells] at hcs
    obtain ⟨rfl, rfl, rfl⟩ := hcs
    have hmm : m = cap := by simpa using hm'
    rw [c6] at hel
    have hone : ∀ i, i < len → ∃ (e : Tg), W.cell? ((x.add (i * 2)).add 0) = some (.string e.1) ∧ W.cell? ((x.add (i * 2)).add 1) = some (.float .f64 e.2) ∧ e.2 < 18446744073709551616 := by
      intro i hi
      obtain ⟨cs', h1, h2⟩ := hel i (by omega)
      obtain ⟨v0, v1, rfl, g0, g1⟩ := cells2 h1
      obtain ⟨xs, n', _, _, _, hx, hfs⟩ := DataW.trod_struct Tryz.underlying41 h2
      obtain ⟨y0, y1, rfl⟩ := list2 (show xs.length = 2 from hx)
      obtain ⟨s, e0, _, w0⟩ := DataW.trod_string Tryz.underlying9 (show DataW.trod enc Tryz.prog W 0 (fun _ => true) true n' 9 [v0] = some y0 from hfs 0 _ rfl)
      obtain ⟨b, rfl, hb⟩ := trod_float1 (show DataW.trod enc Tryz.prog W 0 (fun _ => true) true n' 30 [v1] = some y1 from hfs 1 _ rfl)
      simp only [List.cons.injEq, and_true] at e0
      subst e0
      exact ⟨(s, b), g0, g1, hb⟩
    obtain ⟨f, hfp⟩ := Deep.choose_lt (n := len) (p := fun i (e : Tg) => W.cell? ((x.add (i * 2)).add 0) = some (.string e.1) ∧ W.cell? ((x.add (i * 2)).add 1) = some (.float .f64 e.2) ∧ e.2 < 18446744073709551616) (fun i hi => hone i hi)
    refine ⟨(List.range len).map f, by simp, ⟨by omega, by omega⟩, ⟨fun t ht => ?_, fun i hi => ?_⟩⟩
    · obtain ⟨i, hi, rfl⟩ := List.mem_map.1 ht
      exact (hfp i (by simpa using hi)).2.2
    · simp only [List.length_map, List.length_range] at hi
      obtain ⟨h0, h1, _⟩ := hfp i hi
      have e : ((List.range len).map f)[i]'(by simpa using hi) = f i := by simp
      rw [e]
      obtain ⟨b, off, spot⟩ := x
      obtain ⟨h00, _⟩ := hfp 0 (by omega)
      have hspot : spot = none := by simpa [Addr.add] using World.cell?_spot h00
      subst hspot
      simp only [Addr.add_lit] at h0 h1
      exact ⟨b, off, rfl, h0, h1⟩
theorem TgsAt.take {w : World} {a : Option Addr} {l : List Tg} (h : TgsAt w a l) (k : Nat) : TgsAt w a (l.take k) :=
  ⟨fun t ht => h.lt t (List.mem_of_mem_take ht), fun i hi => by
    rw [List.length_take] at hi
    obtain ⟨b, off, e, h1, h2⟩ := h.cell i (by omega)
    exact ⟨b, off, e, by rw [List.getElem_take]; exact h1, by rw [List.getElem_take]; exact h2⟩⟩
end Go.Proofs.YtcmiappiocfbiaaGreatDoor
end
/- A configuration that came in. -/
section
namespace Go.Proofs.YtcmiappiocfbiaaGreatDoor
open Go.ChangeShapes Go.WideShapes Go.ChangeAt Go.RowKit

/-- A pool: its name, its targets. -/
structure Po where
  nm : ByteArray
  ts : List Tg
instance : Inhabited Po := ⟨⟨⟨#[]⟩, []⟩⟩
instance : Inhabited Rt := ⟨rt0⟩
structure PosAt (w : World) (a : Option Addr) (l : List Po) : Prop where
  cell : ∀ i (hi : i < l.length), ∃ b off ta tc, a = some ⟨b, off, none⟩ ∧ w.cell? ⟨b, off + i * 2, none⟩ = some (.string l[i].nm) ∧ w.cell? ⟨b, off + i * 2 + 1, none⟩ = some (.slice ta l[i].ts.length tc) ∧ TgsAt w ta l[i].ts ∧ (l[i].ts.length ≤ maxLen ∧ l[i].ts.length ≤ tc) ∧ (ta = none → tc = 0)
theorem PosAt.later {w w' : World} {a : Option Addr} {l : List Po} (h : PosAt w a l) (hb : Below w.heap.size w w') : PosAt w' a l :=
  ⟨fun i hi => by obtain ⟨b, off, ta, tc, e, h1, h2, h3, h4⟩ := h.cell i hi; exact ⟨b, off, ta, tc, e, cell_later hb h1, cell_later hb h2, h3.later hb, h4⟩⟩
structure Cf where
  ver : Int
  rs : List Rt
  ps : List Po
structure CfH where
  ra : Option Addr
  rc : Nat
  pa : Option Addr
  pc : Nat
def cfVal (e : Cf) (h : CfH) : Value := .agg #[.int .i64 e.ver, .slice h.ra e.rs.length h.rc, .slice h.pa e.ps.length h.pc]
structure CfAt (w : World) (e : Cf) (h : CfH) : Prop where
  wv : -9223372036854775808 ≤ e.ver ∧ e.ver ≤ 9223372036854775807
  rts : RtsAt w h.ra e.rs
  pos : PosAt w h.pa e.ps
  rl : e.rs.length ≤ maxLen ∧ e.rs.length ≤ h.rc
  pl : e.ps.length ≤ maxLen ∧ e.ps.length ≤ h.pc
  rz : h.ra = none → h.rc = 0
theorem CfAt.later {w w' : World} {e : Cf} {h : CfH} (x : CfAt w e h) (hb : Below w.heap.size w w') : CfAt w' e h := ⟨x.wv, x.rts.later hb, x.pos.later hb, x.rl, x.pl, x.rz⟩
theorem slice_nil0 {H : Type} {enc : TypeId × Value → H} {W : World} {t e : TypeId} {a : Option Addr} {len cap : Nat} {d : DataW H} {p : List MemPlace} (hu : Tryz.prog.underlying t = some (.slice e))
    (h : DataW.Trod enc Tryz.prog W 0 (fun _ => true) true t (.slice a len cap) d p) : a = none → cap = 0 := by
  obtain ⟨fuel, hf⟩ := h
  rcases Deep.open_slice hu hf with ⟨hcs, _⟩ | ⟨x, l, c, m, n, D, Pl, hcs, _⟩
  · simp [Value.cells] at hcs
    exact fun _ => hcs.2.2
  · simp [Value.cells] at hcs
    rintro rfl
    exact absurd hcs.1 (by simp)
set_option maxRecDepth 20000 in
theorem routes_arg {H : Type} {enc : TypeId × Value → H} {W : World} {a : Option Addr} {len cap : Nat} {d : DataW H} {p : List MemPlace}
    (h : DataW.Trod enc Tryz.prog W 0 (fun _ => true) true 25 (.slice a len cap) d p) :
    ∃ es : List Rt, es.length = len ∧ (len ≤ maxLen ∧ len ≤ cap) ∧ RtsAt W a es := by
  obtain ⟨fuel, hf⟩ := h
  have c6 : Tryz.prog.cellsOf 65 = 3 := by kernel_rfl
  rcases Deep.open_slice Tryz.underlying25 hf with ⟨hcs, _⟩ | ⟨x, l, c, m, n, D, Pl, hcs, _, hl, hm, hm', _, hel⟩
  · simp [Value.cells] at hcs
    obtain ⟨rfl, rfl, rfl⟩ := hcs
    exact ⟨[], rfl, ⟨by simp [maxLen], Nat.le_refl _⟩, ⟨by simp, by simp⟩⟩
  · simp [Value.cells] at hcs
    obtain ⟨rfl, rfl, rfl⟩ := hcs
    have hmm : m = cap := by simpa using hm'
    rw [c6] at hel
    have hone : ∀ i, i < len → ∃ (e : Rt), W.cell? ((x.add (i * 3)).add 0) = some (.string e.h) ∧ W.cell? ((x.add (i * 3)).add 1) = some (.string e.p) ∧ W.cell? ((x.add (i * 3)).add 2) = some (.string e.l) ∧ e.h.size ≤ maxLen ∧ e.p.size ≤ maxLen ∧ e.l.size ≤ maxLen := by
      intro i hi
      obtain ⟨cs', h1, h2⟩ := hel i (by omega)
      obtain ⟨v0, v1, v2, rfl, g0, g1, g2⟩ := cells3 h1
      obtain ⟨xs, n', _, _, _, hx, hfs⟩ := DataW.trod_struct Tryz.underlying65 h2
      obtain ⟨y0, y1, y2, rfl⟩ := list3 (show xs.length = 3 from hx)
      obtain ⟨s0, e0, _, w0⟩ := DataW.trod_string Tryz.underlying9 (show DataW.trod enc Tryz.prog W 0 (fun _ => true) true n' 9 [v0] = some y0 from hfs 0 _ rfl)
      obtain ⟨s1, e1, _, w1⟩ := DataW.trod_string Tryz.underlying9 (show DataW.trod enc Tryz.prog W 0 (fun _ => true) true n' 9 [v1] = some y1 from hfs 1 _ rfl)
      obtain ⟨s2, e2, _, w2⟩ := DataW.trod_string Tryz.underlying9 (show DataW.trod enc Tryz.prog W 0 (fun _ => true) true n' 9 [v2] = some y2 from hfs 2 _ rfl)
      simp only [List.cons.injEq, and_true] at e0 e1 e2
      subst e0 e1 e2
      exact ⟨⟨s0, s1, s2⟩, g0, g1, g2, w0, w1, w2⟩
    obtain ⟨f, hfp⟩ := Deep.choose_lt (n := len) (p := fun i (e : Rt) => W.cell? ((x.add (i * 3)).add 0) = some (.string e.h) ∧ W.cell? ((x.add (i * 3)).add 1) = some (.string e.p) ∧ W.cell? ((x.add (i * 3)).add 2) = some (.string e.l) ∧ e.h.size ≤ maxLen ∧ e.p.size ≤ maxLen ∧ e.l.size ≤ maxLen) (fun i hi => hone i hi)
    refine ⟨(List.range len).map f, by simp, ⟨by omega, by omega⟩, ⟨fun t ht => ?_, fun i hi => ?_⟩⟩
    · obtain ⟨i, hi, rfl⟩ := List.mem_map.1 ht
      exact (hfp i (by simpa using hi)).2.2.2
    · simp only [List.length_map, List.length_range] at hi
      obtain ⟨h0, h1, h2, _⟩ := hfp i hi
      have e : ((List.range len).map f)[i]'(by simpa using hi) = f i := by simp
      rw [e]
      obtain ⟨b, off, spot⟩ := x
      obtain ⟨h00, _⟩ := hfp 0 (by omega)
      have hspot : spot = none := by simpa [Addr.add] using World.cell?_spot h00
      subst hspot
      simp only [Addr.add_lit] at h0 h1 h2
      exact ⟨b, off, rfl, h0, h1, h2⟩
set_option maxRecDepth 20000 in
theorem pools_arg {H : Type} {enc : TypeId × Value → H} {W : World} {a : Option Addr} {len cap : Nat} {d : DataW H} {p : List MemPlace}
    (h : DataW.Trod enc Tryz.prog W 0 (fun _ => true) true 26 (.slice a len cap) d p) :
    ∃ es : List Po, es.length = len ∧ (len ≤ maxLen ∧ len ≤ cap) ∧ PosAt W a es := by
  obtain ⟨fuel, hf⟩ := h
  have c6 : Tryz.prog.cellsOf 39 = 2 := by kernel_rfl
  rcases Deep.open_slice Tryz.underlying26 hf with ⟨hcs, _⟩ | ⟨x, l, c, m, n, D, Pl, hcs, _, hl, hm, hm', _, hel⟩
  · simp [Value.cells] at hcs
    obtain ⟨rfl, rfl, rfl⟩ := hcs
    exact ⟨[], rfl, ⟨by simp [maxLen], Nat.le_refl _⟩, ⟨by simp⟩⟩
  · simp [Value.cells] at hcs
    obtain ⟨rfl, rfl, rfl⟩ := hcs
    have hmm : m = cap := by simpa using hm'
    rw [c6] at hel
    have hone : ∀ i, i < len → ∃ (e : Po), ∃ ta tc, W.cell? ((x.add (i * 2)).add 0) = some (.string e.nm) ∧ W.cell? ((x.add (i * 2)).add 1) = some (.slice ta e.ts.length tc) ∧ TgsAt W ta e.ts ∧ (e.ts.length ≤ maxLen ∧ e.ts.length ≤ tc) ∧ (ta = none → tc = 0) := by
      intro i hi
      obtain ⟨cs', h1, h2⟩ := hel i (by omega)
      obtain ⟨v0, v1, rfl, g0, g1⟩ := cells2 h1
      obtain ⟨xs, n', _, _, _, hx, hfs⟩ := DataW.trod_struct Tryz.underlying39 h2
      obtain ⟨y0, y1, rfl⟩ := list2 (show xs.length = 2 from hx)
      obtain ⟨s0, e0, _, w0⟩ := DataW.trod_string Tryz.underlying9 (show DataW.trod enc Tryz.prog W 0 (fun _ => true) true n' 9 [v0] = some y0 from hfs 0 _ rfl)
      have t1 : DataW.trod enc Tryz.prog W 0 (fun _ => true) true n' 37 [v1] = some y1 := hfs 1 _ rfl
      obtain ⟨ta, tn, tc, e1⟩ := Joins.slice_form Tryz.underlying37 t1
      simp only [List.cons.injEq, and_true] at e0 e1
      subst e0 e1
      have hs : DataW.Trod enc Tryz.prog W 0 (fun _ => true) true 37 (.slice ta tn tc) y1.1 y1.2 := ⟨n', t1⟩
      obtain ⟨ts, rfl, hl2, hT⟩ := targets_arg hs
      exact ⟨⟨s0, ts⟩, ta, tc, g0, g1, hT, hl2, slice_nil0 Tryz.underlying37 hs⟩
    obtain ⟨f, hfp⟩ := Deep.choose_lt (n := len) (p := fun i (e : Po) => ∃ ta tc, W.cell? ((x.add (i * 2)).add 0) = some (.string e.nm) ∧ W.cell? ((x.add (i * 2)).add 1) = some (.slice ta e.ts.length tc) ∧ TgsAt W ta e.ts ∧ (e.ts.length ≤ maxLen ∧ e.ts.length ≤ tc) ∧ (ta = none → tc = 0)) (fun i hi => hone i hi)
    refine ⟨(List.range len).map f, by simp, ⟨by omega, by omega⟩, ⟨fun i hi => ?_⟩⟩
    simp only [List.length_map, List.length_range] at hi
    obtain ⟨ta, tc, h0, h1, h2, h3, h4⟩ := hfp i hi
    have e : ((List.range len).map f)[i]'(by simpa using hi) = f i := by simp
    rw [e]
    obtain ⟨b, off, spot⟩ := x
    obtain ⟨_, _, h00, _⟩ := hfp 0 (by omega)
    have hspot : spot = none := by simpa [Addr.add] using World.cell?_spot h00
    subst hspot
    simp only [Addr.add_lit] at h0 h1
    exact ⟨b, off, ta, tc, rfl, h0, h1, h2, h3, h4⟩
theorem list3a {vs : Array Value} (h : vs.size = 3) : ∃ c0 c1 c2, vs = #[c0, c1, c2] := by
  obtain ⟨l⟩ := vs
  obtain ⟨c0, c1, c2, rfl⟩ := list3 (show l.length = 3 from h)
  exact ⟨c0, c1, c2, rfl⟩
set_option maxRecDepth 20000 in
theorem open_conf {H : Type} {enc : TypeId × Value → H} {W : World} {r : Reach} {b0 : Nat} {v : Value} {d : DataW H} {p : List MemPlace} (hv : Value.okWide Tryz.prog W r b0 28 v)
    (h : DataW.Trod enc Tryz.prog W 0 (fun _ => true) true 28 v d p) : ∃ (e : Cf) (q : CfH), v = cfVal e q ∧ CfAt W e q := by
  obtain ⟨cs, rfl, hsz⟩ := okWide_struct Tryz.underlying28 hv
  have c6 : Tryz.prog.cellsOf 28 = 3 := by kernel_rfl
  obtain ⟨v0, v1, v2, rfl⟩ := list3a (hsz.trans c6)
  obtain ⟨fuel, hf⟩ := h
  have h2 : DataW.trod enc Tryz.prog W 0 (fun _ => true) true fuel 28 [v0, v1, v2] = some (d, p) := hf
  obtain ⟨xs, n', _, _, _, hx, hfs⟩ := DataW.trod_struct Tryz.underlying28 h2
  obtain ⟨y0, y1, y2, rfl⟩ := list3 (show xs.length = 3 from hx)
  obtain ⟨k, e0, _, w0⟩ := DataW.trod_int Tryz.underlying3 (show DataW.trod enc Tryz.prog W 0 (fun _ => true) true n' 3 [v0] = some y0 from hfs 0 _ rfl)
  have t1 : DataW.trod enc Tryz.prog W 0 (fun _ => true) true n' 25 [v1] = some y1 := hfs 1 _ rfl
  have t2 : DataW.trod enc Tryz.prog W 0 (fun _ => true) true n' 26 [v2] = some y2 := hfs 2 _ rfl
  obtain ⟨ra, rn, rc, e1⟩ := Joins.slice_form Tryz.underlying25 t1
  obtain ⟨pa, pn, pc, e2⟩ := Joins.slice_form Tryz.underlying26 t2
  simp only [List.cons.injEq, and_true] at e0 e1 e2
  subst e0 e1 e2
  have hs1 : DataW.Trod enc Tryz.prog W 0 (fun _ => true) true 25 (.slice ra rn rc) y1.1 y1.2 := ⟨n', t1⟩
  have hs2 : DataW.Trod enc Tryz.prog W 0 (fun _ => true) true 26 (.slice pa pn pc) y2.1 y2.2 := ⟨n', t2⟩
  obtain ⟨rs, rfl, hl1, hR⟩ := routes_arg hs1
  obtain ⟨ps, rfl, hl2, hP⟩ := pools_arg hs2
  exact ⟨⟨k, rs, ps⟩, ⟨ra, rc, pa, pc⟩, rfl, i64_bounds w0, hR, hP, hl1, hl2, slice_nil0 Tryz.underlying25 hs1⟩
/-- How great a configuration is, of the first j pools (as far as that is told). -/
def bigN (l : List Po) : Nat → Nat
  | 0 => 0
  | j + 1 => bigN l j + (1 + min (l.getD j default).ts.length 1000)
theorem po_at (l : List Po) (j : Nat) (hj : j < l.length) : l.getD j default = l[j] := by
  rw [List.getD_eq_getElem?_getD, List.getElem?_eq_getElem hj]; rfl
theorem bigN_mono (l : List Po) (j n : Nat) (h : j ≤ n) : bigN l j ≤ bigN l n := by
  induction n with
  | zero =>
    have h0 : j = 0 := by omega
    rw [h0]
    exact Nat.le_refl _
  | succ n ih =>
    by_cases he : j = n + 1
    · rw [he]
      exact Nat.le_refl _
    · exact Nat.le_trans (ih (by omega)) (Nat.le_add_right _ _)
def shortC (e : Cf) : Bool := decide (bigN e.ps e.ps.length ≤ 200) && decide (e.rs.length ≤ 200)
set_option maxRecDepth 20000 in
set_option maxHeartbeats 4000000 in
theorem short_calls {w : World} {e : Cf} {h : CfH} (hc : CfAt w e h) : Calls Tryz.prog 7 #[cfVal e h] w fun r w' => r = .returned (.bool (shortC e)) ∧ Below w.heap.size w w' := by
  unfold cfVal
  have b1 : Below w.heap.size w (w.alloc (.cells #[.int .i64 e.ver, .slice h.ra e.rs.length h.rc, .slice h.pa e.ps.length h.pc] 28)) := (Below.refl _ _).alloc (Nat.le_refl _) _
  have X1 := heap_new w (.cells #[.int .i64 e.ver, .slice h.ra e.rs.length h.rc, .slice h.pa e.ps.length h.pc] 28)
  have H := hide (hc.pos.later b1)
  have B1 := hide b1
  have hpl := hc.pl.1
  have c1 := fcell0 X1 1 _ rfl
  have c2 := fcell0 X1 2 _ rfl
  obtain ⟨ver, rs, ps⟩ := e
  obtain ⟨ra, rc, pa, pc⟩ := h
  simp only at *
  have SE := hide (show shortC ⟨ver, rs, ps⟩ = (decide (bigN ps ps.length ≤ 200) && decide (rs.length ≤ 200)) from rfl)
  simp only [maxLen] at hpl
  generalize hn : ps.length = n at *
  generalize hm : rs.length = m at *
  have HN := hide hn
  clear hc b1 X1 hn hm
  go_enter Tryz.func7, Tryz.ntmps7
  go_wp2_with fail
  go_loopw [3, 4] (fun t i wr => ∃ j : Nat, j ≤ n ∧ i = .int .i64 (j : Int) ∧ t = .int .i64 (bigN ps j : Int) ∧ Hid (bigN ps j ≤ 200 + 1001) ∧ Hid (wr = w.alloc (.cells #[.int .i64 ver, .slice ra m rc, .slice pa n pc] 28))) (fun _ i _ => n - (intOf i).toNat)
  case atStart => exact ⟨0, by omega, rfl, rfl, hide (by simp [bigN]), hide rfl⟩
  case round =>
    obtain ⟨j, hj, rfl, rfl, BB, HW⟩ := hrel
    have hw := unhide HW
    subst hw
    by_cases hjn : j < n
    · have y0 : (0 : Int) ≤ (j : Int) := by omega
      have y1 : (j : Int) < (n : Int) := by omega
      have hjl : j < ps.length := by rw [unhide HN]; exact hjn
      by_cases h200 : bigN ps j ≤ 200
      · have y2 : (bigN ps j : Int) ≤ 200 := by omega
        obtain ⟨b, off, ta, tc, rfl, q0, q1, _, hlen, _⟩ := (unhide H).cell j hjl
        have hs : bigN ps (j + 1) = bigN ps j + (1 + min ps[j].ts.length 1000) := by rw [← po_at ps j hjl]; rfl
        have hlm := hlen.1
        simp only [maxLen] at hlm
        generalize ps[j].ts.length = tl at *
        have HS := hide hs
        clear hs q0 hlen
        have hbb : bigN ps j ≤ 200 := h200
        generalize hbj : bigN ps j = bj at *
        clear hbj
        by_cases ht : 1000 < tl
        · have y3 : (1000 : Int) < (tl : Int) := by omega
          have E := hide (show bigN ps (j + 1) = bj + 1001 by rw [unhide HS]; omega)
          clear ht HS
          go_wp2
          exact ⟨⟨j + 1, by omega, by go_num, by rw [unhide E]; go_num, hide (by rw [unhide E]; omega), by first | exact HW | exact hide trivial⟩, by simp [intOf]; omega⟩
        · have y3 : (tl : Int) ≤ 1000 := by omega
          have E := hide (show bigN ps (j + 1) = bj + (1 + tl) by rw [unhide HS]; omega)
          clear ht HS
          go_wp2
          exact ⟨⟨j + 1, by omega, by go_num, by rw [unhide E]; go_num, hide (by rw [unhide E]; omega), by first | exact HW | exact hide trivial⟩, by simp [intOf]; omega⟩
      · have y2 : ¬ (bigN ps j : Int) ≤ 200 := by omega
        have E := hide (show decide (bigN ps n ≤ 200) = false from decide_eq_false (by have := bigN_mono ps j n hj; omega))
        generalize bigN ps j = bj at *
        go_wp2
        go_ret
        exact ⟨by rw [unhide SE, unhide E]; rfl, unhide B1⟩
    · obtain rfl : j = n := by omega
      have hjj : ¬ (j : Int) < (j : Int) := by omega
      by_cases h200 : bigN ps j ≤ 200
      · have y2 : (bigN ps j : Int) ≤ 200 := by omega
        by_cases hm2 : m ≤ 200
        · have y3 : (m : Int) ≤ 200 := by omega
          rw [decide_eq_true h200, decide_eq_true hm2] at SE
          generalize bigN ps j = bj at *
          clear h200 hm2
          go_wp2
          go_ret
          exact ⟨by rw [unhide SE]; rfl, unhide B1⟩
        · have y3 : ¬ (m : Int) ≤ 200 := by omega
          rw [decide_eq_true h200, decide_eq_false hm2] at SE
          generalize bigN ps j = bj at *
          clear h200 hm2
          go_wp2
          go_ret
          exact ⟨by rw [unhide SE]; rfl, unhide B1⟩
      · have y2 : ¬ (bigN ps j : Int) ≤ 200 := by omega
        rw [decide_eq_false h200] at SE
        generalize bigN ps j = bj at *
        clear h200
        go_wp2
        go_ret
        exact ⟨by rw [unhide SE]; rfl, unhide B1⟩
end Go.Proofs.YtcmiappiocfbiaaGreatDoor
end
/- Regions that draw their order, walked operation by operation, with operations that are not wanted. -/
section
namespace Go.Proofs.YtcmiappiocfbiaaGreatDoor
open Go.RowKit

section
variable {P : Program} {md : Region.Mode} {ops : Array Oper} {Q : Exit → Act → World → Prop} {S : World → Prop}
/-- An operation that is wanted and yields its value in every world that meets S. -/
theorem held_take (i : Nat) {oi : Oper} {v : Value} {fuel : Nat} {listed : Array Bool} {a : Act} {w : World} (hr : (Region.ready md ops listed).contains i = true) (hi : ops[i]? = some oi)
    (hw : Region.wanted oi (yielded ops a.tmps) = true) (hs : Region.noSelect ops = true) (hf : Region.free md ops listed i = true)
    (hQ : ∀ c a w, Q (.panic c) (a.put oi.dst v) w → Q (.panic c) a w) (hy : ∀ w, S w → (execOp a.eval oi).run P w = .ok (.value v) w) (hS : S w)
    (h : wpAnyH P md ops Q S fuel (listed.setIfInBounds i true) (a.put oi.dst v) w) : wpAnyH P md ops Q S (fuel + 1) listed a w :=
  wpAnyH_take hi hs hf hr hQ (Or.inl ⟨hw, hy⟩) hS h
/-- An operation that is not wanted. -/
theorem held_skip (i : Nat) {oi : Oper} {fuel : Nat} {listed : Array Bool} {a : Act} {w : World} (hr : (Region.ready md ops listed).contains i = true) (hi : ops[i]? = some oi)
    (hw : Region.wanted oi (yielded ops a.tmps) = false) (hs : Region.noSelect ops = true) (hf : Region.free md ops listed i = true)
    (hQ : ∀ c a w, Q (.panic c) (a.put oi.dst undef) w → Q (.panic c) a w) (hS : S w)
    (h : wpAnyH P md ops Q S fuel (listed.setIfInBounds i true) (a.put oi.dst undef) w) : wpAnyH P md ops Q S (fuel + 1) listed a w :=
  wpAnyH_take hi hs hf hr hQ (Or.inr ⟨hw, rfl⟩) hS h
/-- The one operation that may come up. -/
theorem held_one (i : Nat) {oi : Oper} {fuel : Nat} {listed : Array Bool} {a : Act} {w : World} (hr : Region.ready md ops listed = [i]) (hi : ops[i]? = some oi)
    (h : ∀ K' : Act → World → Prop, Shut (∀ a w, S w → (S w → wpAnyH P md ops Q S fuel (listed.setIfInBounds i true) a w) → K' a w) → if Region.wanted oi (yielded ops a.tmps) = true then Oper.wp P oi a w K' Q else K' (a.put oi.dst undef) w) :
    wpAnyH P md ops Q S (fuel + 1) listed a w :=
  wpAnyH_ready hr (by simp) (AllReadyH.cons hi h AllReadyH.nil)
/-- The one operation that may come up, and is not wanted. -/
theorem held_none (i : Nat) {oi : Oper} {fuel : Nat} {listed : Array Bool} {a : Act} {w : World} (hr : Region.ready md ops listed = [i]) (hi : ops[i]? = some oi)
    (hw : Region.wanted oi (yielded ops a.tmps) = false) (hS : S w)
    (h : wpAnyH P md ops Q S fuel (listed.setIfInBounds i true) (a.put oi.dst undef) w) : wpAnyH P md ops Q S (fuel + 1) listed a w :=
  held_one i hr hi (fun K' hK => by rw [hw]; exact hK.out _ _ hS (fun _ => h))
end
end Go.Proofs.YtcmiappiocfbiaaGreatDoor
end
/- Regions that draw their order, walked operation by operation, with operations that are not wanted. -/
section
namespace Go.Proofs.YtcmiappiocfbiaaGreatDoor
open Go.RowKit

end Go.Proofs.YtcmiappiocfbiaaGreatDoor
end
