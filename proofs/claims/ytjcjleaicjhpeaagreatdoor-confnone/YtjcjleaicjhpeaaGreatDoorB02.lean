/- Disk: copies of bytes, bytes laid over bytes. -/
import Derived.Test.YtjcjleaicjhpeaaGreatDoorB01
import Derived.Laws.CopyOwn
import Derived.Laws.AppendOwn
import Derived.ArgAppend
import Derived.Laws.Tables
import Derived.Laws.Rows
import Derived.Test.YtjcjleaicjhpeaaGreatDoorChecked
import Derived.WalkKit
import Derived.ProofKit
import Derived.OpenShut
import Derived.Below
import Derived.WalkLawsBesides
import Derived.WalkSpells
import Derived.Outline
import Derived.Laws.IdiomStrings
import Derived.Deep.QuietTactic
import Derived.BigQuiet
import Derived.Deep.AppendLies
import Derived.Laws.BitsAllLaws
import Derived.Maps.AppendAt
import Derived.Deep.RegionLaw
import Derived.Test.YtjcjleaicjhpeaaGreatDoorRows
import Derived.ShutString
import Derived.ChangeOld
import Derived.SizedLaws
import Derived.ChangeMaps5
import Derived.Deep.Slices
import Derived.Lib.SmallJoins
section
namespace Go.Proofs.YtjcjleaicjhpeaaGreatDoor
open Go.ChangeShapes Go.WideShapes Go.ChangeAt Go.RowKit

/-- Bytes with others over them from a place on. -/
def overL (l : List Nat) (k : Nat) (o : List Nat) : List Nat := l.take k ++ (o ++ l.drop (k + o.length))
theorem overL_nil (l : List Nat) (k : Nat) : overL l k [] = l := by simp [overL]
theorem overL_length (l : List Nat) (k : Nat) (o : List Nat) (hk : k ≤ l.length) : (overL l k o).length = max l.length (k + o.length) := by
  simp only [overL, List.length_append, List.length_take, List.length_drop]
  omega
theorem overL_lt {l o : List Nat} (k : Nat) (hl : ∀ c ∈ l, c < 256) (ho : ∀ c ∈ o, c < 256) : ∀ c ∈ overL l k o, c < 256 := by
  intro c hc
  simp only [overL, List.mem_append] at hc
  rcases hc with h | h | h
  · exact hl c (List.mem_of_mem_take h)
  · exact ho c h
  · exact hl c (List.mem_of_mem_drop h)
theorem overL_two (l : List Nat) (k n : Nat) (o : List Nat) (hk : k ≤ l.length) (hn : n = min o.length (l.length - k)) : overL l k (o.take n) ++ o.drop n = overL l k o := by
  unfold overL
  by_cases h : o.length ≤ l.length - k
  · have e : n = o.length := by omega
    rw [e, List.take_of_length_le (Nat.le_refl _), List.drop_of_length_le (Nat.le_refl _), List.append_nil]
  · have e : n = l.length - k := by omega
    have h1 : (o.take n).length = n := by rw [List.length_take]; omega
    have h2 : l.drop (k + n) = [] := List.drop_of_length_le (by omega)
    have h3 : l.drop (k + o.length) = [] := List.drop_of_length_le (by omega)
    rw [h1, h2, h3, List.append_nil, List.append_nil, List.append_assoc, List.take_append_drop]
/-- Bytes of one's own, in a block that may be longer than their room. -/
structure Bx (base : Nat) (w : World) (sp : Option Addr) (c : Nat) (l : List Nat) : Prop where
  lt : ∀ x ∈ l, x < 256
  row : (sp = none ∧ c = 0 ∧ l = []) ∨ ∃ (g : Nat) (cur : List Value), sp = some ⟨g, 0, none⟩ ∧ base ≤ g ∧ w.heap[g]? = some (.cells cur.toArray 5 (0, 0)) ∧ l.length ≤ c ∧ c ≤ cur.length ∧ c ≤ maxLen ∧ cur.take l.length = l.map byteV
section
variable {base : Nat} {w w' : World} {sp : Option Addr} {c : Nat} {l : List Nat}
theorem Bx.ofNil (base : Nat) (w : World) : Bx base w none 0 [] := ⟨by simp, .inl ⟨rfl, rfl, rfl⟩⟩
theorem OwnB.toBx (h : OwnB base w sp c l) : Bx base w sp c l := by
  refine ⟨h.lt, ?_⟩
  rcases h.owns.2 with ⟨hv, h1⟩ | ⟨g, cap, cur, hv, hb, hg, hle, hmx, hsz, ht⟩
  · simp only [Value.slice.injEq] at hv
    exact .inl ⟨hv.1, hv.2.2, List.eq_nil_of_length_eq_zero h1⟩
  · simp only [Value.slice.injEq] at hv
    obtain ⟨rfl, _, rfl⟩ := hv
    obtain ⟨cl⟩ := cur
    have h2 : cl.length = c * 1 := hsz
    have h3 : cl.take (l.length * 1) = l.map byteV := ht
    rw [Nat.mul_one] at h2 h3
    exact .inr ⟨g, cl, rfl, hb, hg, hle, by omega, hmx, h3⟩
theorem Bx.bytes (h : Bx base w sp c l) : BytesAt w sp l := by
  refine ⟨h.lt, fun i hi => ?_⟩
  rcases h.row with ⟨_, _, rfl⟩ | ⟨g, cur, rfl, _, hg, _, _, _, ht⟩
  · simp at hi
  · refine ⟨g, 0, rfl, ?_⟩
    rw [cell_of_row w g (0 + i) _ _ _ hg, Nat.zero_add]
    have e : (l.map byteV)[i]? = some (byteV (l.getD i 0)) := by
      rw [List.getElem?_map, List.getElem?_eq_getElem hi, List.getD_eq_getElem?_getD, List.getElem?_eq_getElem hi]; rfl
    rw [← ht, List.getElem?_take, if_pos hi] at e
    have e2 : cur.toArray[i]? = cur[i]? := by simp
    exact e2.trans e
theorem Bx.cap (h : Bx base w sp c l) : l.length ≤ c ∧ c ≤ maxLen := by
  rcases h.row with ⟨_, rfl, rfl⟩ | ⟨g, cur, _, _, _, h1, _, h2, _⟩
  · exact ⟨by simp, by simp [maxLen]⟩
  · exact ⟨h1, h2⟩
theorem Bx.nil0 (h : Bx base w sp c l) : sp = none → c = 0 := by
  intro e
  rcases h.row with ⟨_, h1, _⟩ | ⟨g, cur, h1, _⟩
  · exact h1
  · rw [h1] at e; cases e
theorem Bx.isT (h : Bx base w sp c l) : ∀ g, blk sp = some g → base ≤ g ∧ g < w.heap.size ∧ ∃ cur : Array Value, w.heap[g]? = some (.cells cur 5 (0, 0)) := by
  intro g hg
  rcases h.row with ⟨h1, _⟩ | ⟨g1, cur, h1, hb, hh, _⟩
  · rw [h1] at hg; cases hg
  · rw [h1] at hg
    obtain rfl : g1 = g := by simpa [blk] using hg
    exact ⟨hb, (Array.getElem?_eq_some_iff.1 hh).1, _, hh⟩
theorem Bx.grownNe {o : Option Nat} (h : Bx base w sp c l) (hg : w.grownBy w' o) (hne : ∀ g, blk sp = some g → o ≠ some g) : Bx base w' sp c l := by
  refine ⟨h.lt, ?_⟩
  rcases h.row with hv | ⟨g, cur, h1, hb, hh, r⟩
  · exact .inl hv
  · exact .inr ⟨g, cur, h1, hb, (hg.block g (Array.getElem?_eq_some_iff.1 hh).1 (fun e => hne g (by rw [h1]; rfl) e.symm)).trans hh, r⟩
theorem Bx.later (h : Bx base w sp c l) (hb : Below w.heap.size w w') : Bx base w' sp c l := by
  refine ⟨h.lt, ?_⟩
  rcases h.row with hv | ⟨g, cur, h1, hbg, hh, r⟩
  · exact .inl hv
  · exact .inr ⟨g, cur, h1, hbg, (hb.block g (Array.getElem?_eq_some_iff.1 hh).1).trans hh, r⟩
theorem Bx.mono {base' : Nat} (h : Bx base w sp c l) (hb : base' ≤ base) : Bx base' w sp c l := by
  refine ⟨h.lt, ?_⟩
  rcases h.row with hv | ⟨g, cur, h1, hbg, r⟩
  · exact .inl hv
  · exact .inr ⟨g, cur, h1, by omega, r⟩
theorem Bx.ne_block (h : Bx base w sp c l) {g : Nat} {cs : Array Value} {T : TypeId} {fr : Nat × Nat} (hg : w.heap[g]? = some (.cells cs T fr)) (hT : T ≠ 5) : blk sp ≠ some g := by
  intro hs
  obtain ⟨_, _, cur, hc⟩ := h.isT g hs
  rw [hc] at hg
  simp only [Option.some.injEq, Obj.cells.injEq] at hg
  exact hT hg.2.1.symm
/-- b[:k] and b[:k:m]. -/
theorem Bx.cut (h : Bx base w sp c l) (k m : Nat) (hk : k ≤ l.length) (hkm : k ≤ m) (hm : m ≤ c) : Bx base w sp m (l.take k) := by
  refine ⟨fun x hx => h.lt x (List.mem_of_mem_take hx), ?_⟩
  have hl : (l.take k).length = k := by rw [List.length_take]; omega
  rcases h.row with ⟨h1, h2, h3⟩ | ⟨g, cur, h1, hb, hg, h2, h3, h4, ht⟩
  · subst h3
    exact .inl ⟨h1, by omega, by simp⟩
  · refine .inr ⟨g, cur, h1, hb, hg, by omega, by omega, by omega, ?_⟩
    rw [hl, List.map_take, ← ht, List.take_take]
    congr 1
    omega
theorem slp_zero (sp : Option Addr) (m : Nat) (h : ∀ ad, sp = some ad → ∃ g, ad = ⟨g, 0, none⟩) : slp sp 0 m = sp := by
  unfold slp
  split
  · rfl
  · cases sp with
    | none => rfl
    | some ad =>
      obtain ⟨g, rfl⟩ := h ad rfl
      simp [Addr.add_lit]
theorem Bx.slp0 (h : Bx base w sp c l) (m : Nat) : slp sp 0 m = sp := slp_zero sp m fun ad e => by
  rcases h.row with ⟨h1, _⟩ | ⟨g, cur, h1, _⟩
  · rw [h1] at e; cases e
  · rw [h1] at e; cases e; exact ⟨g, rfl⟩
theorem grown_setRow (w : World) (g : Nat) (cs : Array Value) : w.grownBy (w.setRow g cs) (some g) :=
  ⟨rfl, rfl, rfl, by simp, fun i _ hne => setRow_other w g i cs (fun e => hne (by rw [e]))⟩
/-- append onto such bytes. -/
theorem run_appendBx (h : Bx base w sp c l) (xp : Option Addr) (m xc : Nat) (k : List Nat) (hk : k.length = m) (hB : BytesAt w xp k) (hx0 : xp = none → xc = 0) (hsz : l.length + m ≤ 140737488355328) (hbase : base ≤ w.heap.size) (ty : TypeId) :
    ∃ sp' c' w', (Builtin.append_ #[50, 50] ty #[.slice sp l.length c, .slice xp m xc]).run Tryz.prog w = .ok (.slice sp' (l ++ k).length c') w' ∧ Bx base w' sp' c' (l ++ k) ∧ Grew w sp w' sp' := by
  rcases h.row with ⟨rfl, rfl, rfl⟩ | ⟨g, cur, rfl, hbg, hg, hle, hcc, hmx, ht⟩
  · obtain ⟨sp', c', w', h1, h2, h3, h4⟩ := run_append8L base none 0 [] (OwnB.ofNil w base) xp m xc k hk hB hx0 hsz hbase ty
    exact ⟨sp', c', w', h1, h2.toBx, h3, h4⟩
  · subst hk
    obtain ⟨i0, hi, hz0, hz1, hz2⟩ := info_parts info8
    cases xp with
    | none =>
      have hk0 : k = [] := by
        cases k with
        | nil => rfl
        | cons x r => obtain ⟨b, off, h, _⟩ := hB.cell 0 (by simp); cases h
      subst hk0
      rw [hx0 rfl]
      refine ⟨some ⟨g, 0, none⟩, c, w, ?_, by rw [List.append_nil]; exact h, Grew.refl _ _⟩
      rw [List.append_nil]
      simp [Builtin.append_, run_underlying Tryz.underlying50, sizeOf, typeInfo, hi, Builtin.lenOf, Builtin.firstCells, hle, storeCells]
    | some ad =>
      have hnews : ∀ j u, (k.map byteV)[j]? = some u → w.cell? (ad.add j) = some u := fun j u hu => by
        have h0 : 0 < (k.map byteV).length := by
          rcases Nat.eq_zero_or_pos (k.map byteV).length with h | h
          · rw [List.getElem?_eq_none (by omega)] at hu; cases hu
          · exact h
        obtain ⟨ad', had, hc⟩ := cells_of_bytesAt hB h0
        cases had
        exact hc j u hu
      have hlt : ∀ x ∈ l ++ k, x < 256 := fun x hx => (List.mem_append.1 hx).elim (h.lt x) (hB.lt x)
      by_cases hroom : l.length + k.length ≤ c
      · have hrun := run_append_room (P := Tryz.prog) w 50 ty 5 i0 Tryz.underlying50 hi g l.length c cur.toArray hg ad k.length xc (k.map byteV) (by rw [hz1]; simp) hnews (oneCell_bytes k) hroom (by rw [hz1]; simp; omega)
        refine ⟨some ⟨g, 0, none⟩, c, _, by rw [List.length_append]; exact hrun, ⟨hlt, .inr ⟨g, _, rfl, hbg, setRow_heap w g _ _ _ _ hg, by rw [List.length_append]; exact hroom, ?_, hmx, ?_⟩⟩, ⟨grown_setRow _ _ _, fun g' hg' => .inl hg'⟩⟩
        · rw [hz1]; simp; omega
        · rw [hz1]
          have hm : (cur.take l.length ++ k.map byteV).length = l.length + k.length := by simp; omega
          have hc2 : (cur.take l.length ++ k.map byteV ++ cur.drop (l.length + k.length)).take (l.length + k.length) = l.map byteV ++ k.map byteV := by
            rw [← hm, List.take_left, ht]
          simpa using hc2
      · obtain ⟨v', w', hrun, h1, h2⟩ := run_append_arg_grows (P := Tryz.prog) (w := w) 50 ty 5 i0 (.int .u8 0) 1 1 Tryz.underlying50 hi hz0 hz1 hz2 rfl (by omega) ⟨g, 0, none⟩ l.length c (l.map byteV) (by simp) (by
          intro j u hu
          rw [Addr.add_lit, Nat.zero_add, cell_of_row w g j _ _ _ hg]
          have hj : j < l.length := by have := (List.getElem?_eq_some_iff.1 hu).1; simpa using this
          rw [← ht, List.getElem?_take, if_pos hj] at hu
          simpa using hu) ad k.length xc (k.map byteV) (by simp) hnews (by omega) (by simp only [maxLen]; omega) (by omega)
        rw [← List.map_append] at h1
        rcases h1.2 with ⟨hv, h3⟩ | ⟨g', cap, cur', hv, hb', hg', hle', hmx', hsz', ht'⟩
        · omega
        · obtain ⟨cl⟩ := cur'
          have h4 : cl.length = cap * 1 := hsz'
          have h5 : cl.take ((l.length + k.length) * 1) = (l ++ k).map byteV := ht'
          rw [Nat.mul_one] at h4 h5
          refine ⟨some ⟨g', 0, none⟩, cap, w', by rw [hrun, hv, List.length_append], ⟨hlt, .inr ⟨g', cl, rfl, by omega, hg', by rw [List.length_append]; exact hle', by omega, hmx', by rw [List.length_append]; exact h5⟩⟩, ⟨?_, fun g2 hg2 => .inr ?_⟩⟩
          · exact ⟨h2.os, h2.tape, h2.output, h2.size, fun j hj _ => h2.block j hj (by simp)⟩
          · obtain rfl : g' = g2 := by simpa [blk] using hg2
            exact hb'
end
end Go.Proofs.YtjcjleaicjhpeaaGreatDoor
end
/- Small laws of memory for the texts of logs. -/
section
namespace Go.Proofs.YtjcjleaicjhpeaaGreatDoor
open Go.ChangeShapes Go.WideShapes Go.ChangeAt Go.RowKit

theorem box_cell {w : World} {j : Nat} {cs : Array Value} {T : TypeId} (h : w.heap[j]? = some (.cells cs T (0, 0))) (f : Nat) (v : Value) (hv : cs[f]? = some v) : w.cell? ⟨j, f, none⟩ = some v := by
  rw [cell_of_row _ _ _ _ _ _ h, hv]
theorem later_block {w w' : World} {j : Nat} {o : Obj} (hb : Below w.heap.size w w') (h : w.heap[j]? = some o) : w'.heap[j]? = some o := (hb.block j (Array.getElem?_eq_some_iff.1 h).1).trans h
theorem froz_of {W : World} {E : Nat} {cs : Array Value} {t : Nat} (h : W.heap[E]? = some (.cells cs t (0, 0))) (i : Nat) : W.frozen? ⟨E, i, none⟩ = false := by simp [World.frozen?, h]
theorem cell_aside (W : World) {A B i k : Nat} (v : Value) (h : B ≠ A) : (W.setCell ⟨A, i, none⟩ v).cell? ⟨B, k, none⟩ = W.cell? ⟨B, k, none⟩ :=
  World.cell?_of_block (heap_setCell_other W ⟨A, i, none⟩ B v (fun e => h (by simpa using e)))
end Go.Proofs.YtjcjleaicjhpeaaGreatDoor
end
/- What the walks ask of memory (a program without slices of bytes). -/
section
namespace Go.Proofs.YtjcjleaicjhpeaaGreatDoor
open Go.ChangeShapes Go.WideShapes Go.ChangeAt Go.RowKit

end Go.Proofs.YtjcjleaicjhpeaaGreatDoor
end
/- Targets and routes in memory. -/
section
namespace Go.Proofs.YtjcjleaicjhpeaaGreatDoor
open Go.ChangeShapes Go.WideShapes Go.ChangeAt Go.RowKit

theorem run_storeF (m : Mode) (a : Addr) (b : Nat) (w : World) : (store a (.float .f64 b) m).run Tryz.prog w = stored Tryz.prog w a (.float .f64 b) m := run_store Tryz.prog w a _ m rfl
/-- A target: its address, its weight's bits. -/
abbrev Tg := ByteArray × Nat
structure TgsAt (w : World) (a : Option Addr) (l : List Tg) : Prop where
  lt : ∀ t ∈ l, t.2 < 18446744073709551616
  cell : ∀ i (hi : i < l.length), ∃ b off, a = some ⟨b, off, none⟩ ∧ w.cell? ⟨b, off + i * 2, none⟩ = some (.string l[i].1) ∧ w.cell? ⟨b, off + i * 2 + 1, none⟩ = some (.float .f64 l[i].2)
theorem TgsAt.later {w w' : World} {a : Option Addr} {l : List Tg} (h : TgsAt w a l) (hb : Below w.heap.size w w') : TgsAt w' a l :=
  ⟨h.lt, fun i hi => by obtain ⟨b, off, e, h1, h2⟩ := h.cell i hi; exact ⟨b, off, e, cell_later hb h1, cell_later hb h2⟩⟩
/-- A route: host, prefix, pool. -/
structure Rt where
  h : ByteArray
  p : ByteArray
  l : ByteArray
def rtVal (r : Rt) : Value := .agg #[.string r.h, .string r.p, .string r.l]
def rt0 : Rt := ⟨⟨#[]⟩, ⟨#[]⟩, ⟨#[]⟩⟩
structure RtsAt (w : World) (a : Option Addr) (l : List Rt) : Prop where
  sz : ∀ r ∈ l, r.h.size ≤ maxLen ∧ r.p.size ≤ maxLen ∧ r.l.size ≤ maxLen
  cell : ∀ i (hi : i < l.length), ∃ b off, a = some ⟨b, off, none⟩ ∧ w.cell? ⟨b, off + i * 3, none⟩ = some (.string l[i].h) ∧ w.cell? ⟨b, off + i * 3 + 1, none⟩ = some (.string l[i].p) ∧ w.cell? ⟨b, off + i * 3 + 2, none⟩ = some (.string l[i].l)
theorem RtsAt.later {w w' : World} {a : Option Addr} {l : List Rt} (h : RtsAt w a l) (hb : Below w.heap.size w w') : RtsAt w' a l :=
  ⟨h.sz, fun i hi => by obtain ⟨b, off, e, h1, h2, h3⟩ := h.cell i hi; exact ⟨b, off, e, cell_later hb h1, cell_later hb h2, cell_later hb h3⟩⟩
theorem rt_at (l : List Rt) (j : Nat) (hj : j < l.length) : l.getD j rt0 = l[j] := by
  rw [List.getD_eq_getElem?_getD, List.getElem?_eq_getElem hj]; rfl
theorem fcell0 {w : World} {j : Nat} {cs : Array Value} {T : TypeId} (h : w.heap[j]? = some (.cells cs T (0, 0))) (f : Nat) (v : Value) (hv : cs[f]? = some v) : w.cell? ⟨j, f, none⟩ = some v := by
  rw [cell_of_row _ _ _ _ _ _ h, hv]
theorem grown_set0 (w : World) (j k : Nat) (v : Value) : w.grownBy (w.setCell ⟨j, k, none⟩ v) (some j) :=
  ⟨rfl, rfl, rfl, by simp [World.setCell], fun i _ hne => heap_setCell_other w ⟨j, k, none⟩ i v (fun e => hne (by rw [e]))⟩
theorem set3 {w : World} {g : Nat} {a b c x y z : Value} {T : TypeId} (h : w.heap[g]? = some (.cells #[a, b, c] T (0, 0))) : (((w.setCell ⟨g, 0, none⟩ x).setCell ⟨g, 1, none⟩ y).setCell ⟨g, 2, none⟩ z).heap[g]? = some (.cells #[x, y, z] T (0, 0)) ∧ w.grownBy (((w.setCell ⟨g, 0, none⟩ x).setCell ⟨g, 1, none⟩ y).setCell ⟨g, 2, none⟩ z) (some g) := by
  have h1 := heap_setCell_same w g 0 #[a, b, c] T x h
  have h2 := heap_setCell_same _ g 1 _ T y h1
  have h3 := heap_setCell_same _ g 2 _ T z h2
  exact ⟨h3, ((grown_set0 w g 0 x).trans (grown_set0 _ g 1 y)).trans (grown_set0 _ g 2 z)⟩
end Go.Proofs.YtjcjleaicjhpeaaGreatDoor
end
/- Plane: targets of one's own. -/
section
namespace Go.Proofs.YtjcjleaicjhpeaaGreatDoor
open Go.ChangeShapes Go.WideShapes Go.ChangeAt Go.RowKit

def tgRow (t : Tg) : List Value := [.string t.1, .float .f64 t.2]
def rowsT (l : List Tg) : List Value := l.flatMap tgRow
theorem rowsT_length (l : List Tg) : (rowsT l).length = l.length * 2 := by
  induction l with
  | nil => rfl
  | cons x xs ih =>
    simp only [rowsT, List.flatMap_cons, List.length_append, List.length_cons] at ih ⊢
    rw [ih, show (tgRow x).length = 2 from rfl]
    omega
theorem rowsT_get : ∀ (xs : List Tg) (i f : Nat) (hi : i < xs.length) (_ : f < 2), (rowsT xs)[i * 2 + f]? = (tgRow xs[i])[f]?
  | [], i, _, hi, _ => by simp at hi
  | x :: xs, 0, f, _, hf => by
    simp only [rowsT, List.flatMap_cons, Nat.zero_mul, Nat.zero_add, List.getElem_cons_zero]
    rw [List.getElem?_append_left (show f < (tgRow x).length from hf)]
  | x :: xs, i + 1, f, hi, hf => by
    have ih := rowsT_get xs i f (by simpa using hi) hf
    simp only [rowsT, List.flatMap_cons, List.getElem_cons_succ] at ih ⊢
    rw [List.getElem?_append_right (by rw [show (tgRow x).length = 2 from rfl]; omega)]
    have e4 : (i + 1) * 2 + f - (tgRow x).length = i * 2 + f := by rw [show (tgRow x).length = 2 from rfl]; omega
    rw [e4]
    exact ih
theorem tg_oneCell (l : List Tg) : ∀ u ∈ rowsT l, u.oneCell' = true := by
  intro u hu
  obtain ⟨t, _, ht⟩ := List.mem_flatMap.1 hu
  simp only [tgRow, List.mem_cons, List.not_mem_nil, or_false] at ht
  rcases ht with rfl | rfl <;> rfl
theorem infoT : (Tryz.prog.info? 70).map (fun i => (i.zero, i.size, i.bytes)) = some (some (.agg #[.string ByteArray.empty, .float .f64 0]), 2, 24) := by kernel_rfl
/-- Targets of one's own. -/
def OwnT (base : Nat) (w : World) (sp : Option Addr) (c : Nat) (l : List Tg) : Prop := w.ownsRow base 70 2 (.slice sp l.length c) l.length (rowsT l)
theorem OwnT.ofNil (base : Nat) (w : World) : OwnT base w none 0 [] := w.ownsRow_nil base 70 2
theorem OwnT.at_ {base : Nat} {w : World} {sp : Option Addr} {c : Nat} {l : List Tg} (h : OwnT base w sp c l) (hl : ∀ t ∈ l, t.2 < 18446744073709551616) : TgsAt w sp l := by
  refine ⟨hl, fun i hi => ?_⟩
  rcases h.2 with ⟨hv, h0⟩ | ⟨g, cap, cur, hv, hb, hg, hle, hmx, hsz, ht⟩
  · omega
  · simp only [Value.slice.injEq] at hv
    obtain ⟨rfl, _, rfl⟩ := hv
    refine ⟨g, 0, rfl, ?_, ?_⟩
    · have hk := rowsT_get l i 0 hi (by omega)
      rw [Nat.zero_add, cell_of_row w g _ cur _ _ hg, ← Array.getElem?_toList]
      have hj : i * 2 + 0 < l.length * 2 := by omega
      rw [← ht, List.getElem?_take, if_pos hj] at hk
      exact hk
    · have hk := rowsT_get l i 1 hi (by omega)
      rw [Nat.zero_add, cell_of_row w g _ cur _ _ hg, ← Array.getElem?_toList]
      have hj : i * 2 + 1 < l.length * 2 := by omega
      rw [← ht, List.getElem?_take, if_pos hj] at hk
      exact hk
theorem run_appendT {base : Nat} {w : World} {sp : Option Addr} {c : Nat} {l : List Tg} (hown : OwnT base w sp c l) (B : Nat) (ys : List Tg) (m : Nat) (hm : ys.length = m) (hB : w.heap[B]? = some (.cells (rowsT ys).toArray 70 (0, 0))) (hn : (l.length + m) * 24 ≤ 140737488355328) (hbase : base ≤ w.heap.size) (ty : TypeId) :
    ∃ sp' c' w', (Builtin.append_ #[31, 31] ty #[.slice sp l.length c, .slice (some ⟨B, 0, none⟩) m m]).run Tryz.prog w = .ok (.slice sp' (l.length + m) c') w' ∧ OwnT base w' sp' c' (l ++ ys) ∧ Below base w w' := by
  obtain ⟨i0, hi, hz0, hz1, hz2⟩ := info_parts infoT
  obtain ⟨v', w', hrun, h1, h2, _, h5⟩ := run_append_own_at (P := Tryz.prog) w base 31 ty 70 i0 _ 2 24 Tryz.underlying31 hi hz0 hz1 hz2 rfl (by omega) _ _ _ hown ⟨B, 0, none⟩ m m (rowsT ys) (by rw [rowsT_length, hm])
    (fun j u hu => by have := World.news_of_block hB j u; simp only at this; exact this hu) (tg_oneCell ys) (by simp only [maxLen]; omega) (by omega) hbase
  have hv : ∃ sp' c', v' = .slice sp' (l.length + m) c' := by
    rcases h1.2 with ⟨hv, h0⟩ | ⟨g, cap, cur, hv, _⟩
    · exact ⟨none, 0, by rw [hv, h0]⟩
    · exact ⟨_, _, hv⟩
  obtain ⟨sp', c', rfl⟩ := hv
  refine ⟨sp', c', w', hrun, ?_, (Below.refl base w).grown h2 hbase (fun g hg => (hown.lt g hg).1)⟩
  unfold OwnT
  rw [List.length_append, hm, show rowsT (l ++ ys) = rowsT l ++ rowsT ys from by simp [rowsT]]
  exact h1
theorem wpList_appendT {w : World} {ops : Array Oper} {rest : List Oper} {o : Oper} {a : Act} {Q : Exit → Act → World → Prop} (hgd : o.guard = none) (s x : Operand)
    (ho : o.op = .call { callee := .builtin .append, args := #[s, x], argTypes := #[31, 31] })
    (base : Nat) (sp : Option Addr) (n c : Nat) (l : List Tg) (hs : a.eval s = .slice sp n c) (hn : l.length = n) (hown : OwnT base w sp c l) (B : Nat) (ys : List Tg) (m : Nat) (hm : ys.length = m) (hx : a.eval x = .slice (some ⟨B, 0, none⟩) m m)
    (hB : w.heap[B]? = some (.cells (rowsT ys).toArray 70 (0, 0))) (hsz : (n + m) * 24 ≤ 140737488355328) (hbase : base ≤ w.heap.size)
    (hk : ∀ sp' c' w', OwnT base w' sp' c' (l ++ ys) → Below base w w' → wpList Tryz.prog ops Q rest (a.put o.dst (.slice sp' (n + m) c')) w') :
    wpList Tryz.prog ops Q (o :: rest) a w := by
  subst hn
  refine wpList_plain hgd fun K hK => ?_
  obtain ⟨sp', c', w', hrun, h1, h2⟩ := run_appendT hown B ys m hm hB hsz hbase o.type
  unfold Oper.wp
  simp [execOp, ho, resolve, invoke, builtin, hs, hx, hrun, Result.andThen]
  exact hK _ _ (hk sp' c' w' h1 h2)
theorem OwnT.below {base : Nat} {w w' : World} {sp : Option Addr} {c : Nat} {l : List Tg} (h : OwnT base w sp c l) (hb : Below w.heap.size w w') : OwnT base w' sp c l := by
  refine ⟨h.1, ?_⟩
  rcases h.2 with hv | ⟨g, cap, cur, hv, hbg, hg, r⟩
  · exact .inl hv
  · exact .inr ⟨g, cap, cur, hv, hbg, (hb.block g (Array.getElem?_eq_some_iff.1 hg).1).trans hg, r⟩
end Go.Proofs.YtjcjleaicjhpeaaGreatDoor
end
/- A slice of bytes that came in, as a list of numbers. -/
section
namespace Go.Proofs.YtjcjleaicjhpeaaGreatDoor
open Go.ChangeShapes Go.WideShapes Go.ChangeAt Go.RowKit

/-- What is told of a slice of integers that came in: it is nil, or it leads to a row of 'cap' cells that hold 'zs'. -/
def IsRow (k : IntKind) (w : World) (a : Option Addr) (len cap : Nat) (zs : List Int) : Prop :=
  (a = none ∧ len = 0 ∧ cap = 0 ∧ zs = []) ∨
  ∃ x, a = some x ∧ len ≤ cap ∧ cap ≤ maxLen ∧ zs.length = cap ∧ (∀ i, i < zs.length → w.cell? (x.add i) = some (.int k (zs.getD i 0))) ∧ ∀ n ∈ zs, (Lit.int k n).wf = true

theorem isRow_bytes {w : World} {a : Option Addr} {len cap : Nat} {zs : List Int} (h : IsRow .u8 w a len cap zs) : ∃ l : List Nat, l.length = len ∧ len ≤ cap ∧ cap ≤ maxLen ∧ cap = zs.length ∧ BytesAt w a l := by
  rcases h with ⟨rfl, rfl, rfl, rfl⟩ | ⟨x, rfl, hl, hm, hz, hcell, hwz⟩
  · exact ⟨[], rfl, Nat.le_refl _, by simp [maxLen], rfl, ⟨by simp, by simp⟩⟩
  · have hbd : ∀ n ∈ zs, 0 ≤ n ∧ n ≤ 255 := fun n hn => bounds_u8 (hwz n hn)
    refine ⟨(zs.take len).map Int.toNat, by simp; omega, hl, hm, hz.symm, ⟨?_, ?_⟩⟩
    · intro c hc
      obtain ⟨n, hn, rfl⟩ := List.mem_map.1 hc
      have := hbd n (List.mem_of_mem_take hn)
      omega
    · intro i hi
      simp only [List.length_map, List.length_take] at hi
      have hiz : i < zs.length := by omega
      have hc := hcell i hiz
      obtain ⟨b, off, spot⟩ := x
      have hspot : spot = none := by simpa [Addr.add] using World.cell?_spot (hcell 0 (by omega))
      subst hspot
      refine ⟨b, off, rfl, ?_⟩
      rw [Addr.add_lit] at hc
      rw [hc]
      have e1 : zs.getD i 0 = zs[i] := by rw [List.getD_eq_getElem?_getD, List.getElem?_eq_getElem hiz]; rfl
      have e2 : ((zs.take len).map Int.toNat).getD i 0 = (zs[i]).toNat := by
        rw [List.getD_eq_getElem?_getD, List.getElem?_map, List.getElem?_take, if_pos (by omega), List.getElem?_eq_getElem hiz]; rfl
      have := hbd zs[i] (List.getElem_mem hiz)
      rw [e1, e2, Int.toNat_of_nonneg this.1]

/-- The bytes of an argument, and how much its reading holds. -/
theorem row8 {H : Type} {enc : TypeId × Value → H} {W : World} {a : Option Addr} {len cap : Nat} {d : DataW H} {p : List MemPlace}
    (h : DataW.Trod enc Tryz.prog W 0 (fun _ => true) true 50 (.slice a len cap) d p) :
    ∃ l : List Nat, l.length = len ∧ len ≤ cap ∧ cap ≤ maxLen ∧ BytesAt W a l ∧ (a = none → cap = 0) ∧ ((d = .nil ∧ cap = 0) ∨ ∃ es sp, d = .slice es sp ∧ es.length + sp.length = cap) := by
  obtain ⟨fuel, hf⟩ := h
  rcases open_ints Tryz.underlying50 Tryz.underlying5 (by kernel_rfl) hf with ⟨hcs, hx⟩ | ⟨x, l, c, zs, hcs, _, hl, hm, hz, hx, hcell, hwz⟩
  · simp [Value.cells] at hcs
    obtain ⟨rfl, rfl, rfl⟩ := hcs
    obtain ⟨k, h1, h2, h3, h4, h5⟩ := isRow_bytes (w := W) (a := none) (len := 0) (cap := 0) (zs := []) (.inl ⟨rfl, rfl, rfl, rfl⟩)
    exact ⟨k, h1, h2, h3, h5, (fun _ => rfl), .inl ⟨(Prod.mk.inj hx).1, rfl⟩⟩
  · simp [Value.cells] at hcs
    obtain ⟨rfl, rfl, rfl⟩ := hcs
    have hz' : zs.length = cap := by simpa using hz
    obtain ⟨k, h1, h2, h3, h4, h5⟩ := isRow_bytes (w := W) (a := some x) (len := len) (cap := cap) (zs := zs) (.inr ⟨_, rfl, hl, hm, hz', hcell, hwz⟩)
    exact ⟨k, h1, h2, h3, h5, (fun h => by cases h), .inr ⟨_, _, (Prod.mk.inj hx).1, by simp [lits]; omega⟩⟩
theorem bytes8 : Tryz.prog.bytesOf 5 = 1 := by kernel_rfl
theorem reach8 {H : Type} {ts : List TypeId} {ds : List (DataW H)} (h : (DataW.weightsEach Tryz.prog ts ds).all (· ≤ reachBytes) = true) {j cap : Nat} {d : DataW H} (ht : ts[j]? = some 50) (hd : ds[j]? = some d)
    (hr : (d = .nil ∧ cap = 0) ∨ ∃ es sp, d = .slice es sp ∧ es.length + sp.length = cap) : cap ≤ 140737488355328 := by
  rcases hr with ⟨_, rfl⟩ | ⟨es, sp, rfl, rfl⟩
  · omega
  · have := sized_slice h ht hd Tryz.underlying50
    rw [bytes8] at this
    have := reachBytes_lt
    omega

theorem u32_nat {n : Int} (h : (Lit.int .u32 n).wf = true) : ∃ m : Nat, n = (m : Int) ∧ m < 4294967296 := by
  have := bounds_u32 h
  exact ⟨n.toNat, by omega, by omega⟩
theorem i64_bounds {n : Int} (h : (Lit.int .i64 n).wf = true) : -9223372036854775808 ≤ n ∧ n ≤ 9223372036854775807 := bounds_i64 h
end Go.Proofs.YtjcjleaicjhpeaaGreatDoor
end
/- Targets, routes and a draw that came in. -/
section
namespace Go.Proofs.YtjcjleaicjhpeaaGreatDoor
open Go.ChangeShapes Go.WideShapes Go.ChangeAt Go.RowKit

theorem f64_lt {n : Nat} (h : (Lit.float .f64 n).wf = true) : n < 18446744073709551616 := by simpa [Lit.wf] using h
theorem u8_nat {n : Int} (h : (Lit.int .u8 n).wf = true) : ∃ m : Nat, n = (m : Int) ∧ m < 256 := by
  have := bounds_u8 h
  exact ⟨n.toNat, by omega, by omega⟩
theorem cells2 {w : World} {a : Addr} {cs : List Value} (h : w.cells? 0 a 2 = some cs) : ∃ v0 v1, cs = [v0, v1] ∧ w.cell? (a.add 0) = some v0 ∧ w.cell? (a.add 1) = some v1 := by
  unfold World.cells? at h
  rw [if_pos (Nat.zero_le _)] at h
  simp only [show List.range 2 = [0, 1] from rfl, List.mapM_cons, List.mapM_nil, Option.bind_eq_bind, Option.bind_eq_some_iff, Option.pure_def, Option.some.injEq] at h
  obtain ⟨v0, h0, r, ⟨v1, h1, r1, rfl, rfl⟩, rfl⟩ := h
  exact ⟨v0, v1, rfl, h0, h1⟩
theorem list2 {α : Type} {l : List α} (h : l.length = 2) : ∃ c0 c1, l = [c0, c1] := by
  match l, h with
  | [c0, c1], _ => exact ⟨c0, c1, rfl⟩
theorem cells3 {w : World} {a : Addr} {cs : List Value} (h : w.cells? 0 a 3 = some cs) : ∃ v0 v1 v2, cs = [v0, v1, v2] ∧ w.cell? (a.add 0) = some v0 ∧ w.cell? (a.add 1) = some v1 ∧ w.cell? (a.add 2) = some v2 := by
  unfold World.cells? at h
  rw [if_pos (Nat.zero_le _)] at h
  simp only [show List.range 3 = [0, 1, 2] from rfl, List.mapM_cons, List.mapM_nil, Option.bind_eq_bind, Option.bind_eq_some_iff, Option.pure_def, Option.some.injEq] at h
  obtain ⟨v0, h0, r, ⟨v1, h1, r1, ⟨v2, h2, r2, rfl, rfl⟩, rfl⟩, rfl⟩ := h
  exact ⟨v0, v1, v2, rfl, h0, h1, h2⟩
theorem list3 {α : Type} {l : List α} (h : l.length = 3) : ∃ c0 c1 c2, l = [c0, c1, c2] := by
  match l, h with
  | [c0, c1, c2], _ => exact ⟨c0, c1, c2, rfl⟩
theorem trod_float0 {H : Type} {enc : TypeId × Value → H} {P : Program} {W : World} {base : Nat} {spare : TypeId → Bool} {held : Bool} {fuel : Nat} {t : TypeId} {cs : List Value} {x : DataW H × List MemPlace} {k : FloatKind} (ht : P.underlying t = some (.float k)) (h : DataW.trod enc P W base spare held fuel t cs = some x) : ∃ n, cs = [.float k n] ∧ (Lit.float k n).wf = true := by
  cases fuel with
  | zero => simp [DataW.trod] at h
  | succ n =>
    unfold DataW.trod at h
    rw [ht] at h
    split at h <;> simp_all
theorem trod_float1 {H : Type} {enc : TypeId × Value → H} {W : World} {n : Nat} {v : Value} {y : DataW H × List MemPlace} (h : DataW.trod enc Tryz.prog W 0 (fun _ => true) true n 68 [v] = some y) : ∃ b, v = .float .f64 b ∧ b < 18446744073709551616 := by
  obtain ⟨b, e, hw⟩ := trod_float0 Tryz.underlying68 h
  simp only [List.cons.injEq, and_true] at e
  exact ⟨b, e, f64_lt hw⟩
set_option maxRecDepth 20000 in
theorem targets_arg {H : Type} {enc : TypeId × Value → H} {W : World} {a : Option Addr} {len cap : Nat} {d : DataW H} {p : List MemPlace}
    (h : DataW.Trod enc Tryz.prog W 0 (fun _ => true) true 31 (.slice a len cap) d p) :
    ∃ es : List Tg, es.length = len ∧ (len ≤ maxLen ∧ len ≤ cap) ∧ TgsAt W a es := by
  obtain ⟨fuel, hf⟩ := h
  have c6 : Tryz.prog.cellsOf 70 = 2 := by kernel_rfl
  rcases Deep.open_slice Tryz.underlying31 hf with ⟨hcs, _⟩ | ⟨x, l, c, m, n, D, Pl, hcs, _, hl, hm, hm', _, hel⟩
  · simp [Value.cells] at hcs
    obtain ⟨rfl, rfl, rfl⟩ := hcs
    exact ⟨[], rfl, ⟨by simp [maxLen], Nat.le_refl _⟩, ⟨by simp, by simp⟩⟩
  · simp [Value.cells] at hcs
    obtain ⟨rfl, rfl, rfl⟩ := hcs
    have hmm : m = cap := by simpa using hm'
    rw [c6] at hel
    have hone : ∀ i, i < len → ∃ (e : Tg), W.cell? ((x.add (i * 2)).add 0) = some (.string e.1) ∧ W.cell? ((x.add (i * 2)).add 1) = some (.float .f64 e.2) ∧ e.2 < 18446744073709551616 := by
      intro i hi
      obtain ⟨cs', h1, h2⟩ := hel i (by omega)
      obtain ⟨v0, v1, rfl, g0, g1⟩ := cells2 h1
      obtain ⟨xs, n', _, _, _, hx, hfs⟩ := DataW.trod_struct Tryz.underlying70 h2
      obtain ⟨y0, y1, rfl⟩ := list2 (show xs.length = 2 from hx)
      obtain ⟨s, e0, _, w0⟩ := DataW.trod_string Tryz.underlying9 (show DataW.trod enc Tryz.prog W 0 (fun _ => true) true n' 9 [v0] = some y0 from hfs 0 _ rfl)
      obtain ⟨b, rfl, hb⟩ := trod_float1 (show DataW.trod enc Tryz.prog W 0 (fun _ => true) true n' 68 [v1] = some y1 from hfs 1 _ rfl)
      simp only [List.cons.injEq, and_true] at e0
      subst e0
      exact ⟨(s, b), g0, g1, hb⟩
    obtain ⟨f, hfp⟩ := Deep.choose_lt (n := len) (p := fun i (e : Tg) => W.cell? ((x.add (i * 2)).add 0) = some (.string e.1) ∧ W.cell? ((x.add (i * 2)).add 1) = some (.float .f64 e.2) ∧ e.2 < 18446744073709551616) (fun i hi => hone i hi)
    refine ⟨(List.range len).map f, by simp, ⟨by omega, by omega⟩, ⟨fun t ht => ?_, fun i hi => ?_⟩⟩
    · obtain ⟨i, hi, rfl⟩ := List.mem_map.1 ht
      exact (hfp i (by simpa using hi)).2.2
    · simp only [List.length_map, List.length_range] at hi
      obtain ⟨h0, h1, _⟩ := hfp i hi
      have e : ((List.range len).map f)[i]'(by simpa using hi) = f i := by simp
      rw [e]
      obtain ⟨b, off, spot⟩ := x
      obtain ⟨h00, _⟩ := hfp 0 (by omega)
      have hspot : spot = none := by simpa [Addr.add] using World.cell?_spot h00
      subst hspot
      simp only [Addr.add_lit] at h0 h1
      exact ⟨b, off, rfl, h0, h1⟩
theorem elemT : Tryz.prog.underlying 31 = some (.slice (Tryz.prog.elem 31)) := by kernel_rfl
theorem sizeOfT (u : World) : (sizeOf (Tryz.prog.elem 31)).run Tryz.prog u = .ok 2 u := by kernel_rfl
theorem TgsAt.take {w : World} {a : Option Addr} {l : List Tg} (h : TgsAt w a l) (k : Nat) : TgsAt w a (l.take k) :=
  ⟨fun t ht => h.lt t (List.mem_of_mem_take ht), fun i hi => by
    rw [List.length_take] at hi
    obtain ⟨b, off, e, h1, h2⟩ := h.cell i (by omega)
    exact ⟨b, off, e, by rw [List.getElem_take]; exact h1, by rw [List.getElem_take]; exact h2⟩⟩
end Go.Proofs.YtjcjleaicjhpeaaGreatDoor
end
