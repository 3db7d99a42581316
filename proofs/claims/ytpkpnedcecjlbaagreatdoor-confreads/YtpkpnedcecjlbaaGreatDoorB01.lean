/- Slices of bytes: what lies in memory, what the walks ask of it. -/
import Derived.Test.YtpkpnedcecjlbaaGreatDoorChecked
import Derived.WalkKit
import Derived.ProofKit
import Derived.OpenShut
import Derived.Below
import Derived.WalkLawsBesides
import Derived.WalkSpells
import Derived.Outline
import Derived.Laws.CopyOwn
import Derived.Laws.IdiomStrings
import Derived.Deep.QuietTactic
import Derived.BigQuiet
import Derived.Deep.AppendLies
import Derived.Laws.BitsAllLaws
import Derived.Laws.AppendOwnNone
import Derived.Maps.AppendAt
import Derived.WalkSmall
section
namespace Go.Proofs.YtpkpnedcecjlbaaGreatDoor
open Go.ChangeShapes Go.WideShapes Go.ChangeAt Go.RowKit

/-- The bytes of a slice as they lie in memory. -/
structure BytesAt (w : World) (a : Option Addr) (l : List Nat) : Prop where
  lt : ∀ c ∈ l, c < 256
  cell : ∀ i, i < l.length → ∃ b off, a = some ⟨b, off, none⟩ ∧ w.cell? ⟨b, off + i, none⟩ = some (.int .u8 ((l.getD i 0 : Nat) : Int))

theorem hide {p : Prop} (h : p) : Hid p := h
theorem unhide {p : Prop} (h : Hid p) : p := h
theorem ret_int {k : IntKind} {a b : Int} (h : a = b) : Ending.returned (.int k a) = .returned (.int k b) := by rw [h]

theorem take_snoc_nat (l : List Nat) (k : Nat) (h : k < l.length) : l.take (k + 1) = l.take k ++ [l.getD k 0] := by
  rw [List.take_succ_eq_append_getElem h, List.getD_eq_getElem?_getD, List.getElem?_eq_getElem h]; rfl
theorem getD_lt {l : List Nat} (h : ∀ c ∈ l, c < 256) (k : Nat) : l.getD k 0 < 256 := by
  rw [List.getD_eq_getElem?_getD]
  by_cases hk : k < l.length
  · rw [List.getElem?_eq_getElem hk]; exact h _ (List.getElem_mem hk)
  · rw [List.getElem?_eq_none (by omega)]; decide

def byteV (c : Nat) : Value := .int .u8 (c : Int)

theorem bytesAt_some {w : World} {a : Option Addr} {l : List Nat} (hb : BytesAt w a l) (h : 0 < l.length) :
    ∃ b off, a = some ⟨b, off, none⟩ ∧ ∀ i, i < l.length → w.cell? ⟨b, off + i, none⟩ = some (.int .u8 ((l.getD i 0 : Nat) : Int)) := by
  obtain ⟨b, off, rfl, _⟩ := hb.cell 0 h
  refine ⟨b, off, rfl, fun i hi => ?_⟩
  obtain ⟨b', off', he, hc⟩ := hb.cell i hi
  simp only [Option.some.injEq, Addr.mk.injEq, and_true] at he
  obtain ⟨rfl, rfl⟩ := he
  exact hc

theorem BytesAt.later {w w' : World} {a : Option Addr} {l : List Nat} (hb : BytesAt w a l) (h : Below w.heap.size w w') : BytesAt w' a l :=
  ⟨hb.lt, fun i hi => by obtain ⟨b, off, rfl, hc⟩ := hb.cell i hi; exact ⟨b, off, rfl, cell_later h hc⟩⟩

theorem BytesAt.drew {w : World} {a : Option Addr} {l : List Nat} (hb : BytesAt w a l) : BytesAt w.drew a l := ⟨hb.lt, hb.cell⟩
theorem bytesAt_block {w : World} {g : Nat} {l : List Nat} {t : TypeId} {fr : Nat × Nat} (h : w.heap[g]? = some (.cells (l.map byteV).toArray t fr)) (hl : ∀ c ∈ l, c < 256) : BytesAt w (some ⟨g, 0, none⟩) l := by
  refine ⟨hl, fun i hi => ⟨g, 0, rfl, ?_⟩⟩
  rw [cell_of_row w g (0 + i) _ t fr h]
  simp only [Nat.zero_add, List.getElem?_toArray, List.getElem?_map, List.getElem?_eq_getElem hi, Option.map_some, List.getD_eq_getElem?_getD, Option.getD_some, byteV]
theorem heap_new (w : World) (o : Obj) : (w.alloc o).heap[w.heap.size]? = some o := by
  show (w.heap.push o)[w.heap.size]? = _
  simp
theorem info8 : (Tryz.prog.info? 5).map (fun i => (i.zero, i.size, i.bytes)) = some (some (.int .u8 0), 1, 1) := by kernel_rfl
theorem size8 : (Tryz.prog.info? 5).map (·.size) = some 1 := by kernel_rfl
def zeros (n : Nat) : List Nat := List.replicate n 0
theorem zeros_length (n : Nat) : (zeros n).length = n := List.length_replicate
/-- make([]byte, n). -/
theorem run_make8 (n : Nat) (hn : n ≤ 281474976710656) (u : World) : (Instr.makeSlice 26 (.int .i64 (n : Int)) (.int .i64 (n : Int))).run Tryz.prog u =
    .ok (.slice (some ⟨u.heap.size, 0, none⟩) n n) (u.alloc (.cells ((zeros n).map byteV).toArray 5)) := by
  obtain ⟨i0, hi, hz0, hz1, hz2⟩ := info_parts info8
  have h := run_make (P := Tryz.prog) u 26 5 i0 (.int .u8 0) Tryz.underlying26 hi hz0 .i64 .i64 (n : Int) (n : Int) (by omega) (Int.le_refl _) (by rw [hz2]; omega) (by omega)
  have e : madeCells #[.int .u8 0] n = ((zeros n).map byteV).toArray := by
    unfold zeros
    apply Array.ext
    · simp [madeCells]
    · intro i h1 h2; simp [madeCells, byteV, Nat.mod_one]
  rw [← e]
  simpa [hz1, Value.cells] using h

theorem map_splice (cur l : List Nat) (off : Nat) : splice (cur.map byteV) off (l.map byteV) = (splice cur off l).map byteV := by
  simp [splice, List.map_take, List.map_drop]
theorem oneCell_bytes (l : List Nat) : ∀ v ∈ l.map byteV, v.oneCell' = true := by
  intro v hv
  obtain ⟨c, _, rfl⟩ := List.mem_map.1 hv
  rfl
theorem cells_of_bytesAt {w : World} {a : Option Addr} {l : List Nat} (hb : BytesAt w a l) (h : 0 < (l.map byteV).length) : ∃ ad, a = some ad ∧ ∀ j v, (l.map byteV)[j]? = some v → w.cell? (ad.add j) = some v := by
  obtain ⟨b, off, rfl, hc⟩ := bytesAt_some hb (by simpa using h)
  refine ⟨_, rfl, fun j v hv => ?_⟩
  rw [List.getElem?_map] at hv
  obtain ⟨x, hx, rfl⟩ := Option.map_eq_some_iff.1 hv
  have hj : j < l.length := (List.getElem?_eq_some_iff.1 hx).1
  have := hc j hj
  rw [List.getD_eq_getElem?_getD, hx] at this
  rw [Addr.add_lit]
  exact this
/-- copy(f[off:], l), f a whole block of bytes of the call's own. -/
theorem wpList_copy8 {w : World} {ops : Array Oper} {rest : List Oper} {o : Oper} {a : Act} {Q : Exit → Act → World → Prop} (hgd : o.guard = none) (d s : Operand)
    (ho : o.op = .call { callee := .builtin .copy, args := #[d, s], argTypes := #[26, 26] })
    (dp sp : Option Addr) (dLen dCap sLen sCap : Nat) (hd : a.eval d = .slice dp dLen dCap) (hs : a.eval s = .slice sp sLen sCap)
    (g off : Nat) (cur : List Nat) (hg : w.heap[g]? = some (.cells (cur.map byteV).toArray 5 (0, 0))) (l : List Nat) (hsl : BytesAt w sp l) (hlen : l.length = sLen) (hle : sLen ≤ dLen)
    (hdp : 0 < sLen → dp = some ⟨g, off, none⟩) (hfit : off + sLen ≤ cur.length)
    (h : ∀ w', Hid (w'.heap[g]? = some (.cells ((splice cur off l).map byteV).toArray 5 (0, 0))) → Below g w w' → wpList Tryz.prog ops Q rest (a.put o.dst (goInt l.length)) w') :
    wpList Tryz.prog ops Q (o :: rest) a w := by
  have hm : Nat.min sLen dLen = sLen := Nat.min_eq_left hle
  refine wpList_copy_splice hgd d s 26 26 ho 5 Tryz.underlying26 size8 dp sp dLen dCap sLen sCap hd hs g off (cur.map byteV) 5 hg (l.map byteV)
    (by rw [List.length_map, hm]; exact hlen) (fun h0 => ⟨hdp (by rw [← hlen]; simpa using h0), cells_of_bytesAt hsl h0⟩) (by rw [List.length_map, List.length_map]; omega) (oneCell_bytes l) g w (Below.refl _ _) (Nat.le_refl _) ?_
  intro w' h1 h2
  rw [map_splice] at h1
  rw [List.length_map]
  exact h w' h1 h2
theorem step_copy8 {w : World} {ops : Array Oper} {o : Oper} {a : Act} {K : Act → World → Prop} {Q : Exit → Act → World → Prop} {E : Prop} (hgd : o.guard = none) (d s : Operand)
    (ho : o.op = .call { callee := .builtin .copy, args := #[d, s], argTypes := #[26, 26] })
    (dp sp : Option Addr) (dLen dCap sLen sCap : Nat) (hd : a.eval d = .slice dp dLen dCap) (hs : a.eval s = .slice sp sLen sCap)
    (g off : Nat) (cur : List Nat) (hg : w.heap[g]? = some (.cells (cur.map byteV).toArray 5 (0, 0))) (l : List Nat) (hsl : BytesAt w sp l) (hlen : l.length = sLen) (hle : sLen ≤ dLen)
    (hdp : 0 < sLen → dp = some ⟨g, off, none⟩) (hfit : off + sLen ≤ cur.length)
    (h : ∀ w', Hid (w'.heap[g]? = some (.cells ((splice cur off l).map byteV).toArray 5 (0, 0))) → Below g w w' → K (a.put o.dst (goInt l.length)) w') :
    if Region.wanted o (yielded ops a.tmps) = true then Oper.wp Tryz.prog o a w K Q else E := by
  have hm : Nat.min sLen dLen = sLen := Nat.min_eq_left hle
  refine step_copy_splice hgd d s 26 26 ho 5 Tryz.underlying26 size8 dp sp dLen dCap sLen sCap hd hs g off (cur.map byteV) 5 hg (l.map byteV)
    (by rw [List.length_map, hm]; exact hlen) (fun h0 => ⟨hdp (by rw [← hlen]; simpa using h0), cells_of_bytesAt hsl h0⟩) (by rw [List.length_map, List.length_map]; omega) (oneCell_bytes l) g w (Below.refl _ _) (Nat.le_refl _) ?_
  intro w' h1 h2
  rw [map_splice] at h1
  rw [List.length_map]
  exact h w' h1 h2

/-- Where b[lo:..] begins. -/
def slp (a : Option Addr) (lo cap : Nat) : Option Addr := if cap = lo then a else a.map (·.add lo)
theorem elem8 : Tryz.prog.underlying 26 = some (.slice (Tryz.prog.elem 26)) := by kernel_rfl
theorem sizeOf8 (u : World) : (sizeOf (Tryz.prog.elem 26)).run Tryz.prog u = .ok 1 u := by kernel_rfl
theorem run_slice_lh8 (a : Option Addr) (len cap lo hi : Nat) (h1 : lo ≤ hi) (h2 : hi ≤ cap) (u : World) :
    (Instr.slice 26 (.slice a len cap) (some (.int .i64 (lo : Int))) (some (.int .i64 (hi : Int))) none).run Tryz.prog u = .ok (.slice (slp a lo cap) (hi - lo) (cap - lo)) u := by
  rw [run_slice_lh (w := u) 26 a len cap elem8 .i64 .i64 (lo : Int) (hi : Int) (by omega) (by omega) (by omega), sizeOf8]
  simp [Result.andThen, sliced, slp]
theorem run_slice_l8 (a : Option Addr) (len cap lo : Nat) (h1 : lo ≤ len) (u : World) :
    (Instr.slice 26 (.slice a len cap) (some (.int .i64 (lo : Int))) none none).run Tryz.prog u = .ok (.slice (slp a lo cap) (len - lo) (cap - lo)) u := by
  rw [run_slice_l (w := u) 26 a len cap elem8 .i64 (lo : Int) (by omega) (by omega), sizeOf8]
  simp [Result.andThen, sliced, slp]
theorem getD_drop (l : List Nat) (lo i : Nat) : (l.drop lo).getD i 0 = l.getD (lo + i) 0 := by
  simp [List.getD_eq_getElem?_getD]
theorem getD_take (l : List Nat) (k i : Nat) (h : i < k) : (l.take k).getD i 0 = l.getD i 0 := by
  rw [List.getD_eq_getElem?_getD, List.getD_eq_getElem?_getD, List.getElem?_take, if_pos h]
theorem BytesAt.drop {w : World} {a : Option Addr} {l : List Nat} (hb : BytesAt w a l) (lo cap : Nat) (hc : l.length ≤ cap) : BytesAt w (slp a lo cap) (l.drop lo) := by
  refine ⟨fun c hc => hb.lt c (List.mem_of_mem_drop hc), fun i hi => ?_⟩
  rw [List.length_drop] at hi
  obtain ⟨b, off, rfl, h⟩ := hb.cell (lo + i) (by omega)
  refine ⟨b, off + lo, ?_, ?_⟩
  · unfold slp; rw [if_neg (by omega)]; simp [Addr.add_lit]
  · rw [getD_drop, Nat.add_assoc]; exact h
theorem BytesAt.take {w : World} {a : Option Addr} {l : List Nat} (hb : BytesAt w a l) (k : Nat) : BytesAt w a (l.take k) := by
  refine ⟨fun c hc => hb.lt c (List.mem_of_mem_take hc), fun i hi => ?_⟩
  rw [List.length_take] at hi
  obtain ⟨b, off, rfl, h⟩ := hb.cell i (by omega)
  exact ⟨b, off, rfl, by rw [getD_take _ _ _ (by omega)]; exact h⟩

/-- Bytes as a string. -/
def strOf (l : List Nat) : ByteArray := ⟨(l.map UInt8.ofNat).toArray⟩
theorem under5 : Tryz.prog.underlying 5 = some (.int .u8) := Tryz.underlying5
theorem run_string8 {w : World} {a : Option Addr} {l : List Nat} (n c : Nat) (hn : l.length = n) (hb : BytesAt w a l) : (convert 26 9 (.slice a n c)).run Tryz.prog w = .ok (.string (strOf l)) w := by
  subst hn
  cases a with
  | none =>
    have hl : l = [] := by
      cases l with
      | nil => rfl
      | cons x r => obtain ⟨b, off, h, _⟩ := hb.cell 0 (by simp); cases h
    subst hl
    rw [run_convert_bytes_string w 26 9 5 none _ c Tryz.underlying26 under5 Tryz.underlying9]
    rfl
  | some x =>
    have hlen : (l.map UInt8.ofNat).length = l.length := by simp
    rw [← hlen]
    apply run_convert_bytes_back w 26 9 5 x c (l.map UInt8.ofNat) Tryz.underlying26 under5 Tryz.underlying9
    intro j hj
    rw [hlen] at hj
    obtain ⟨b, off, h, hc⟩ := hb.cell j hj
    cases h
    rw [Addr.add_lit, hc]
    have hlt := getD_lt hb.lt j
    have e : l.getD j 0 = l[j] := by rw [List.getD_eq_getElem?_getD, List.getElem?_eq_getElem hj]; rfl
    rw [e] at hlt ⊢
    simp only [List.getElem_map, UInt8.toNat_ofNat']
    rw [Nat.mod_eq_of_lt (by simpa using hlt)]


theorem rem_nat (k : Int) (M : Nat) (h0 : 0 < M) (h1 : M ≤ 4611686018427387904) : ∃ N : Nat, wrap64 ((IntKind.u64.wrap k).tmod (M : Int)) = (N : Int) ∧ N < M := by
  have hw : 0 ≤ IntKind.u64.wrap k := wrap_u64_nonneg k
  obtain ⟨u, hu⟩ := Int.eq_ofNat_of_zero_le hw
  rw [hu]
  refine ⟨u % M, ?_, Nat.mod_lt _ h0⟩
  have e : ((u : Int).tmod (M : Int)) = ((u % M : Nat) : Int) := by rw [← Int.ofNat_tmod]
  have := Nat.mod_lt u h0
  rw [e]
  unfold wrap64
  omega
theorem run_slice_h8 (a : Option Addr) (len cap hi : Nat) (h2 : hi ≤ cap) (u : World) :
    (Instr.slice 26 (.slice a len cap) none (some (.int .i64 (hi : Int))) none).run Tryz.prog u = .ok (.slice (slp a 0 cap) hi cap) u := by
  rw [run_slice_h (w := u) 26 a len cap elem8 .i64 (hi : Int) (by omega) (by omega), sizeOf8]
  simp [Result.andThen, sliced, slp]
theorem BytesAt.head {w : World} {a : Option Addr} {l : List Nat} (hb : BytesAt w a l) (cap k : Nat) (hc : l.length ≤ cap) : BytesAt w (slp a 0 cap) (l.take k) := by
  have := (hb.drop 0 cap hc).take k
  rwa [List.drop_zero] at this


theorem grown_refl (w : World) (row : Option Nat) : w.grownBy w row := ⟨rfl, rfl, rfl, Nat.le_refl _, fun _ _ _ => rfl⟩
theorem grown_trans {a b c : World} {row : Option Nat} (h : a.grownBy b row) (k : b.grownBy c row) : a.grownBy c row :=
  ⟨k.os.trans h.os, k.tape.trans h.tape, k.output.trans h.output, Nat.le_trans h.size k.size, fun i hi hne => (k.block i (Nat.lt_of_lt_of_le hi h.size) hne).trans (h.block i hi hne)⟩
theorem grown_below {a b : World} (row : Option Nat) (h : Below a.heap.size a b) : a.grownBy b row := ⟨h.os, h.tape, h.output, h.size, fun i hi _ => h.block i hi⟩
theorem grown_set (w : World) (j k : Nat) (v : Value) : w.grownBy (w.setCell ⟨j, k, none⟩ v) (some j) :=
  ⟨rfl, rfl, rfl, by simp [World.setCell], fun i _ hne => heap_setCell_other w ⟨j, k, none⟩ i v (fun e => hne (by rw [e]))⟩
theorem BytesAt.far {w w' : World} {a : Option Addr} {l : List Nat} {j : Nat} (hb : BytesAt w a l) (hg : w.grownBy w' (some j)) (hne : ∀ b off, a = some ⟨b, off, none⟩ → b ≠ j) : BytesAt w' a l := by
  refine ⟨hb.lt, fun i hi => ?_⟩
  obtain ⟨b, off, h1, h2⟩ := hb.cell i hi
  refine ⟨b, off, h1, ?_⟩
  rw [hg.cell_far ⟨b, off + i, none⟩ (World.block_lt_of_cell? _ _ h2) (by simpa using hne b off h1)]
  exact h2
theorem block_lt {w : World} {a : Option Addr} {l : List Nat} (hb : BytesAt w a l) (h0 : 0 < l.length) : ∀ b off, a = some ⟨b, off, none⟩ → b < w.heap.size := by
  intro b off e
  obtain ⟨b', off', h1, h2⟩ := hb.cell 0 h0
  rw [e] at h1
  simp only [Option.some.injEq, Addr.mk.injEq, and_true] at h1
  have := World.block_lt_of_cell? _ _ h2
  simp only at this
  omega
/-- A block of an argument is older than one that was made since. -/
theorem BytesAt.farOld {w0 w w' : World} {a : Option Addr} {l : List Nat} {j : Nat} (hb0 : BytesAt w0 a l) (hb : BytesAt w a l) (hg : w.grownBy w' (some j)) (hj : w0.heap.size ≤ j) : BytesAt w' a l := by
  rcases Nat.eq_zero_or_pos l.length with h | h
  · obtain rfl : l = [] := List.eq_nil_of_length_eq_zero h
    exact ⟨by simp, by simp⟩
  · exact hb.far hg (fun b off e => by have := block_lt hb0 h b off e; omega)
theorem mem_set8 {l : List Nat} {j y : Nat} (h : ∀ c ∈ l, c < 256) (hy : y < 256) : ∀ c ∈ l.set j y, c < 256 := by
  intro c hc
  rcases List.mem_or_eq_of_mem_set hc with h1 | h1
  · exact h c h1
  · omega
theorem heap_set_row {w : World} {g : Nat} {X : List Nat} (h : w.heap[g]? = some (.cells (X.map byteV).toArray 5 (0, 0))) (k y : Nat) :
    (w.setCell ⟨g, k, none⟩ (.int .u8 (y : Int))).heap[g]? = some (.cells ((X.set k y).map byteV).toArray 5 (0, 0)) := by
  have h1 := heap_setCell_same w g k _ 5 (.int .u8 (y : Int)) h
  have e : ((X.map byteV).toArray.setIfInBounds k (.int .u8 (y : Int))) = ((X.set k y).map byteV).toArray := by
    rw [List.map_set, List.setIfInBounds_toArray]; rfl
  rw [e] at h1
  exact h1
end Go.Proofs.YtpkpnedcecjlbaaGreatDoor
end
/- Slices of bytes that the call itself makes by append: a law for the walk. -/
section
namespace Go.Proofs.YtpkpnedcecjlbaaGreatDoor
open Go.ChangeShapes Go.WideShapes Go.ChangeAt Go.RowKit

/-- A slice of bytes in memory of the call's own, from block 'base' on. -/
structure OwnB (base : Nat) (w : World) (sp : Option Addr) (c : Nat) (l : List Nat) : Prop where
  owns : w.ownsRow base 5 1 (.slice sp l.length c) l.length (l.map byteV)
  lt : ∀ c ∈ l, c < 256

theorem OwnB.bytes {base : Nat} {w : World} {sp : Option Addr} {c : Nat} {l : List Nat} (h : OwnB base w sp c l) : BytesAt w sp l := by
  refine ⟨h.lt, fun i hi => ?_⟩
  rcases h.owns.2 with ⟨hv, h0⟩ | ⟨g, cap, cur, hv, _, hg, _, _, _, ht⟩
  · omega
  · cases hv
    refine ⟨g, 0, rfl, ?_⟩
    rw [cell_of_row w g (0 + i) cur _ _ hg, Nat.zero_add]
    have e : (l.map byteV)[i]? = some (byteV (l.getD i 0)) := by
      rw [List.getElem?_map, List.getElem?_eq_getElem hi, List.getD_eq_getElem?_getD, List.getElem?_eq_getElem hi]; rfl
    rw [← ht, List.getElem?_take, if_pos (by omega)] at e
    rw [← Array.getElem?_toList]
    exact e
theorem OwnB.cap {base : Nat} {w : World} {sp : Option Addr} {c : Nat} {l : List Nat} (h : OwnB base w sp c l) : l.length ≤ c ∧ c ≤ maxLen := by
  rcases h.owns.2 with ⟨hv, h0⟩ | ⟨g, cap, cur, hv, _, hg, h1, h2, _, ht⟩
  · simp only [Value.slice.injEq] at hv
    obtain ⟨_, _, rfl⟩ := hv
    exact ⟨by omega, by simp [maxLen]⟩
  · simp only [Value.slice.injEq] at hv
    obtain ⟨_, _, rfl⟩ := hv
    exact ⟨h1, h2⟩
theorem OwnB.empty (w : World) (base : Nat) (hb : base ≤ w.heap.size) : OwnB base (w.alloc (.cells #[] 5)) (some ⟨w.heap.size, 0, none⟩) 0 [] :=
  ⟨⟨rfl, .inr ⟨w.heap.size, 0, #[], rfl, hb, heap_new _ _, Nat.le_refl _, by simp [maxLen], rfl, rfl⟩⟩, by simp⟩
theorem OwnB.ofNil (w : World) (base : Nat) : OwnB base w none 0 [] := ⟨w.ownsRow_nil base 5 1, by simp⟩
theorem OwnB.later {base : Nat} {w w' : World} {sp : Option Addr} {c : Nat} {l : List Nat} (h : OwnB base w sp c l) (hb : Below w.heap.size w w') : OwnB base w' sp c l := by
  refine ⟨⟨h.owns.1, ?_⟩, h.lt⟩
  rcases h.owns.2 with hv | ⟨g, cap, cur, hv, hbg, hg, r⟩
  · exact .inl hv
  · exact .inr ⟨g, cap, cur, hv, hbg, (hb.block g (Array.getElem?_eq_some_iff.1 hg).1).trans hg, r⟩
theorem OwnB.mono {base base' : Nat} {w : World} {sp : Option Addr} {c : Nat} {l : List Nat} (h : OwnB base w sp c l) (hb : base' ≤ base) : OwnB base' w sp c l := by
  refine ⟨⟨h.owns.1, ?_⟩, h.lt⟩
  rcases h.owns.2 with hv | ⟨g, cap, cur, hv, hbg, r⟩
  · exact .inl hv
  · exact .inr ⟨g, cap, cur, hv, by omega, r⟩
theorem OwnB.ofBlock {base g : Nat} {w : World} {l : List Nat} (hg : w.heap[g]? = some (.cells (l.map byteV).toArray 5 (0, 0))) (hbg : base ≤ g) (hl : ∀ c ∈ l, c < 256) (hm : l.length ≤ maxLen) : OwnB base w (some ⟨g, 0, none⟩) l.length l :=
  ⟨⟨by simp, .inr ⟨g, l.length, (l.map byteV).toArray, rfl, hbg, hg, Nat.le_refl _, hm, by simp, by rw [Nat.mul_one]; exact List.take_of_length_le (by simp)⟩⟩, hl⟩
/-- What an append leaves: a new value, all that lies below 'base' as it was. -/
theorem run_append8 {w : World} (base : Nat) (sp : Option Addr) (c : Nat) (l : List Nat) (hown : OwnB base w sp c l) (xp : Option Addr) (m xc : Nat) (k : List Nat) (hk : k.length = m) (hB : BytesAt w xp k) (hx0 : xp = none → xc = 0)
    (hsz : l.length + m ≤ 140737488355328) (hbase : base ≤ w.heap.size) (ty : TypeId) :
    ∃ sp' c' w', (Builtin.append_ #[26, 26] ty #[.slice sp l.length c, .slice xp m xc]).run Tryz.prog w = .ok (.slice sp' (l ++ k).length c') w' ∧ OwnB base w' sp' c' (l ++ k) ∧ w.grownBy w' (Value.slice sp l.length c).ownBlock ∧ Below base w w' := by
  subst hk
  obtain ⟨i0, hi, hz0, hz1, hz2⟩ := info_parts info8
  have hlt : ∀ c ∈ l ++ k, c < 256 := fun c hc => (List.mem_append.1 hc).elim (hown.lt c) (hB.lt c)
  have hbel : ∀ w', w.grownBy w' (Value.slice sp l.length c).ownBlock → Below base w w' := fun w' hg => (Below.refl base w).grown hg hbase (fun j hj => (hown.owns.lt j hj).1)
  cases xp with
  | none =>
    have hk0 : k = [] := by
      cases k with
      | nil => rfl
      | cons x r => obtain ⟨b, off, h, _⟩ := hB.cell 0 (by simp); cases h
    subst hk0
    rw [hx0 rfl]
    have hrun := run_append_owned_none (P := Tryz.prog) (w := w) base 26 ty 5 i0 1 Tryz.underlying26 hi _ _ _ hown.owns
    refine ⟨sp, c, w, ?_, ?_, ⟨rfl, rfl, rfl, Nat.le_refl _, fun _ _ _ => rfl⟩, Below.refl _ _⟩
    · rw [List.append_nil]; exact hrun
    · rw [List.append_nil]; exact hown
  | some x =>
    obtain ⟨v', w', hrun, h1, h2, _⟩ := run_append_own (P := Tryz.prog) (w := w) base 26 ty 5 i0 (.int .u8 0) 1 1 Tryz.underlying26 hi hz0 hz1 hz2 rfl (by omega) _ _ _ hown.owns x k.length xc (k.map byteV) (by simp)
      (fun j u hu => by
        have h0 : 0 < (k.map byteV).length := by
          rcases Nat.eq_zero_or_pos (k.map byteV).length with h | h
          · rw [List.getElem?_eq_none (by omega)] at hu; cases hu
          · exact h
        obtain ⟨ad, had, hc⟩ := cells_of_bytesAt hB h0
        cases had
        exact hc j u hu) (oneCell_bytes k) (by simp only [maxLen]; omega) (by omega) hbase
    rw [← List.map_append, ← List.length_append] at h1
    have hv : ∃ sp' c', v' = .slice sp' (l ++ k).length c' := by
      rcases h1.2 with ⟨hv, h0⟩ | ⟨g, cap, cur, hv, _⟩
      · exact ⟨none, 0, by rw [hv, h0]⟩
      · exact ⟨_, _, hv⟩
    obtain ⟨sp', c', rfl⟩ := hv
    exact ⟨sp', c', w', hrun, ⟨h1, hlt⟩, h2, hbel w' h2⟩
theorem wpList_append8 {w : World} {ops : Array Oper} {rest : List Oper} {o : Oper} {a : Act} {Q : Exit → Act → World → Prop} (hgd : o.guard = none) (s x : Operand)
    (ho : o.op = .call { callee := .builtin .append, args := #[s, x], argTypes := #[26, 26] })
    (base : Nat) (sp : Option Addr) (n c : Nat) (l : List Nat) (hs : a.eval s = .slice sp n c) (hn : l.length = n) (hown : OwnB base w sp c l)
    (xp : Option Addr) (m xc : Nat) (hx : a.eval x = .slice xp m xc) (k : List Nat) (hk : k.length = m) (hB : BytesAt w xp k) (hx0 : xp = none → xc = 0)
    (hsz : l.length + m ≤ 140737488355328) (hbase : base ≤ w.heap.size)
    (h : ∀ sp' n' c' w', Hid ((l ++ k).length = n') → OwnB base w' sp' c' (l ++ k) → w.grownBy w' (Value.slice sp l.length c).ownBlock → Below base w w' → wpList Tryz.prog ops Q rest (a.put o.dst (.slice sp' n' c')) w') :
    wpList Tryz.prog ops Q (o :: rest) a w := by
  subst hn
  refine wpList_plain hgd fun K hK => ?_
  obtain ⟨sp', c', w', hrun, h1, h2, h3⟩ := run_append8 (w := w) base sp c l hown xp m xc k hk hB hx0 hsz hbase o.type
  unfold Oper.wp
  simp [execOp, ho, resolve, invoke, builtin, hs, hx, hrun, Result.andThen]
  have := hK _ _ (h sp' (l ++ k).length c' w' rfl h1 h2 h3)
  rw [List.length_append] at this
  exact this

theorem OwnB.far {base : Nat} {w w' : World} {sp : Option Addr} {c : Nat} {l : List Nat} {j : Nat} (h : OwnB base w sp c l) (hg : w.grownBy w' (some j)) (hj : j < base) : OwnB base w' sp c l := by
  refine ⟨⟨h.owns.1, ?_⟩, h.lt⟩
  rcases h.owns.2 with hv | ⟨g, cap, cur, hv, hbg, hgg, r⟩
  · exact .inl hv
  · exact .inr ⟨g, cap, cur, hv, hbg, (hg.block g (Array.getElem?_eq_some_iff.1 hgg).1 (fun e => by simp only [Option.some.injEq] at e; omega)).trans hgg, r⟩
/-- The block of a slice. -/
def blk (sp : Option Addr) : Option Nat := sp.map (·.block)
theorem ownBlock_slice (sp : Option Addr) (n c : Nat) : (Value.slice sp n c).ownBlock = blk sp := by cases sp <;> rfl
theorem OwnB.blk_lt {base : Nat} {w : World} {sp : Option Addr} {c : Nat} {l : List Nat} (h : OwnB base w sp c l) : ∀ g, blk sp = some g → base ≤ g ∧ g < w.heap.size := by
  intro g hg
  have := h.owns.lt g (by rw [ownBlock_slice]; exact hg)
  exact this
/-- As run_append8, and where the new slice lies. -/
theorem run_append8L {w : World} (base : Nat) (sp : Option Addr) (c : Nat) (l : List Nat) (hown : OwnB base w sp c l) (xp : Option Addr) (m xc : Nat) (k : List Nat) (hk : k.length = m) (hB : BytesAt w xp k) (hx0 : xp = none → xc = 0)
    (hsz : l.length + m ≤ 140737488355328) (hbase : base ≤ w.heap.size) (ty : TypeId) :
    ∃ sp' c' w', (Builtin.append_ #[26, 26] ty #[.slice sp l.length c, .slice xp m xc]).run Tryz.prog w = .ok (.slice sp' (l ++ k).length c') w' ∧ OwnB base w' sp' c' (l ++ k) ∧ w.grownBy w' (blk sp) ∧ ∀ g, blk sp' = some g → blk sp = some g ∨ w.heap.size ≤ g := by
  subst hk
  obtain ⟨i0, hi, hz0, hz1, hz2⟩ := info_parts info8
  have hlt : ∀ c ∈ l ++ k, c < 256 := fun c hc => (List.mem_append.1 hc).elim (hown.lt c) (hB.lt c)
  cases xp with
  | none =>
    have hk0 : k = [] := by
      cases k with
      | nil => rfl
      | cons x r => obtain ⟨b, off, h, _⟩ := hB.cell 0 (by simp); cases h
    subst hk0
    rw [hx0 rfl]
    have hrun := run_append_owned_none (P := Tryz.prog) (w := w) base 26 ty 5 i0 1 Tryz.underlying26 hi _ _ _ hown.owns
    refine ⟨sp, c, w, ?_, ?_, ⟨rfl, rfl, rfl, Nat.le_refl _, fun _ _ _ => rfl⟩, fun g hg => .inl hg⟩
    · rw [List.append_nil]; exact hrun
    · rw [List.append_nil]; exact hown
  | some x =>
    obtain ⟨v', w', hrun, h1, h2, _, h5⟩ := run_append_own_at (P := Tryz.prog) w base 26 ty 5 i0 (.int .u8 0) 1 1 Tryz.underlying26 hi hz0 hz1 hz2 rfl (by omega) _ _ _ hown.owns x k.length xc (k.map byteV) (by simp)
      (fun j u hu => by
        have h0 : 0 < (k.map byteV).length := by
          rcases Nat.eq_zero_or_pos (k.map byteV).length with h | h
          · rw [List.getElem?_eq_none (by omega)] at hu; cases hu
          · exact h
        obtain ⟨ad, had, hc⟩ := cells_of_bytesAt hB h0
        cases had
        exact hc j u hu) (oneCell_bytes k) (by simp only [maxLen]; omega) (by omega) hbase
    rw [← List.map_append, ← List.length_append] at h1
    have hv : ∃ sp' c', v' = .slice sp' (l ++ k).length c' := by
      rcases h1.2 with ⟨hv, h0⟩ | ⟨g, cap, cur, hv, _⟩
      · exact ⟨none, 0, by rw [hv, h0]⟩
      · exact ⟨_, _, hv⟩
    obtain ⟨sp', c', rfl⟩ := hv
    rw [ownBlock_slice, ownBlock_slice] at h5
    rw [ownBlock_slice] at h2
    refine ⟨sp', c', w', hrun, ⟨h1, hlt⟩, h2, fun g hg => ?_⟩
    rcases h5 with h5 | h5
    · exact .inl (h5.symm.trans hg)
    · rw [h5] at hg
      exact .inr (Nat.le_of_eq (Option.some.inj hg))
theorem wpList_append8L {w : World} {ops : Array Oper} {rest : List Oper} {o : Oper} {a : Act} {Q : Exit → Act → World → Prop} (hgd : o.guard = none) (s x : Operand)
    (ho : o.op = .call { callee := .builtin .append, args := #[s, x], argTypes := #[26, 26] })
    (base : Nat) (sp : Option Addr) (n c : Nat) (l : List Nat) (hs : a.eval s = .slice sp n c) (hn : l.length = n) (hown : OwnB base w sp c l)
    (xp : Option Addr) (m xc : Nat) (hx : a.eval x = .slice xp m xc) (k : List Nat) (hk : k.length = m) (hB : BytesAt w xp k) (hx0 : xp = none → xc = 0)
    (hsz : l.length + m ≤ 140737488355328) (hbase : base ≤ w.heap.size)
    (h : ∀ sp' n' c' w', Hid ((l ++ k).length = n') → OwnB base w' sp' c' (l ++ k) → w.grownBy w' (blk sp) → (∀ g, blk sp' = some g → blk sp = some g ∨ w.heap.size ≤ g) → wpList Tryz.prog ops Q rest (a.put o.dst (.slice sp' n' c')) w') :
    wpList Tryz.prog ops Q (o :: rest) a w := by
  subst hn
  refine wpList_plain hgd fun K hK => ?_
  obtain ⟨sp', c', w', hrun, h1, h2, h3⟩ := run_append8L (w := w) base sp c l hown xp m xc k hk hB hx0 hsz hbase o.type
  unfold Oper.wp
  simp [execOp, ho, resolve, invoke, builtin, hs, hx, hrun, Result.andThen]
  have := hK _ _ (h sp' (l ++ k).length c' w' rfl h1 h2 h3)
  rw [List.length_append] at this
  exact this
theorem step_append8L {w : World} {ops : Array Oper} {o : Oper} {a : Act} {K : Act → World → Prop} {Q : Exit → Act → World → Prop} {E : Prop} (hgd : o.guard = none) (s x : Operand)
    (ho : o.op = .call { callee := .builtin .append, args := #[s, x], argTypes := #[26, 26] })
    (base : Nat) (sp : Option Addr) (n c : Nat) (l : List Nat) (hs : a.eval s = .slice sp n c) (hn : l.length = n) (hown : OwnB base w sp c l)
    (xp : Option Addr) (m xc : Nat) (hx : a.eval x = .slice xp m xc) (k : List Nat) (hk : k.length = m) (hB : BytesAt w xp k) (hx0 : xp = none → xc = 0)
    (hsz : l.length + m ≤ 140737488355328) (hbase : base ≤ w.heap.size)
    (h : ∀ sp' n' c' w', Hid ((l ++ k).length = n') → OwnB base w' sp' c' (l ++ k) → w.grownBy w' (blk sp) → (∀ g, blk sp' = some g → blk sp = some g ∨ w.heap.size ≤ g) → K (a.put o.dst (.slice sp' n' c')) w') :
    if Region.wanted o (yielded ops a.tmps) = true then Oper.wp Tryz.prog o a w K Q else E := by
  subst hn
  have hw : Region.wanted o (yielded ops a.tmps) = true := by simp [Region.wanted, hgd]
  rw [if_pos hw]
  obtain ⟨sp', c', w', hrun, h1, h2, h3⟩ := run_append8L (w := w) base sp c l hown xp m xc k hk hB hx0 hsz hbase o.type
  unfold Oper.wp
  simp [execOp, ho, resolve, invoke, builtin, hs, hx, hrun, Result.andThen]
  have := h sp' (l ++ k).length c' w' rfl h1 h2 h3
  rw [List.length_append] at this
  exact this
/-- One's own slice through steps: what else lay there stays; the slice lies where it lay or in new memory. -/
structure Grew (w : World) (sp : Option Addr) (w' : World) (sp' : Option Addr) : Prop where
  grown : w.grownBy w' (blk sp)
  lies : ∀ g, blk sp' = some g → blk sp = some g ∨ w.heap.size ≤ g
theorem Grew.refl (w : World) (sp : Option Addr) : Grew w sp w sp := ⟨⟨rfl, rfl, rfl, Nat.le_refl _, fun _ _ _ => rfl⟩, fun _ h => .inl h⟩
theorem Grew.trans {w w1 w2 : World} {s s1 s2 : Option Addr} (h : Grew w s w1 s1) (k : Grew w1 s1 w2 s2) : Grew w s w2 s2 := by
  refine ⟨⟨k.grown.os.trans h.grown.os, k.grown.tape.trans h.grown.tape, k.grown.output.trans h.grown.output, Nat.le_trans h.grown.size k.grown.size, fun j hj hne => ?_⟩, fun g hg => ?_⟩
  · refine (k.grown.block j (Nat.lt_of_lt_of_le hj h.grown.size) (fun e => ?_)).trans (h.grown.block j hj hne)
    rcases h.lies j e.symm with h1 | h1
    · exact hne h1.symm
    · omega
  · rcases k.lies g hg with h1 | h1
    · exact h.lies g h1
    · exact .inr (Nat.le_trans h.grown.size h1)
theorem Grew.below {base : Nat} {w w' : World} {sp sp' : Option Addr} {c : Nat} {l : List Nat} (h : Grew w sp w' sp') (ho : OwnB base w sp c l) (hb : base ≤ w.heap.size) : Below base w w' :=
  (Below.refl base w).grown h.grown hb (fun j hj => (ho.blk_lt j hj).1)
/-- What is made aside changes nothing of one's own slice. -/
theorem Grew.aside {w w1 w' : World} {sp sp' : Option Addr} (hb : Below w.heap.size w w1) (h : Grew w1 sp w' sp') : Grew w sp w' sp' :=
  ⟨⟨h.grown.os.trans hb.os, h.grown.tape.trans hb.tape, h.grown.output.trans hb.output, Nat.le_trans hb.size h.grown.size, fun j hj hne => (h.grown.block j (Nat.lt_of_lt_of_le hj hb.size) hne).trans (hb.block j hj)⟩,
   fun g hg => (h.lies g hg).imp id (fun h1 => Nat.le_trans hb.size h1)⟩
theorem Grew.block {w w' : World} {sp sp' : Option Addr} (h : Grew w sp w' sp') {j : Nat} {o : Obj} (hj : w.heap[j]? = some o) (hne : blk sp ≠ some j) : w'.heap[j]? = some o :=
  (h.grown.block j (Array.getElem?_eq_some_iff.1 hj).1 (fun e => hne e.symm)).trans hj
end Go.Proofs.YtpkpnedcecjlbaaGreatDoor
end
