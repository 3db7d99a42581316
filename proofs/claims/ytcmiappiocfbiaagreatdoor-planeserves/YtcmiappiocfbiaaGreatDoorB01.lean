/- Slices of bytes: what lies in memory, what the walks ask of it. -/
import Derived.Test.YtcmiappiocfbiaaGreatDoorChecked
import Derived.WalkKit
import Derived.ProofKit
import Derived.OpenShut
import Derived.Below
import Derived.WalkLawsBesides
import Derived.WalkSpells
import Derived.Outline
import Derived.Laws.CopyOwn
import Derived.Laws.IdiomStrings
import Derived.Deep.QuietTactic
import Derived.BigQuiet
import Derived.Deep.AppendLies
import Derived.Laws.BitsAllLaws
import Derived.Shelf.Strings.Builder1
import Derived.Shelf.Strings.Builder2
import Derived.Shelf.Strings.OnBuilder
import Derived.Shelf.Strings.Trim
import Derived.Shelf.Small.Utf8
import Derived.Shelf.Small.Strs
import Derived.Shelf.Small.Wraps
import Derived.Shelf.Strings.BuilderF
import Derived.Shelf.Strings.BuilderK
import Derived.Shelf.Strings.BuilderRune
import Derived.Shelf.Strings.Search1
import Derived.Shelf.Strings.Search2
import Derived.Shelf.Strings.Search3
import Derived.Shelf.Strings.Cut
import Derived.Shelf.LaysM
import Derived.Shelf.Strings.Shaped
import Derived.Shelf.Strings.Prefix
import Derived.Shelf.Unicode.Latin
import Derived.Shelf.Strings.Runes
import Derived.Shelf.Strings.AsciiSet
import Derived.Shelf.Unicode.DecodeSlow
import Derived.Shelf.Unicode.DecodeAny
import Derived.Shelf.Unicode.CaseLookup
import Derived.Shelf.Unicode.CaseConvert
import Derived.Shelf.Unicode.CaseTo
import Derived.Shelf.Unicode.CaseLaid
import Derived.Shelf.Strings.MapAny
import Derived.Shelf.Strings.CaseAny
import Derived.Shelf.Bytes.SlIndexSmall
import Derived.Shelf.Bytes.SlIndexAt
import Derived.Shelf.Bytes.SlSearch0
import Derived.Shelf.Bytes.SlSearch1
import Derived.Shelf.Bytes.SlSearch2
import Derived.Shelf.Bytes.SlIndexWhole
import Derived.Shelf.Bytes.Small
import Derived.Shelf.Bytes.IndexByte
import Derived.Test.YtcmiappiocfbiaaGreatDoorProg
import Derived.Lib.IndexMore
import Derived.Lib.SlTrimSet
import Derived.Lib.Case
section
namespace Go.Proofs.YtcmiappiocfbiaaGreatDoor
open Go.ChangeShapes Go.WideShapes Go.ChangeAt Go.RowKit

/-- The bytes of a slice as they lie in memory. -/
structure BytesAt (w : World) (a : Option Addr) (l : List Nat) : Prop where
  lt : ∀ c ∈ l, c < 256
  cell : ∀ i, i < l.length → ∃ b off, a = some ⟨b, off, none⟩ ∧ w.cell? ⟨b, off + i, none⟩ = some (.int .u8 ((l.getD i 0 : Nat) : Int))

theorem hide {p : Prop} (h : p) : Hid p := h
theorem unhide {p : Prop} (h : Hid p) : p := h
theorem getD_lt {l : List Nat} (h : ∀ c ∈ l, c < 256) (k : Nat) : l.getD k 0 < 256 := by
  rw [List.getD_eq_getElem?_getD]
  by_cases hk : k < l.length
  · rw [List.getElem?_eq_getElem hk]; exact h _ (List.getElem_mem hk)
  · rw [List.getElem?_eq_none (by omega)]; decide

def byteV (c : Nat) : Value := .int .u8 (c : Int)

theorem bytesAt_some {w : World} {a : Option Addr} {l : List Nat} (hb : BytesAt w a l) (h : 0 < l.length) :
    ∃ b off, a = some ⟨b, off, none⟩ ∧ ∀ i, i < l.length → w.cell? ⟨b, off + i, none⟩ = some (.int .u8 ((l.getD i 0 : Nat) : Int)) := by
  obtain ⟨b, off, rfl, _⟩ := hb.cell 0 h
  refine ⟨b, off, rfl, fun i hi => ?_⟩
  obtain ⟨b', off', he, hc⟩ := hb.cell i hi
  simp only [Option.some.injEq, Addr.mk.injEq, and_true] at he
  obtain ⟨rfl, rfl⟩ := he
  exact hc

theorem BytesAt.later {w w' : World} {a : Option Addr} {l : List Nat} (hb : BytesAt w a l) (h : Below w.heap.size w w') : BytesAt w' a l :=
  ⟨hb.lt, fun i hi => by obtain ⟨b, off, rfl, hc⟩ := hb.cell i hi; exact ⟨b, off, rfl, cell_later h hc⟩⟩

theorem BytesAt.drew {w : World} {a : Option Addr} {l : List Nat} (hb : BytesAt w a l) : BytesAt w.drew a l := ⟨hb.lt, hb.cell⟩
theorem bytesAt_block {w : World} {g : Nat} {l : List Nat} {t : TypeId} {fr : Nat × Nat} (h : w.heap[g]? = some (.cells (l.map byteV).toArray t fr)) (hl : ∀ c ∈ l, c < 256) : BytesAt w (some ⟨g, 0, none⟩) l := by
  refine ⟨hl, fun i hi => ⟨g, 0, rfl, ?_⟩⟩
  rw [cell_of_row w g (0 + i) _ t fr h]
  simp only [Nat.zero_add, List.getElem?_toArray, List.getElem?_map, List.getElem?_eq_getElem hi, Option.map_some, List.getD_eq_getElem?_getD, Option.getD_some, byteV]
theorem heap_new (w : World) (o : Obj) : (w.alloc o).heap[w.heap.size]? = some o := by
  show (w.heap.push o)[w.heap.size]? = _
  simp
theorem info8 : (Tryz.prog.info? 5).map (fun i => (i.zero, i.size, i.bytes)) = some (some (.int .u8 0), 1, 1) := by kernel_rfl
theorem size8 : (Tryz.prog.info? 5).map (·.size) = some 1 := by kernel_rfl
def zeros (n : Nat) : List Nat := List.replicate n 0
/-- make([]byte, n). -/
theorem run_make8 (n : Nat) (hn : n ≤ 281474976710656) (u : World) : (Instr.makeSlice 29 (.int .i64 (n : Int)) (.int .i64 (n : Int))).run Tryz.prog u =
    .ok (.slice (some ⟨u.heap.size, 0, none⟩) n n) (u.alloc (.cells ((zeros n).map byteV).toArray 5)) := by
  obtain ⟨i0, hi, hz0, hz1, hz2⟩ := info_parts info8
  have h := run_make (P := Tryz.prog) u 29 5 i0 (.int .u8 0) Tryz.underlying29 hi hz0 .i64 .i64 (n : Int) (n : Int) (by omega) (Int.le_refl _) (by rw [hz2]; omega) (by omega)
  have e : madeCells #[.int .u8 0] n = ((zeros n).map byteV).toArray := by
    unfold zeros
    apply Array.ext
    · simp [madeCells]
    · intro i h1 h2; simp [madeCells, byteV, Nat.mod_one]
  rw [← e]
  simpa [hz1, Value.cells] using h

theorem map_splice (cur l : List Nat) (off : Nat) : splice (cur.map byteV) off (l.map byteV) = (splice cur off l).map byteV := by
  simp [splice, List.map_take, List.map_drop]
theorem oneCell_bytes (l : List Nat) : ∀ v ∈ l.map byteV, v.oneCell' = true := by
  intro v hv
  obtain ⟨c, _, rfl⟩ := List.mem_map.1 hv
  rfl
theorem cells_of_bytesAt {w : World} {a : Option Addr} {l : List Nat} (hb : BytesAt w a l) (h : 0 < (l.map byteV).length) : ∃ ad, a = some ad ∧ ∀ j v, (l.map byteV)[j]? = some v → w.cell? (ad.add j) = some v := by
  obtain ⟨b, off, rfl, hc⟩ := bytesAt_some hb (by simpa using h)
  refine ⟨_, rfl, fun j v hv => ?_⟩
  rw [List.getElem?_map] at hv
  obtain ⟨x, hx, rfl⟩ := Option.map_eq_some_iff.1 hv
  have hj : j < l.length := (List.getElem?_eq_some_iff.1 hx).1
  have := hc j hj
  rw [List.getD_eq_getElem?_getD, hx] at this
  rw [Addr.add_lit]
  exact this
/-- copy(f[off:], l), f a whole block of bytes of the call's own. -/
theorem wpList_copy8 {w : World} {ops : Array Oper} {rest : List Oper} {o : Oper} {a : Act} {Q : Exit → Act → World → Prop} (hgd : o.guard = none) (d s : Operand)
    (ho : o.op = .call { callee := .builtin .copy, args := #[d, s], argTypes := #[29, 29] })
    (dp sp : Option Addr) (dLen dCap sLen sCap : Nat) (hd : a.eval d = .slice dp dLen dCap) (hs : a.eval s = .slice sp sLen sCap)
    (g off : Nat) (cur : List Nat) (hg : w.heap[g]? = some (.cells (cur.map byteV).toArray 5 (0, 0))) (l : List Nat) (hsl : BytesAt w sp l) (hlen : l.length = sLen) (hle : sLen ≤ dLen)
    (hdp : 0 < sLen → dp = some ⟨g, off, none⟩) (hfit : off + sLen ≤ cur.length)
    (h : ∀ w', Hid (w'.heap[g]? = some (.cells ((splice cur off l).map byteV).toArray 5 (0, 0))) → Below g w w' → wpList Tryz.prog ops Q rest (a.put o.dst (goInt l.length)) w') :
    wpList Tryz.prog ops Q (o :: rest) a w := by
  have hm : Nat.min sLen dLen = sLen := Nat.min_eq_left hle
  refine wpList_copy_splice hgd d s 29 29 ho 5 Tryz.underlying29 size8 dp sp dLen dCap sLen sCap hd hs g off (cur.map byteV) 5 hg (l.map byteV)
    (by rw [List.length_map, hm]; exact hlen) (fun h0 => ⟨hdp (by rw [← hlen]; simpa using h0), cells_of_bytesAt hsl h0⟩) (by rw [List.length_map, List.length_map]; omega) (oneCell_bytes l) g w (Below.refl _ _) (Nat.le_refl _) ?_
  intro w' h1 h2
  rw [map_splice] at h1
  rw [List.length_map]
  exact h w' h1 h2
/-- Where b[lo:..] begins. -/
def slp (a : Option Addr) (lo cap : Nat) : Option Addr := if cap = lo then a else a.map (·.add lo)
theorem elem8 : Tryz.prog.underlying 29 = some (.slice (Tryz.prog.elem 29)) := by kernel_rfl
theorem sizeOf8 (u : World) : (sizeOf (Tryz.prog.elem 29)).run Tryz.prog u = .ok 1 u := by kernel_rfl
theorem getD_drop (l : List Nat) (lo i : Nat) : (l.drop lo).getD i 0 = l.getD (lo + i) 0 := by
  simp [List.getD_eq_getElem?_getD]
theorem getD_take (l : List Nat) (k i : Nat) (h : i < k) : (l.take k).getD i 0 = l.getD i 0 := by
  rw [List.getD_eq_getElem?_getD, List.getD_eq_getElem?_getD, List.getElem?_take, if_pos h]
theorem BytesAt.drop {w : World} {a : Option Addr} {l : List Nat} (hb : BytesAt w a l) (lo cap : Nat) (hc : l.length ≤ cap) : BytesAt w (slp a lo cap) (l.drop lo) := by
  refine ⟨fun c hc => hb.lt c (List.mem_of_mem_drop hc), fun i hi => ?_⟩
  rw [List.length_drop] at hi
  obtain ⟨b, off, rfl, h⟩ := hb.cell (lo + i) (by omega)
  refine ⟨b, off + lo, ?_, ?_⟩
  · unfold slp; rw [if_neg (by omega)]; simp [Addr.add_lit]
  · rw [getD_drop, Nat.add_assoc]; exact h
theorem BytesAt.take {w : World} {a : Option Addr} {l : List Nat} (hb : BytesAt w a l) (k : Nat) : BytesAt w a (l.take k) := by
  refine ⟨fun c hc => hb.lt c (List.mem_of_mem_take hc), fun i hi => ?_⟩
  rw [List.length_take] at hi
  obtain ⟨b, off, rfl, h⟩ := hb.cell i (by omega)
  exact ⟨b, off, rfl, by rw [getD_take _ _ _ (by omega)]; exact h⟩

/-- Bytes as a string. -/
def strOf (l : List Nat) : ByteArray := ⟨(l.map UInt8.ofNat).toArray⟩
theorem under5 : Tryz.prog.underlying 5 = some (.int .u8) := Tryz.underlying5
theorem run_string8 {w : World} {a : Option Addr} {l : List Nat} (n c : Nat) (hn : l.length = n) (hb : BytesAt w a l) : (convert 29 9 (.slice a n c)).run Tryz.prog w = .ok (.string (strOf l)) w := by
  subst hn
  cases a with
  | none =>
    have hl : l = [] := by
      cases l with
      | nil => rfl
      | cons x r => obtain ⟨b, off, h, _⟩ := hb.cell 0 (by simp); cases h
    subst hl
    rw [run_convert_bytes_string w 29 9 5 none _ c Tryz.underlying29 under5 Tryz.underlying9]
    rfl
  | some x =>
    have hlen : (l.map UInt8.ofNat).length = l.length := by simp
    rw [← hlen]
    apply run_convert_bytes_back w 29 9 5 x c (l.map UInt8.ofNat) Tryz.underlying29 under5 Tryz.underlying9
    intro j hj
    rw [hlen] at hj
    obtain ⟨b, off, h, hc⟩ := hb.cell j hj
    cases h
    rw [Addr.add_lit, hc]
    have hlt := getD_lt hb.lt j
    have e : l.getD j 0 = l[j] := by rw [List.getD_eq_getElem?_getD, List.getElem?_eq_getElem hj]; rfl
    rw [e] at hlt ⊢
    simp only [List.getElem_map, UInt8.toNat_ofNat']
    rw [Nat.mod_eq_of_lt (by simpa using hlt)]


theorem run_slice_h8 (a : Option Addr) (len cap hi : Nat) (h2 : hi ≤ cap) (u : World) :
    (Instr.slice 29 (.slice a len cap) none (some (.int .i64 (hi : Int))) none).run Tryz.prog u = .ok (.slice (slp a 0 cap) hi cap) u := by
  rw [run_slice_h (w := u) 29 a len cap elem8 .i64 (hi : Int) (by omega) (by omega), sizeOf8]
  simp [Result.andThen, sliced, slp]
theorem BytesAt.head {w : World} {a : Option Addr} {l : List Nat} (hb : BytesAt w a l) (cap k : Nat) (hc : l.length ≤ cap) : BytesAt w (slp a 0 cap) (l.take k) := by
  have := (hb.drop 0 cap hc).take k
  rwa [List.drop_zero] at this


theorem grown_refl (w : World) (row : Option Nat) : w.grownBy w row := ⟨rfl, rfl, rfl, Nat.le_refl _, fun _ _ _ => rfl⟩
theorem BytesAt.far {w w' : World} {a : Option Addr} {l : List Nat} {j : Nat} (hb : BytesAt w a l) (hg : w.grownBy w' (some j)) (hne : ∀ b off, a = some ⟨b, off, none⟩ → b ≠ j) : BytesAt w' a l := by
  refine ⟨hb.lt, fun i hi => ?_⟩
  obtain ⟨b, off, h1, h2⟩ := hb.cell i hi
  refine ⟨b, off, h1, ?_⟩
  rw [hg.cell_far ⟨b, off + i, none⟩ (World.block_lt_of_cell? _ _ h2) (by simpa using hne b off h1)]
  exact h2
theorem block_lt {w : World} {a : Option Addr} {l : List Nat} (hb : BytesAt w a l) (h0 : 0 < l.length) : ∀ b off, a = some ⟨b, off, none⟩ → b < w.heap.size := by
  intro b off e
  obtain ⟨b', off', h1, h2⟩ := hb.cell 0 h0
  rw [e] at h1
  simp only [Option.some.injEq, Addr.mk.injEq, and_true] at h1
  have := World.block_lt_of_cell? _ _ h2
  simp only at this
  omega
/-- A block of an argument is older than one that was made since. -/
theorem BytesAt.farOld {w0 w w' : World} {a : Option Addr} {l : List Nat} {j : Nat} (hb0 : BytesAt w0 a l) (hb : BytesAt w a l) (hg : w.grownBy w' (some j)) (hj : w0.heap.size ≤ j) : BytesAt w' a l := by
  rcases Nat.eq_zero_or_pos l.length with h | h
  · obtain rfl : l = [] := List.eq_nil_of_length_eq_zero h
    exact ⟨by simp, by simp⟩
  · exact hb.far hg (fun b off e => by have := block_lt hb0 h b off e; omega)
end Go.Proofs.YtcmiappiocfbiaaGreatDoor
end
/- Contracts of the library's functions at this program's numbers. -/
section
namespace Go.Proofs
open Go.Shelf
def Tryz.lays159_ren : Go.Shelf.Ren := ⟨fun | 159 => 81 | 165 => 97 | 166 => 98 | 167 => 99 | 169 => 100 | 230 => 101 | 204 => 102 | 240 => 114 | 241 => 115 | 197 => 111 | 118 => 116 | 168 => 117 | 270 => 118 | 262 => 119 | 276 => 127 | 277 => 128 | 260 => 124 | 242 => 129 | 313 => 130 | 278 => 134 | 274 => 135 | 275 => 136 | n => n, fun | 9 => 9 | 4 => 4 | 3 => 3 | 5 => 5 | 72 => 130 | 0 => 0 | 76 => 134 | 75 => 133 | 107 => 139 | 70 => 128 | 20 => 20 | 37 => 29 | 127 => 146 | 21 => 21 | 105 => 143 | 164 => 153 | 162 => 159 | 203 => 157 | 119 => 161 | 46 => 107 | 139 => 164 | 138 => 163 | 51 => 114 | 160 => 166 | 208 => 172 | 206 => 170 | 80 => 137 | n => n, fun | 13 => 2 | 3 => 3 | 4 => 4 | n => n⟩
theorem Tryz.lays159 : Go.Proofs.Lays.n159 Tryz.prog Tryz.lays159_ren := {
  mixed := by kernel_rfl
  f118 := Tryz.func116.trans (congrArg some (by kernel_rfl))
  f159 := Tryz.func81.trans (congrArg some (by kernel_rfl))
  f165 := Tryz.func97.trans (congrArg some (by kernel_rfl))
  f166 := Tryz.func98.trans (congrArg some (by kernel_rfl))
  f167 := Tryz.func99.trans (congrArg some (by kernel_rfl))
  f168 := Tryz.func117.trans (congrArg some (by kernel_rfl))
  f169 := Tryz.func100.trans (congrArg some (by kernel_rfl))
  f197 := Tryz.func111.trans (congrArg some (by kernel_rfl))
  f204 := Tryz.func102.trans (congrArg some (by kernel_rfl))
  f230 := Tryz.func101.trans (congrArg some (by kernel_rfl))
  f240 := Tryz.func114.trans (congrArg some (by kernel_rfl))
  f241 := Tryz.func115.trans (congrArg some (by kernel_rfl))
  f242 := Tryz.func129.trans (congrArg some (by kernel_rfl))
  f260 := Tryz.func124.trans (congrArg some (by kernel_rfl))
  f262 := Tryz.func119.trans (congrArg some (by kernel_rfl))
  f270 := Tryz.func118.trans (congrArg some (by kernel_rfl))
  f274 := Tryz.func135.trans (congrArg some (by kernel_rfl))
  f275 := Tryz.func136.trans (congrArg some (by kernel_rfl))
  f276 := Tryz.func127.trans (congrArg some (by kernel_rfl))
  f277 := Tryz.func128.trans (congrArg some (by kernel_rfl))
  f278 := Tryz.func134.trans (congrArg some (by kernel_rfl))
  f313 := Tryz.func130.trans (congrArg some (by kernel_rfl))
  t0 := Tryz.underlying0
  a0 := Tryz.isAgg0
  z0 := Tryz.sizeOf0
  v0 := Tryz.zeroValue0
  t3 := Tryz.underlying3
  a3 := Tryz.isAgg3
  z3 := Tryz.sizeOf3
  v3 := Tryz.zeroValue3
  t4 := Tryz.underlying4
  a4 := Tryz.isAgg4
  z4 := Tryz.sizeOf4
  v4 := Tryz.zeroValue4
  t5 := Tryz.underlying5
  a5 := Tryz.isAgg5
  z5 := Tryz.sizeOf5
  v5 := Tryz.zeroValue5
  t9 := Tryz.underlying9
  a9 := Tryz.isAgg9
  z9 := Tryz.sizeOf9
  v9 := Tryz.zeroValue9
  t20 := Tryz.underlying20
  a20 := Tryz.isAgg20
  z20 := Tryz.sizeOf20
  v20 := Tryz.zeroValue20
  t21 := Tryz.underlying21
  a21 := Tryz.isAgg21
  z21 := Tryz.sizeOf21
  v21 := Tryz.zeroValue21
  t37 := Tryz.underlying29
  a37 := Tryz.isAgg29
  z37 := Tryz.sizeOf29
  v37 := Tryz.zeroValue29
  t46 := Tryz.underlying107
  a46 := Tryz.isAgg107
  z46 := Tryz.sizeOf107
  v46 := Tryz.zeroValue107
  t51 := Tryz.underlying114
  a51 := Tryz.isAgg114
  z51 := Tryz.sizeOf114
  v51 := Tryz.zeroValue114
  t70 := Tryz.underlying128
  a70 := Tryz.isAgg128
  z70 := Tryz.sizeOf128
  v70 := Tryz.zeroValue128
  t72 := Tryz.underlying130
  a72 := Tryz.isAgg130
  z72 := Tryz.sizeOf130
  v72 := Tryz.zeroValue130
  t75 := Tryz.underlying133
  a75 := Tryz.isAgg133
  z75 := Tryz.sizeOf133
  v75 := Tryz.zeroValue133
  t76 := Tryz.underlying134
  a76 := Tryz.isAgg134
  z76 := Tryz.sizeOf134
  v76 := Tryz.zeroValue134
  t105 := Tryz.underlying143
  a105 := Tryz.isAgg143
  z105 := Tryz.sizeOf143
  v105 := Tryz.zeroValue143
  t107 := Tryz.underlying139
  a107 := Tryz.isAgg139
  z107 := Tryz.sizeOf139
  v107 := Tryz.zeroValue139
  t119 := Tryz.underlying161
  a119 := Tryz.isAgg161
  z119 := Tryz.sizeOf161
  t127 := Tryz.underlying146
  a127 := Tryz.isAgg146
  z127 := Tryz.sizeOf146
  v127 := Tryz.zeroValue146
  t138 := Tryz.underlying163
  a138 := Tryz.isAgg163
  z138 := Tryz.sizeOf163
  v138 := Tryz.zeroValue163
  t139 := Tryz.underlying164
  a139 := Tryz.isAgg164
  z139 := Tryz.sizeOf164
  v139 := Tryz.zeroValue164
  t160 := Tryz.underlying166
  a160 := Tryz.isAgg166
  z160 := Tryz.sizeOf166
  v160 := Tryz.zeroValue166
  t162 := Tryz.underlying159
  a162 := Tryz.isAgg159
  z162 := Tryz.sizeOf159
  v162 := Tryz.zeroValue159
  t164 := Tryz.underlying153
  a164 := Tryz.isAgg153
  z164 := Tryz.sizeOf153
  v164 := Tryz.zeroValue153
  t203 := Tryz.underlying157
  a203 := Tryz.isAgg157
  z203 := Tryz.sizeOf157
  v203 := Tryz.zeroValue157
  t206 := Tryz.underlying170
  a206 := Tryz.isAgg170
  z206 := Tryz.sizeOf170
  v206 := Tryz.zeroValue170
  t208 := Tryz.underlying172
  a208 := Tryz.isAgg172
  z208 := Tryz.sizeOf172
  v208 := Tryz.zeroValue172
  g3 := by kernel_rfl
  g4 := by kernel_rfl
  g13 := by kernel_rfl }
theorem Tryz.Builder_Extra_159 : Builder.Extra Tryz.prog Tryz.lays159_ren := {
  sizeBuilder := by kernel_rfl
  liesBuilder := by kernel_rfl
  t5 := Tryz.underlying5
  a5 := Tryz.isAgg5
  z5 := Tryz.sizeOf5
  v5 := Tryz.zeroValue5
  infoByte := by kernel_rfl
  cellsByte := by kernel_rfl
  sizeByte := by kernel_rfl
  neB5 := by decide }
open Go.RowKit in
theorem Tryz.strings_ToLower_ascii (s : ByteArray) (w : World) (hs : s.size ≤ 140737488355328) (hascii : ∀ (j : Nat) (b : UInt8), s.data.toList[j]? = some b → b.toNat < 128) :
    Calls Tryz.prog 81 #[.string s] w fun e w' => e = .returned (.string ⟨(Lib.toLowerA s.data.toList).toArray⟩) ∧ Below w.heap.size w w' := Any.strings_ToLower_ascii Tryz.lays159 Tryz.Builder_Extra_159 s w hs hascii
def Tryz.lays160_ren : Go.Shelf.Ren := ⟨fun | 160 => 80 | 232 => 91 | 231 => 90 | 227 => 92 | 234 => 94 | 233 => 93 | 236 => 96 | 235 => 95 | 228 => 110 | 271 => 113 | 151 => 112 | 197 => 111 | 120 => 126 | 152 => 125 | 260 => 124 | 137 => 132 | 119 => 133 | 224 => 64 | 225 => 105 | 217 => 104 | 266 => 121 | n => n, fun | 9 => 9 | 4 => 4 | 3 => 3 | 5 => 5 | 117 => 124 | 116 => 123 | 0 => 0 | 124 => 127 | 21 => 21 | 105 => 143 | 46 => 107 | 119 => 161 | 139 => 164 | 138 => 163 | n => n, fun | 3 => 3 | 4 => 4 | n => n⟩
theorem Tryz.lays160 : Go.Proofs.Lays.n160 Tryz.prog Tryz.lays160_ren := {
  mixed := by kernel_rfl
  f119 := Tryz.func133.trans (congrArg some (by kernel_rfl))
  f120 := Tryz.func126.trans (congrArg some (by kernel_rfl))
  f137 := Tryz.func132.trans (congrArg some (by kernel_rfl))
  f151 := Tryz.func112.trans (congrArg some (by kernel_rfl))
  f152 := Tryz.func125.trans (congrArg some (by kernel_rfl))
  f160 := Tryz.func80.trans (congrArg some (by kernel_rfl))
  f197 := Tryz.func111.trans (congrArg some (by kernel_rfl))
  f217 := Tryz.func104.trans (congrArg some (by kernel_rfl))
  f224 := Tryz.func64.trans (congrArg some (by kernel_rfl))
  f225 := Tryz.func105.trans (congrArg some (by kernel_rfl))
  f227 := Tryz.func92.trans (congrArg some (by kernel_rfl))
  f228 := Tryz.func110.trans (congrArg some (by kernel_rfl))
  f231 := Tryz.func90.trans (congrArg some (by kernel_rfl))
  f232 := Tryz.func91.trans (congrArg some (by kernel_rfl))
  f233 := Tryz.func93.trans (congrArg some (by kernel_rfl))
  f234 := Tryz.func94.trans (congrArg some (by kernel_rfl))
  f235 := Tryz.func95.trans (congrArg some (by kernel_rfl))
  f236 := Tryz.func96.trans (congrArg some (by kernel_rfl))
  f260 := Tryz.func124.trans (congrArg some (by kernel_rfl))
  f266 := Tryz.func121.trans (congrArg some (by kernel_rfl))
  f271 := Tryz.func113.trans (congrArg some (by kernel_rfl))
  t0 := Tryz.underlying0
  a0 := Tryz.isAgg0
  z0 := Tryz.sizeOf0
  v0 := Tryz.zeroValue0
  t3 := Tryz.underlying3
  a3 := Tryz.isAgg3
  z3 := Tryz.sizeOf3
  v3 := Tryz.zeroValue3
  t4 := Tryz.underlying4
  a4 := Tryz.isAgg4
  z4 := Tryz.sizeOf4
  v4 := Tryz.zeroValue4
  t5 := Tryz.underlying5
  a5 := Tryz.isAgg5
  z5 := Tryz.sizeOf5
  v5 := Tryz.zeroValue5
  t9 := Tryz.underlying9
  a9 := Tryz.isAgg9
  z9 := Tryz.sizeOf9
  v9 := Tryz.zeroValue9
  t21 := Tryz.underlying21
  a21 := Tryz.isAgg21
  z21 := Tryz.sizeOf21
  v21 := Tryz.zeroValue21
  t46 := Tryz.underlying107
  a46 := Tryz.isAgg107
  z46 := Tryz.sizeOf107
  v46 := Tryz.zeroValue107
  t105 := Tryz.underlying143
  a105 := Tryz.isAgg143
  z105 := Tryz.sizeOf143
  v105 := Tryz.zeroValue143
  t116 := Tryz.underlying123
  a116 := Tryz.isAgg123
  z116 := Tryz.sizeOf123
  t117 := Tryz.underlying124
  a117 := Tryz.isAgg124
  z117 := Tryz.sizeOf124
  v117 := Tryz.zeroValue124
  t119 := Tryz.underlying161
  a119 := Tryz.isAgg161
  z119 := Tryz.sizeOf161
  t124 := Tryz.underlying127
  a124 := Tryz.isAgg127
  z124 := Tryz.sizeOf127
  v124 := Tryz.zeroValue127
  t138 := Tryz.underlying163
  a138 := Tryz.isAgg163
  z138 := Tryz.sizeOf163
  v138 := Tryz.zeroValue163
  t139 := Tryz.underlying164
  a139 := Tryz.isAgg164
  z139 := Tryz.sizeOf164
  v139 := Tryz.zeroValue164
  g3 := by kernel_rfl
  g4 := by kernel_rfl }
def Tryz.lays119_ren : Go.Shelf.Ren := ⟨fun | 119 => 133 | n => n, fun | 21 => 21 | 4 => 4 | n => n, fun | n => n⟩
theorem Tryz.lays119 : Go.Proofs.Lays.n119 Tryz.prog Tryz.lays119_ren := {
  mixed := by kernel_rfl
  f119 := Tryz.func133.trans (congrArg some (by kernel_rfl))
  t4 := Tryz.underlying4
  a4 := Tryz.isAgg4
  z4 := Tryz.sizeOf4
  v4 := Tryz.zeroValue4
  t21 := Tryz.underlying21
  a21 := Tryz.isAgg21
  z21 := Tryz.sizeOf21
  v21 := Tryz.zeroValue21 }
theorem Tryz.utf8_ValidRune (r : Int) (w : World) :
    Calls Tryz.prog 133 #[.int .i32 r] w fun e w' => e = .returned (.bool (Lib.validRune r)) ∧ w' = w := Any.utf8_ValidRune Tryz.lays119 r w
def Tryz.lays137_ren : Go.Shelf.Ren := ⟨fun | 137 => 132 | 217 => 104 | 266 => 121 | n => n, fun | 9 => 9 | 5 => 5 | 3 => 3 | n => n, fun | n => n⟩
theorem Tryz.lays137 : Go.Proofs.Lays.n137 Tryz.prog Tryz.lays137_ren := {
  mixed := by kernel_rfl
  f137 := Tryz.func132.trans (congrArg some (by kernel_rfl))
  f217 := Tryz.func104.trans (congrArg some (by kernel_rfl))
  f266 := Tryz.func121.trans (congrArg some (by kernel_rfl))
  t3 := Tryz.underlying3
  a3 := Tryz.isAgg3
  z3 := Tryz.sizeOf3
  v3 := Tryz.zeroValue3
  t5 := Tryz.underlying5
  a5 := Tryz.isAgg5
  z5 := Tryz.sizeOf5
  v5 := Tryz.zeroValue5
  t9 := Tryz.underlying9
  a9 := Tryz.isAgg9
  z9 := Tryz.sizeOf9
  v9 := Tryz.zeroValue9 }
open Go.RowKit in
theorem Tryz.strings_IndexByte (s : ByteArray) (c : Int) (w : World) :
    Calls Tryz.prog 132 #[.string s, .int .u8 c] w fun e w' => e = .returned (.int .i64 (Lib.indexByte s.data.toList c.toNat.toUInt8)) ∧ w' = w := Any.strings_IndexByte Tryz.lays137 s c w
def Tryz.lays103_ren : Go.Shelf.Ren := ⟨fun | 103 => 59 | 210 => 73 | 206 => 84 | n => n, fun | 9 => 9 | 4 => 4 | 24 => 87 | 3 => 3 | n => n, fun | n => n⟩
theorem Tryz.lays103 : Go.Proofs.Lays.n103 Tryz.prog Tryz.lays103_ren := {
  mixed := by kernel_rfl
  f103 := Tryz.func59.trans (congrArg some (by kernel_rfl))
  f206 := Tryz.func84.trans (congrArg some (by kernel_rfl))
  f210 := Tryz.func73.trans (congrArg some (by kernel_rfl))
  t3 := Tryz.underlying3
  a3 := Tryz.isAgg3
  z3 := Tryz.sizeOf3
  v3 := Tryz.zeroValue3
  t4 := Tryz.underlying4
  a4 := Tryz.isAgg4
  z4 := Tryz.sizeOf4
  v4 := Tryz.zeroValue4
  t9 := Tryz.underlying9
  a9 := Tryz.isAgg9
  z9 := Tryz.sizeOf9
  v9 := Tryz.zeroValue9
  t24 := Tryz.underlying87
  a24 := Tryz.isAgg87
  z24 := Tryz.sizeOf87
  v24 := Tryz.zeroValue87 }
open Go.RowKit in
theorem Tryz.strings_CutPrefix (s p : ByteArray) (w : World) :
    Calls Tryz.prog 59 #[.string s, .string p] w fun e w' => e = .returned (.tuple #[.string ⟨(Lib.trimPrefix s.data.toList p.data.toList).toArray⟩, .bool (Lib.hasPrefix s.data.toList p.data.toList)]) ∧ w' = w := Any.strings_CutPrefix Tryz.lays103 s p w
def Tryz.lays219_ren : Go.Shelf.Ren := ⟨fun | 219 => 85 | 217 => 104 | 225 => 105 | 224 => 64 | 267 => 106 | 266 => 121 | 314 => 122 | n => n, fun | 9 => 9 | 3 => 3 | 4 => 4 | 5 => 5 | 46 => 107 | 146 => 115 | 51 => 114 | n => n, fun | 1 => 1 | n => n⟩
theorem Tryz.lays219 : Go.Proofs.Lays.n219 Tryz.prog Tryz.lays219_ren := {
  mixed := by kernel_rfl
  f217 := Tryz.func104.trans (congrArg some (by kernel_rfl))
  f219 := Tryz.func85.trans (congrArg some (by kernel_rfl))
  f224 := Tryz.func64.trans (congrArg some (by kernel_rfl))
  f225 := Tryz.func105.trans (congrArg some (by kernel_rfl))
  f266 := Tryz.func121.trans (congrArg some (by kernel_rfl))
  f267 := Tryz.func106.trans (congrArg some (by kernel_rfl))
  f314 := Tryz.func122.trans (congrArg some (by kernel_rfl))
  t3 := Tryz.underlying3
  a3 := Tryz.isAgg3
  z3 := Tryz.sizeOf3
  v3 := Tryz.zeroValue3
  t4 := Tryz.underlying4
  a4 := Tryz.isAgg4
  z4 := Tryz.sizeOf4
  v4 := Tryz.zeroValue4
  t5 := Tryz.underlying5
  a5 := Tryz.isAgg5
  z5 := Tryz.sizeOf5
  v5 := Tryz.zeroValue5
  t9 := Tryz.underlying9
  a9 := Tryz.isAgg9
  z9 := Tryz.sizeOf9
  v9 := Tryz.zeroValue9
  t46 := Tryz.underlying107
  a46 := Tryz.isAgg107
  z46 := Tryz.sizeOf107
  v46 := Tryz.zeroValue107
  t51 := Tryz.underlying114
  a51 := Tryz.isAgg114
  z51 := Tryz.sizeOf114
  v51 := Tryz.zeroValue114
  t146 := Tryz.underlying115
  a146 := Tryz.isAgg115
  z146 := Tryz.sizeOf115
  v146 := Tryz.zeroValue115
  g1 := by kernel_rfl }
open Go.RowKit Go.Lib in
theorem Tryz.stringslite_Index_one (s : ByteArray) (c : UInt8) (w : World) :
    Calls Tryz.prog 85 #[.string s, .string ⟨#[c]⟩] w fun e w' => e = .returned (.int .i64 (Lib.indexByte s.data.toList c)) ∧ w' = w := Any.stringslite_Index_one Tryz.lays219 s c w
def Tryz.lays143_ren : Go.Shelf.Ren := ⟨fun | 143 => 88 | 219 => 85 | 217 => 104 | 225 => 105 | 224 => 64 | 267 => 106 | 266 => 121 | 314 => 122 | n => n, fun | 9 => 9 | 3 => 3 | 4 => 4 | 5 => 5 | 46 => 107 | 146 => 115 | 51 => 114 | n => n, fun | 1 => 1 | n => n⟩
theorem Tryz.lays143 : Go.Proofs.Lays.n143 Tryz.prog Tryz.lays143_ren := {
  mixed := by kernel_rfl
  f143 := Tryz.func88.trans (congrArg some (by kernel_rfl))
  f217 := Tryz.func104.trans (congrArg some (by kernel_rfl))
  f219 := Tryz.func85.trans (congrArg some (by kernel_rfl))
  f224 := Tryz.func64.trans (congrArg some (by kernel_rfl))
  f225 := Tryz.func105.trans (congrArg some (by kernel_rfl))
  f266 := Tryz.func121.trans (congrArg some (by kernel_rfl))
  f267 := Tryz.func106.trans (congrArg some (by kernel_rfl))
  f314 := Tryz.func122.trans (congrArg some (by kernel_rfl))
  t3 := Tryz.underlying3
  a3 := Tryz.isAgg3
  z3 := Tryz.sizeOf3
  v3 := Tryz.zeroValue3
  t4 := Tryz.underlying4
  a4 := Tryz.isAgg4
  z4 := Tryz.sizeOf4
  v4 := Tryz.zeroValue4
  t5 := Tryz.underlying5
  a5 := Tryz.isAgg5
  z5 := Tryz.sizeOf5
  v5 := Tryz.zeroValue5
  t9 := Tryz.underlying9
  a9 := Tryz.isAgg9
  z9 := Tryz.sizeOf9
  v9 := Tryz.zeroValue9
  t46 := Tryz.underlying107
  a46 := Tryz.isAgg107
  z46 := Tryz.sizeOf107
  v46 := Tryz.zeroValue107
  t51 := Tryz.underlying114
  a51 := Tryz.isAgg114
  z51 := Tryz.sizeOf114
  v51 := Tryz.zeroValue114
  t146 := Tryz.underlying115
  a146 := Tryz.isAgg115
  z146 := Tryz.sizeOf115
  v146 := Tryz.zeroValue115
  g1 := by kernel_rfl }
open Go.RowKit Go.Lib in
theorem Tryz.strings_Index_one (s : ByteArray) (c : UInt8) (w : World) :
    Calls Tryz.prog 88 #[.string s, .string ⟨#[c]⟩] w fun e w' => e = .returned (.int .i64 (Lib.indexByte s.data.toList c)) ∧ w' = w := Any.strings_Index_one Tryz.lays143 s c w
def Tryz.lays145_ren : Go.Shelf.Ren := ⟨fun | 145 => 66 | 220 => 77 | 219 => 85 | 217 => 104 | 225 => 105 | 224 => 64 | 267 => 106 | 266 => 121 | 314 => 122 | n => n, fun | 9 => 9 | 4 => 4 | 59 => 81 | 3 => 3 | 5 => 5 | 46 => 107 | 146 => 115 | 51 => 114 | n => n, fun | 1 => 1 | n => n⟩
theorem Tryz.lays145 : Go.Proofs.Lays.n145 Tryz.prog Tryz.lays145_ren := {
  mixed := by kernel_rfl
  f145 := Tryz.func66.trans (congrArg some (by kernel_rfl))
  f217 := Tryz.func104.trans (congrArg some (by kernel_rfl))
  f219 := Tryz.func85.trans (congrArg some (by kernel_rfl))
  f220 := Tryz.func77.trans (congrArg some (by kernel_rfl))
  f224 := Tryz.func64.trans (congrArg some (by kernel_rfl))
  f225 := Tryz.func105.trans (congrArg some (by kernel_rfl))
  f266 := Tryz.func121.trans (congrArg some (by kernel_rfl))
  f267 := Tryz.func106.trans (congrArg some (by kernel_rfl))
  f314 := Tryz.func122.trans (congrArg some (by kernel_rfl))
  t3 := Tryz.underlying3
  a3 := Tryz.isAgg3
  z3 := Tryz.sizeOf3
  v3 := Tryz.zeroValue3
  t4 := Tryz.underlying4
  a4 := Tryz.isAgg4
  z4 := Tryz.sizeOf4
  v4 := Tryz.zeroValue4
  t5 := Tryz.underlying5
  a5 := Tryz.isAgg5
  z5 := Tryz.sizeOf5
  v5 := Tryz.zeroValue5
  t9 := Tryz.underlying9
  a9 := Tryz.isAgg9
  z9 := Tryz.sizeOf9
  v9 := Tryz.zeroValue9
  t46 := Tryz.underlying107
  a46 := Tryz.isAgg107
  z46 := Tryz.sizeOf107
  v46 := Tryz.zeroValue107
  t51 := Tryz.underlying114
  a51 := Tryz.isAgg114
  z51 := Tryz.sizeOf114
  v51 := Tryz.zeroValue114
  t59 := Tryz.underlying81
  a59 := Tryz.isAgg81
  z59 := Tryz.sizeOf81
  v59 := Tryz.zeroValue81
  t146 := Tryz.underlying115
  a146 := Tryz.isAgg115
  z146 := Tryz.sizeOf115
  v146 := Tryz.zeroValue115
  g1 := by kernel_rfl }
open Go.RowKit Go.Lib in
theorem Tryz.strings_Cut (s sep : ByteArray) (m : Int) (w : World) (hs : s.size < 4294967281) (hm : w.cell? ⟨1, 0, none⟩ = some (.int .i64 m)) :
    Calls Tryz.prog 66 #[.string s, .string sep] w fun e w' => e = .returned (.tuple #[.string ⟨(Lib.cut s.data.toList sep.data.toList).1.toArray⟩, .string ⟨(Lib.cut s.data.toList sep.data.toList).2.1.toArray⟩, .bool (Lib.cut s.data.toList sep.data.toList).2.2]) ∧ ∃ n, w' = w.drewN n := Any.strings_Cut Tryz.lays145 s sep m w hs hm
def Tryz.lays99_ren : Go.Shelf.Ren := ⟨fun | 99 => 108 | 206 => 84 | n => n, fun | 9 => 9 | 4 => 4 | 3 => 3 | n => n, fun | n => n⟩
theorem Tryz.lays99 : Go.Proofs.Lays.n99 Tryz.prog Tryz.lays99_ren := {
  mixed := by kernel_rfl
  f99 := Tryz.func108.trans (congrArg some (by kernel_rfl))
  f206 := Tryz.func84.trans (congrArg some (by kernel_rfl))
  t3 := Tryz.underlying3
  a3 := Tryz.isAgg3
  z3 := Tryz.sizeOf3
  v3 := Tryz.zeroValue3
  t4 := Tryz.underlying4
  a4 := Tryz.isAgg4
  z4 := Tryz.sizeOf4
  v4 := Tryz.zeroValue4
  t9 := Tryz.underlying9
  a9 := Tryz.isAgg9
  z9 := Tryz.sizeOf9
  v9 := Tryz.zeroValue9 }
open Go.RowKit Go.Lib in
theorem Tryz.strings_HasPrefix (s p : ByteArray) (w : World) :
    Calls Tryz.prog 108 #[.string s, .string p] w fun e w' => e = .returned (.bool (Lib.hasPrefix s.data.toList p.data.toList)) ∧ w' = w := Any.strings_HasPrefix Tryz.lays99 s p w
def Tryz.lays151_ren : Go.Shelf.Ren := ⟨fun | 151 => 112 | 152 => 125 | 137 => 132 | 119 => 133 | 224 => 64 | 225 => 105 | 217 => 104 | 266 => 121 | n => n, fun | 9 => 9 | 21 => 21 | 4 => 4 | 3 => 3 | 5 => 5 | 0 => 0 | 46 => 107 | n => n, fun | n => n⟩
theorem Tryz.lays151 : Go.Proofs.Lays.n151 Tryz.prog Tryz.lays151_ren := {
  mixed := by kernel_rfl
  f119 := Tryz.func133.trans (congrArg some (by kernel_rfl))
  f137 := Tryz.func132.trans (congrArg some (by kernel_rfl))
  f151 := Tryz.func112.trans (congrArg some (by kernel_rfl))
  f152 := Tryz.func125.trans (congrArg some (by kernel_rfl))
  f217 := Tryz.func104.trans (congrArg some (by kernel_rfl))
  f224 := Tryz.func64.trans (congrArg some (by kernel_rfl))
  f225 := Tryz.func105.trans (congrArg some (by kernel_rfl))
  f266 := Tryz.func121.trans (congrArg some (by kernel_rfl))
  t0 := Tryz.underlying0
  a0 := Tryz.isAgg0
  z0 := Tryz.sizeOf0
  v0 := Tryz.zeroValue0
  t3 := Tryz.underlying3
  a3 := Tryz.isAgg3
  z3 := Tryz.sizeOf3
  v3 := Tryz.zeroValue3
  t4 := Tryz.underlying4
  a4 := Tryz.isAgg4
  z4 := Tryz.sizeOf4
  v4 := Tryz.zeroValue4
  t5 := Tryz.underlying5
  a5 := Tryz.isAgg5
  z5 := Tryz.sizeOf5
  v5 := Tryz.zeroValue5
  t9 := Tryz.underlying9
  a9 := Tryz.isAgg9
  z9 := Tryz.sizeOf9
  v9 := Tryz.zeroValue9
  t21 := Tryz.underlying21
  a21 := Tryz.isAgg21
  z21 := Tryz.sizeOf21
  v21 := Tryz.zeroValue21
  t46 := Tryz.underlying107
  a46 := Tryz.isAgg107
  z46 := Tryz.sizeOf107
  v46 := Tryz.zeroValue107 }
open Go.RowKit Go.Lib in
theorem Tryz.strings_ContainsRune_ascii (s : ByteArray) (r : Int) (w : World) (h0 : 0 ≤ r) (h1 : r < 128) :
    Calls Tryz.prog 112 #[.string s, .int .i32 r] w fun e w' => e = .returned (.bool (decide (0 ≤ Lib.indexByte s.data.toList r.toNat.toUInt8))) ∧ w' = w := Any.strings_ContainsRune_ascii Tryz.lays151 s r w h0 h1
def Tryz.lays185_ren : Go.Shelf.Ren := ⟨fun | 185 => 50 | 187 => 61 | 115 => 62 | 253 => 63 | 224 => 64 | 254 => 65 | 255 => 75 | 291 => 76 | n => n, fun | 37 => 29 | 3 => 3 | 4 => 4 | 0 => 0 | 5 => 5 | 46 => 107 | 9 => 9 | 146 => 115 | 51 => 114 | n => n, fun | 1 => 1 | n => n⟩
theorem Tryz.lays185 : Go.Proofs.Lays.n185 Tryz.prog Tryz.lays185_ren := {
  mixed := by kernel_rfl
  f115 := Tryz.func62.trans (congrArg some (by kernel_rfl))
  f185 := Tryz.func50.trans (congrArg some (by kernel_rfl))
  f187 := Tryz.func61.trans (congrArg some (by kernel_rfl))
  f224 := Tryz.func64.trans (congrArg some (by kernel_rfl))
  f253 := Tryz.func63.trans (congrArg some (by kernel_rfl))
  f254 := Tryz.func65.trans (congrArg some (by kernel_rfl))
  f255 := Tryz.func75.trans (congrArg some (by kernel_rfl))
  f291 := Tryz.func76.trans (congrArg some (by kernel_rfl))
  t0 := Tryz.underlying0
  a0 := Tryz.isAgg0
  z0 := Tryz.sizeOf0
  v0 := Tryz.zeroValue0
  t3 := Tryz.underlying3
  a3 := Tryz.isAgg3
  z3 := Tryz.sizeOf3
  v3 := Tryz.zeroValue3
  t4 := Tryz.underlying4
  a4 := Tryz.isAgg4
  z4 := Tryz.sizeOf4
  v4 := Tryz.zeroValue4
  t5 := Tryz.underlying5
  a5 := Tryz.isAgg5
  z5 := Tryz.sizeOf5
  v5 := Tryz.zeroValue5
  t9 := Tryz.underlying9
  a9 := Tryz.isAgg9
  z9 := Tryz.sizeOf9
  v9 := Tryz.zeroValue9
  t37 := Tryz.underlying29
  a37 := Tryz.isAgg29
  z37 := Tryz.sizeOf29
  v37 := Tryz.zeroValue29
  t46 := Tryz.underlying107
  a46 := Tryz.isAgg107
  z46 := Tryz.sizeOf107
  v46 := Tryz.zeroValue107
  t51 := Tryz.underlying114
  a51 := Tryz.isAgg114
  z51 := Tryz.sizeOf114
  v51 := Tryz.zeroValue114
  t146 := Tryz.underlying115
  a146 := Tryz.isAgg115
  z146 := Tryz.sizeOf115
  v146 := Tryz.zeroValue115
  g1 := by kernel_rfl }
end Go.Proofs
end
/- Heads, in plain words: kinds of bytes, texts that are cut at others, hosts, fields, and what a head's bytes say. -/
section
namespace Go.Proofs.YtcmiappiocfbiaaGreatDoor

abbrev Tx := List UInt8
/-- What a letter may stand in: 1 port, 2 escape, 4 part of a host, 8 token, 16 path, 32 query, 64 value. -/
def kindsN (c : Nat) : Nat :=
  if c = 35 ∨ c = 37 ∨ c = 94 ∨ c = 96 ∨ c = 124 then 72
  else if 48 ≤ c ∧ c ≤ 57 then 127
  else if (97 ≤ c ∧ c ≤ 102) ∨ (65 ≤ c ∧ c ≤ 70) then 126
  else if (97 ≤ c ∧ c ≤ 122) ∨ (65 ≤ c ∧ c ≤ 90) ∨ c = 45 then 124
  else if c = 33 ∨ c = 36 ∨ c = 38 ∨ c = 39 ∨ c = 42 ∨ c = 43 ∨ c = 46 ∨ c = 95 ∨ c = 126 then 120
  else if c = 47 ∨ c = 40 ∨ c = 41 ∨ c = 44 ∨ c = 59 ∨ c = 61 ∨ c = 58 ∨ c = 64 then 112
  else if c = 63 then 96
  else if c = 9 ∨ (32 ≤ c ∧ c ≤ 126) ∨ 127 < c then 64
  else 0
theorem kindsN_lt (c : Nat) : kindsN c < 128 := by
  unfold kindsN
  repeat' split
  all_goals omega
theorem kindsN_high (c : Nat) (h : 127 < c) : kindsN c = 64 := by
  unfold kindsN
  rw [if_neg (by omega), if_neg (by omega), if_neg (by omega), if_neg (by omega), if_neg (by omega), if_neg (by omega), if_neg (by omega), if_pos (by omega)]
def isK (k : Nat) (b : UInt8) : Bool := (kindsN b.toNat &&& k) != 0
def allK (k : Nat) (l : Tx) : Bool := l.all (isK k)
def isTokenL (l : Tx) : Bool := !l.isEmpty && allK 8 l
def escL : Tx → Bool
  | a :: b :: _ => isK 2 a && isK 2 b
  | _ => false
def okAt (k : Nat) (c : UInt8) (t : Tx) : Bool := if c = 37 then escL t else isK k c
def allEsc (k : Nat) : Tx → Bool
  | [] => true
  | c :: t => okAt k c t && allEsc k t
def isPathL (l : Tx) : Bool := [47].isPrefixOf l && allEsc 16 l
def isQueryL (l : Tx) : Bool := allEsc 32 l
def trimB (l : Tx) : Tx := Lib.trimS l [9, 32]
def isValueL (l : Tx) : Bool := allK 64 l && (l == trimB l)
def hostGo : Bool → Tx → Bool
  | begun, [] => begun
  | begun, c :: t => if c = 46 then begun && hostGo false t else isK 4 c && hostGo true t
def isHostL (l : Tx) : Bool := decide (l.length ≤ 64) && hostGo false l
def lowL (l : Tx) : Tx := Lib.toLowerA l

/-- A text ahead of the first place where another one stands, and what stands behind that. -/
def cutL (sep : Tx) : Tx → Tx × Option Tx
  | [] => ([], none)
  | c :: t => if sep.isPrefixOf (c :: t) then ([], some ((c :: t).drop sep.length)) else (c :: (cutL sep t).1, (cutL sep t).2)
def behindL (sep l : Tx) : Tx := (cutL sep l).2.getD []
theorem cutL_none {sep l : Tx} (h : (cutL sep l).2 = none) : (cutL sep l).1 = l := by
  induction l with
  | nil => rfl
  | cons c t ih =>
    unfold cutL at h ⊢
    split at h
    · cases h
    · rename_i hp; rw [if_neg hp]; simp only at h ⊢; rw [ih h]
theorem cutL_some {sep l b : Tx} (h : (cutL sep l).2 = some b) : l = (cutL sep l).1 ++ (sep ++ b) := by
  induction l with
  | nil => cases h
  | cons c t ih =>
    unfold cutL at h ⊢
    split at h
    · rename_i hp
      rw [if_pos hp]
      simp only [Option.some.injEq] at h
      subst h
      obtain ⟨r, hr⟩ := List.isPrefixOf_iff_prefix.1 hp
      simp only [List.nil_append]
      rw [← hr, List.drop_left]
    · rename_i hp
      rw [if_neg hp]
      simp only at h ⊢
      rw [List.cons_append, ← ih h]
theorem index_cutL {sep l : Tx} (hs : sep ≠ []) : Lib.index l sep = match (cutL sep l).2 with | none => -1 | some _ => ((cutL sep l).1.length : Int) := by
  induction l with
  | nil => cases sep with
    | nil => exact absurd rfl hs
    | cons a b => rfl
  | cons c t ih =>
    unfold Lib.index cutL
    by_cases hp : sep.isPrefixOf (c :: t) = true
    · rw [if_pos hp, if_pos hp]; rfl
    · rw [if_neg hp, if_neg hp, ih]
      cases h : (cutL sep t).2 with
      | none => simp
      | some b => simp only [List.length_cons]; rw [if_neg (by simp)]; omega
theorem index_cut0 {sep l : Tx} (hs : sep ≠ []) (h : (cutL sep l).2 = none) : Lib.index l sep = -1 := by rw [index_cutL hs, h]
theorem index_cut1 {sep l b : Tx} (hs : sep ≠ []) (h : (cutL sep l).2 = some b) : Lib.index l sep = ((cutL sep l).1.length : Int) := by rw [index_cutL hs, h]
theorem cut_is {sep l : Tx} (hs : sep ≠ []) : Lib.cut l sep = ((cutL sep l).1, behindL sep l, (cutL sep l).2.isSome) := by
  unfold Lib.cut behindL
  cases h : (cutL sep l).2 with
  | none => rw [index_cut0 hs h, if_neg (by decide), cutL_none h]; rfl
  | some b =>
    rw [index_cut1 hs h, if_pos (by omega)]
    have hb := cutL_some h
    have e : ((cutL sep l).1.length : Int).toNat = (cutL sep l).1.length := by omega
    rw [e]
    clear e h hs
    generalize (cutL sep l).1 = a at *
    subst hb
    refine Prod.ext ?_ (Prod.ext ?_ rfl)
    · show List.take _ _ = a
      rw [List.take_left]
    · show List.drop _ _ = b
      rw [← List.append_assoc, ← List.length_append, List.drop_left]
theorem cutL_len {sep l : Tx} : (cutL sep l).1.length ≤ l.length := by
  induction l with
  | nil => exact Nat.le_refl _
  | cons c t ih => unfold cutL; split <;> simp; omega
theorem behindL_len {sep l : Tx} : (behindL sep l).length ≤ l.length := by
  unfold behindL
  cases h : (cutL sep l).2 with
  | none => simp
  | some b => have := congrArg List.length (cutL_some h); simp at this; simp; omega
theorem behindL_lt {sep l : Tx} (hs : sep ≠ []) (hl : l ≠ []) : (behindL sep l).length < l.length := by
  unfold behindL
  cases h : (cutL sep l).2 with
  | none => simp; exact List.length_pos_iff.2 hl
  | some b =>
    have := congrArg List.length (cutL_some h)
    have : 0 < sep.length := List.length_pos_iff.2 hs
    simp at *; omega

/-- A host's text. -/
def hostL (s : Tx) : Option Tx :=
  if 5 < (behindL [58] s).length || !allK 1 (behindL [58] s) || !isHostL (cutL [58] s).1 then none else some (lowL (cutL [58] s).1)
structure Fd where
  name : Tx
  value : Tx
deriving DecidableEq
structure Hd where
  method : Tx
  path : Tx
  query : Tx
  host : Tx
  fields : List Fd
deriving DecidableEq
def httpL : Tx := [104, 116, 116, 112, 58, 47, 47]
/-- A target's path, query and host (none: an empty one). -/
def targetL (t : Tx) : Option (Tx × Tx × Tx) :=
  if !isQueryL (behindL [63] t) then none
  else if httpL.isPrefixOf (cutL [63] t).1 then
    let far := (cutL [63] t).1.drop 7
    let text := (cutL [47] far).1
    let path := match (cutL [47] far).2 with | none => [47] | some b => 47 :: b
    match hostL text with
    | none => none
    | some h => if isPathL path then some (path, behindL [63] t, h) else none
  else if isPathL (cutL [63] t).1 then some ((cutL [63] t).1, behindL [63] t, []) else none
def versionL : Tx := [72, 84, 84, 80, 47, 49, 46, 49]
def requestL (line : Tx) : Option (Tx × Tx × Tx × Tx) :=
  match targetL (cutL [32] (behindL [32] line)).1 with
  | none => none
  | some (p, q, h) => if isTokenL (cutL [32] line).1 && behindL [32] (behindL [32] line) == versionL then some ((cutL [32] line).1, p, q, h) else none
def fieldL (line : Tx) : Option Fd :=
  if (cutL [58] line).2.isSome && isTokenL (cutL [58] line).1 && isValueL (trimB (behindL [58] line)) then some ⟨lowL (cutL [58] line).1, trimB (behindL [58] line)⟩ else none
def crlf : Tx := [13, 10]
def fieldsL : Nat → Tx → Option (List Fd)
  | 0, _ => some []
  | n + 1, rest => if rest = [] then some [] else match fieldL (cutL crlf rest).1 with
    | none => none
    | some f => (fieldsL n (behindL crlf rest)).map (f :: ·)
def hostName : Tx := [104, 111, 115, 116]
def hostsOf (l : List Fd) : List Fd := l.filter (fun f => f.name == hostName)
def hostOfL (l : List Fd) : Option Tx := match hostsOf l with
  | [f] => hostL f.value
  | _ => none
def readL (text : Tx) : Option Hd :=
  match requestL (cutL crlf text).1 with
  | none => none
  | some (m, p, q, h) => match fieldsL text.length (behindL crlf text) with
    | none => none
    | some fs => match hostOfL fs with
      | none => none
      | some x => some ⟨m, p, q, if h = [] then x else h, fs⟩
inductive Got where
  | ok (h : Hd) (at_ : Nat)
  | bad (e : Nat)
deriving DecidableEq
def eShort : Nat := 3
def eLimit : Nat := 6
def eForm : Nat := 4
def parseL (b : Tx) : Got :=
  match (cutL (crlf ++ crlf) (b.take 2048)).2 with
  | none => if b.length < 2048 then .bad eShort else .bad eLimit
  | some _ => match readL ((cutL (crlf ++ crlf) (b.take 2048)).1 ++ crlf) with
    | none => .bad eForm
    | some h => if 32 < h.fields.length then .bad eLimit else .ok h ((cutL (crlf ++ crlf) (b.take 2048)).1.length + 4)
end Go.Proofs.YtcmiappiocfbiaaGreatDoor
end
