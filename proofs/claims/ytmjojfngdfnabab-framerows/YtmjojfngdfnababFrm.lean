/- The contracts of frame.word, frame.wordOf, frame.frameSum, frame.Frame. -/
import Derived.Test.YtmjojfngdfnababExt
import Derived.Laws.CopyOwn
import Derived.Deep.QuietTactic
import Derived.BigQuiet
namespace Go.Proofs.Ytmjojfngdfnabab
open Go.ChangeShapes Go.WideShapes Go.ChangeAt Go.RowKit

/-- A number as four bytes, the highest first. -/
def word4 (n : Nat) : List Nat := [n / 16777216, n / 65536 % 256, n / 256 % 256, n % 256]
theorem word4_lt (n : Nat) (hn : n < 4294967296) : ∀ c ∈ word4 n, c < 256 := by
  intro c hc
  simp only [word4, List.mem_cons, List.not_mem_nil, or_false] at hc
  omega
theorem word4_length (n : Nat) : (word4 n).length = 4 := by simp [word4]
def byteV (c : Nat) : Value := .int .u8 (c : Int)

set_option maxHeartbeats 400000 in
theorem word_calls (n : Nat) (w : World) (hn : n < 4294967296) :
    Calls Try.prog 18 #[.int .u32 (n : Int)] w fun e w' => ∃ b0 b1 b2 b3 : Nat, e = .returned (.agg #[.int .u8 (b0 : Int), .int .u8 (b1 : Int), .int .u8 (b2 : Int), .int .u8 (b3 : Int)]) ∧ Below w.heap.size w w' ∧ Hid (word4 n = [b0, b1, b2, b3]) := by
  go_enter Try.func18, Try.ntmps18
  go_wp2
  refine bodyPost_ret (v := .agg #[.int .u8 ((n : Int) / 16777216), .int .u8 ((n : Int) / 65536 % 256), .int .u8 ((n : Int) / 256 % 256), .int .u8 ((n : Int) % 256)]) (by simp [results, Try.results18, go_sem]) rfl ?_
  exact ⟨n / 16777216, n / 65536 % 256, n / 256 % 256, n % 256, rfl, (Below.refl _ _).alloc (Nat.le_refl _) _, rfl⟩

/-- Four bytes as a number. -/
def num4 (l : List Nat) : Nat := l.getD 0 0 * 16777216 + l.getD 1 0 * 65536 + l.getD 2 0 * 256 + l.getD 3 0

theorem bytesAt_some {w : World} {a : Option Addr} {l : List Nat} (hb : BytesAt w a l) (h : 0 < l.length) :
    ∃ b off, a = some ⟨b, off, none⟩ ∧ ∀ i, i < l.length → w.cell? ⟨b, off + i, none⟩ = some (.int .u8 ((l.getD i 0 : Nat) : Int)) := by
  obtain ⟨b, off, rfl, _⟩ := hb.cell 0 h
  refine ⟨b, off, rfl, fun i hi => ?_⟩
  obtain ⟨b', off', he, hc⟩ := hb.cell i hi
  simp only [Option.some.injEq, Addr.mk.injEq, and_true] at he
  obtain ⟨rfl, rfl⟩ := he
  exact hc

theorem or4 (x0 x1 x2 x3 : Nat) (l0 : x0 < 256) (l1 : x1 < 256) (l2 : x2 < 256) (l3 : x3 < 256) :
    bits .or .u32 (bits .or .u32 (bits .or .u32 ((x0 : Int) * 16777216) ((x1 : Int) * 65536)) ((x2 : Int) * 256)) (x3 : Int) = ((x0 * 16777216 + x1 * 65536 + x2 * 256 + x3 : Nat) : Int) := by
  have e0 : ((x0 : Int) * 16777216) = ((x0 * 16777216 : Nat) : Int) := by omega
  have e1 : ((x1 : Int) * 65536) = ((x1 * 65536 : Nat) : Int) := by omega
  have e2 : ((x2 : Int) * 256) = ((x2 * 256 : Nat) : Int) := by omega
  rw [e0, e1, e2, u32_or_nat _ _ (by omega) (by omega), nat_join 24 (x0 * 16777216) (x1 * 65536) (by omega) (by omega),
    u32_or_nat _ _ (by omega) (by omega), nat_join 16 _ (x2 * 256) (by omega) (by omega),
    u32_or_nat _ _ (by omega) (by omega), nat_join 8 _ x3 (by omega) (by omega)]

set_option maxHeartbeats 400000 in
theorem wordOf_calls (a : Option Addr) (c : Nat) (l : List Nat) (w : World) (h4 : 4 ≤ l.length) (hl : l.length ≤ maxLen) (hb : BytesAt w a l) :
    Calls Try.prog 21 #[.slice a l.length c] w fun e w' => e = .returned (.int .u32 ((num4 l : Nat) : Int)) ∧ Below w.heap.size w w' := by
  unfold maxLen at hl
  obtain ⟨b, off, rfl, hc⟩ := bytesAt_some hb (by omega)
  have c0 := hc 0 (by omega)
  have c1 := hc 1 (by omega)
  have c2 := hc 2 (by omega)
  have c3 := hc 3 (by omega)
  have l0 := getD_lt hb.lt 0
  have l1 := getD_lt hb.lt 1
  have l2 := getD_lt hb.lt 2
  have l3 := getD_lt hb.lt 3
  have HR : Hid (num4 l = l.getD 0 0 * 16777216 + l.getD 1 0 * 65536 + l.getD 2 0 * 256 + l.getD 3 0) := rfl
  clear hc hb
  rw [Nat.add_zero] at c0
  generalize num4 l = r at *
  generalize l.getD 0 0 = x0 at *
  generalize l.getD 1 0 = x1 at *
  generalize l.getD 2 0 = x2 at *
  generalize l.getD 3 0 = x3 at *
  generalize l.length = n at *
  go_enter Try.func21, Try.ntmps21
  go_wp2
  go_quiet (fail)
  go_wp2
  go_ret
  exact ⟨ret_int (by rw [or4 x0 x1 x2 x3 l0 l1 l2 l3, HR.out]), below_drewN (Below.refl _ _) _⟩

theorem BytesAt.later {w w' : World} {a : Option Addr} {l : List Nat} (hb : BytesAt w a l) (h : Below w.heap.size w w') : BytesAt w' a l :=
  ⟨hb.lt, fun i hi => by obtain ⟨b, off, rfl, hc⟩ := hb.cell i hi; exact ⟨b, off, rfl, cell_later h hc⟩⟩

theorem BytesAt.drew {w : World} {a : Option Addr} {l : List Nat} (hb : BytesAt w a l) : BytesAt w.drew a l := ⟨hb.lt, hb.cell⟩
theorem bytesAt_block {w : World} {g : Nat} {l : List Nat} {t : TypeId} {fr : Nat × Nat} (h : w.heap[g]? = some (.cells (l.map byteV).toArray t fr)) (hl : ∀ c ∈ l, c < 256) : BytesAt w (some ⟨g, 0, none⟩) l := by
  refine ⟨hl, fun i hi => ⟨g, 0, rfl, ?_⟩⟩
  rw [cell_of_row w g (0 + i) _ t fr h]
  simp only [Nat.zero_add, List.getElem?_toArray, List.getElem?_map, List.getElem?_eq_getElem hi, Option.map_some, List.getD_eq_getElem?_getD, Option.getD_some, byteV]
theorem heap_new (w : World) (o : Obj) : (w.alloc o).heap[w.heap.size]? = some o := by
  show (w.heap.push o)[w.heap.size]? = _
  simp
theorem info8 : (Try.prog.info? 5).map (fun i => (i.zero, i.size, i.bytes)) = some (some (.int .u8 0), 1, 1) := by kernel_rfl
theorem size8 : (Try.prog.info? 5).map (·.size) = some 1 := by kernel_rfl
def zeros (n : Nat) : List Nat := List.replicate n 0
theorem zeros_length (n : Nat) : (zeros n).length = n := List.length_replicate
/-- make([]byte, n). -/
theorem run_make8 (n : Nat) (hn : n ≤ 281474976710656) (u : World) : (Instr.makeSlice 22 (.int .i64 (n : Int)) (.int .i64 (n : Int))).run Try.prog u =
    .ok (.slice (some ⟨u.heap.size, 0, none⟩) n n) (u.alloc (.cells ((zeros n).map byteV).toArray 5)) := by
  obtain ⟨i0, hi, hz0, hz1, hz2⟩ := info_parts info8
  have h := run_make (P := Try.prog) u 22 5 i0 (.int .u8 0) Try.underlying22 hi hz0 .i64 .i64 (n : Int) (n : Int) (by omega) (Int.le_refl _) (by rw [hz2]; omega) (by omega)
  have e : madeCells #[.int .u8 0] n = ((zeros n).map byteV).toArray := by
    unfold zeros
    apply Array.ext
    · simp [madeCells]
    · intro i h1 h2; simp [madeCells, byteV, Nat.mod_one]
  rw [← e]
  simpa [hz1, Value.cells] using h

theorem map_splice (cur l : List Nat) (off : Nat) : splice (cur.map byteV) off (l.map byteV) = (splice cur off l).map byteV := by
  simp [splice, List.map_take, List.map_drop]
theorem oneCell_bytes (l : List Nat) : ∀ v ∈ l.map byteV, v.oneCell' = true := by
  intro v hv
  obtain ⟨c, _, rfl⟩ := List.mem_map.1 hv
  rfl
theorem cells_of_bytesAt {w : World} {a : Option Addr} {l : List Nat} (hb : BytesAt w a l) (h : 0 < (l.map byteV).length) : ∃ ad, a = some ad ∧ ∀ j v, (l.map byteV)[j]? = some v → w.cell? (ad.add j) = some v := by
  obtain ⟨b, off, rfl, hc⟩ := bytesAt_some hb (by simpa using h)
  refine ⟨_, rfl, fun j v hv => ?_⟩
  rw [List.getElem?_map] at hv
  obtain ⟨x, hx, rfl⟩ := Option.map_eq_some_iff.1 hv
  have hj : j < l.length := (List.getElem?_eq_some_iff.1 hx).1
  have := hc j hj
  rw [List.getD_eq_getElem?_getD, hx] at this
  rw [Addr.add_lit]
  exact this
/-- copy(f[off:], l), f a whole block of bytes of the call's own. -/
theorem wpList_copy8 {w : World} {ops : Array Oper} {rest : List Oper} {o : Oper} {a : Act} {Q : Exit → Act → World → Prop} (hgd : o.guard = none) (d s : Operand)
    (ho : o.op = .call { callee := .builtin .copy, args := #[d, s], argTypes := #[22, 22] })
    (dp sp : Option Addr) (dLen dCap sLen sCap : Nat) (hd : a.eval d = .slice dp dLen dCap) (hs : a.eval s = .slice sp sLen sCap)
    (g off : Nat) (cur : List Nat) (hg : w.heap[g]? = some (.cells (cur.map byteV).toArray 5 (0, 0))) (l : List Nat) (hsl : BytesAt w sp l) (hlen : l.length = sLen) (hle : sLen ≤ dLen)
    (hdp : 0 < sLen → dp = some ⟨g, off, none⟩) (hfit : off + sLen ≤ cur.length)
    (h : ∀ w', Hid (w'.heap[g]? = some (.cells ((splice cur off l).map byteV).toArray 5 (0, 0))) → Below g w w' → wpList Try.prog ops Q rest (a.put o.dst (goInt l.length)) w') :
    wpList Try.prog ops Q (o :: rest) a w := by
  have hm : Nat.min sLen dLen = sLen := Nat.min_eq_left hle
  refine wpList_copy_splice hgd d s 22 22 ho 5 Try.underlying22 size8 dp sp dLen dCap sLen sCap hd hs g off (cur.map byteV) 5 hg (l.map byteV)
    (by rw [List.length_map, hm]; exact hlen) (fun h0 => ⟨hdp (by rw [← hlen]; simpa using h0), cells_of_bytesAt hsl h0⟩) (by rw [List.length_map, List.length_map]; omega) (oneCell_bytes l) g w (Below.refl _ _) (Nat.le_refl _) ?_
  intro w' h1 h2
  rw [map_splice] at h1
  rw [List.length_map]
  exact h w' h1 h2
theorem step_copy8 {w : World} {ops : Array Oper} {o : Oper} {a : Act} {K : Act → World → Prop} {Q : Exit → Act → World → Prop} {E : Prop} (hgd : o.guard = none) (d s : Operand)
    (ho : o.op = .call { callee := .builtin .copy, args := #[d, s], argTypes := #[22, 22] })
    (dp sp : Option Addr) (dLen dCap sLen sCap : Nat) (hd : a.eval d = .slice dp dLen dCap) (hs : a.eval s = .slice sp sLen sCap)
    (g off : Nat) (cur : List Nat) (hg : w.heap[g]? = some (.cells (cur.map byteV).toArray 5 (0, 0))) (l : List Nat) (hsl : BytesAt w sp l) (hlen : l.length = sLen) (hle : sLen ≤ dLen)
    (hdp : 0 < sLen → dp = some ⟨g, off, none⟩) (hfit : off + sLen ≤ cur.length)
    (h : ∀ w', Hid (w'.heap[g]? = some (.cells ((splice cur off l).map byteV).toArray 5 (0, 0))) → Below g w w' → K (a.put o.dst (goInt l.length)) w') :
    if Region.wanted o (yielded ops a.tmps) = true then Oper.wp Try.prog o a w K Q else E := by
  have hm : Nat.min sLen dLen = sLen := Nat.min_eq_left hle
  refine step_copy_splice hgd d s 22 22 ho 5 Try.underlying22 size8 dp sp dLen dCap sLen sCap hd hs g off (cur.map byteV) 5 hg (l.map byteV)
    (by rw [List.length_map, hm]; exact hlen) (fun h0 => ⟨hdp (by rw [← hlen]; simpa using h0), cells_of_bytesAt hsl h0⟩) (by rw [List.length_map, List.length_map]; omega) (oneCell_bytes l) g w (Below.refl _ _) (Nat.le_refl _) ?_
  intro w' h1 h2
  rw [map_splice] at h1
  rw [List.length_map]
  exact h w' h1 h2

/-- Where b[lo:..] begins. -/
def slp (a : Option Addr) (lo cap : Nat) : Option Addr := if cap = lo then a else a.map (·.add lo)
theorem elem8 : Try.prog.underlying 22 = some (.slice (Try.prog.elem 22)) := by kernel_rfl
theorem sizeOf8 (u : World) : (sizeOf (Try.prog.elem 22)).run Try.prog u = .ok 1 u := by kernel_rfl
theorem run_slice_lh8 (a : Option Addr) (len cap lo hi : Nat) (h1 : lo ≤ hi) (h2 : hi ≤ cap) (u : World) :
    (Instr.slice 22 (.slice a len cap) (some (.int .i64 (lo : Int))) (some (.int .i64 (hi : Int))) none).run Try.prog u = .ok (.slice (slp a lo cap) (hi - lo) (cap - lo)) u := by
  rw [run_slice_lh (w := u) 22 a len cap elem8 .i64 .i64 (lo : Int) (hi : Int) (by omega) (by omega) (by omega), sizeOf8]
  simp [Result.andThen, sliced, slp]
theorem run_slice_l8 (a : Option Addr) (len cap lo : Nat) (h1 : lo ≤ len) (u : World) :
    (Instr.slice 22 (.slice a len cap) (some (.int .i64 (lo : Int))) none none).run Try.prog u = .ok (.slice (slp a lo cap) (len - lo) (cap - lo)) u := by
  rw [run_slice_l (w := u) 22 a len cap elem8 .i64 (lo : Int) (by omega) (by omega), sizeOf8]
  simp [Result.andThen, sliced, slp]
theorem getD_drop (l : List Nat) (lo i : Nat) : (l.drop lo).getD i 0 = l.getD (lo + i) 0 := by
  simp [List.getD_eq_getElem?_getD]
theorem getD_take (l : List Nat) (k i : Nat) (h : i < k) : (l.take k).getD i 0 = l.getD i 0 := by
  rw [List.getD_eq_getElem?_getD, List.getD_eq_getElem?_getD, List.getElem?_take, if_pos h]
theorem BytesAt.drop {w : World} {a : Option Addr} {l : List Nat} (hb : BytesAt w a l) (lo cap : Nat) (hc : l.length ≤ cap) : BytesAt w (slp a lo cap) (l.drop lo) := by
  refine ⟨fun c hc => hb.lt c (List.mem_of_mem_drop hc), fun i hi => ?_⟩
  rw [List.length_drop] at hi
  obtain ⟨b, off, rfl, h⟩ := hb.cell (lo + i) (by omega)
  refine ⟨b, off + lo, ?_, ?_⟩
  · unfold slp; rw [if_neg (by omega)]; simp [Addr.add_lit]
  · rw [getD_drop, Nat.add_assoc]; exact h
theorem BytesAt.take {w : World} {a : Option Addr} {l : List Nat} (hb : BytesAt w a l) (k : Nat) : BytesAt w a (l.take k) := by
  refine ⟨fun c hc => hb.lt c (List.mem_of_mem_take hc), fun i hi => ?_⟩
  rw [List.length_take] at hi
  obtain ⟨b, off, rfl, h⟩ := hb.cell i (by omega)
  exact ⟨b, off, rfl, by rw [getD_take _ _ _ (by omega)]; exact h⟩

/-- What a frame's sum is taken over. -/
def fsum (n : Nat) (l : List Nat) : Nat := Crc.ext (Crc.ext 0 (word4 n)) l
theorem fsum_lt (n : Nat) (l : List Nat) : fsum n l < 4294967296 := Crc.ext_lt _ _

set_option maxHeartbeats 400000 in
theorem frameSum_calls (a a' : Option Addr) (c c' : Nat) (h l : List Nat) (w : World) (hh : h.length ≤ maxLen) (hl : l.length ≤ maxLen) (hb : BytesAt w a h) (hb' : BytesAt w a' l) :
    Calls Try.prog 19 #[.slice a h.length c, .slice a' l.length c'] w fun e w' => e = .returned (.int .u32 ((Crc.ext (Crc.ext 0 h) l : Nat) : Int)) ∧ w' = w := by
  have hB := hide hb
  have hB' := hide hb'
  clear hb hb'
  go_enter Try.func19, Try.ntmps19
  go_wp2_with fail
  refine (sum_calls _ _ h _ hh (unhide hB)).mono ?_
  rintro e w' ⟨rfl, rfl⟩
  go_wp2_with fail
  refine (extend_calls _ _ _ l _ (Crc.ext_lt _ _) hl (unhide hB')).mono ?_
  rintro e w' ⟨rfl, rfl⟩
  go_wp2
  go_ret
  exact ⟨rfl, rfl⟩

theorem frame_long (a : Option Addr) (c : Nat) (l : List Nat) (w : World) (hl : l.length ≤ maxLen) (h : 65536 < l.length) :
    Calls Try.prog 9 #[.slice a l.length c] w fun e w' => e = .returned (.tuple #[.slice none 0 0, .int .i64 6]) ∧ w' = w := by
  unfold maxLen at hl
  go_enter Try.func9, Try.ntmps9
  go_wp2
  go_ret2
  exact ⟨rfl, rfl⟩

/-- A frame's bytes. -/
def frameB (l : List Nat) : List Nat := word4 l.length ++ (word4 (fsum l.length l) ++ l)

set_option maxHeartbeats 1000000 in
theorem frame_ok (a : Option Addr) (c : Nat) (l : List Nat) (w : World) (hb : BytesAt w a l) (h : l.length ≤ 65536) :
    Calls Try.prog 9 #[.slice a l.length c] w fun e w' => ∃ g, e = .returned (.tuple #[.slice (some ⟨g, 0, none⟩) (8 + l.length) (8 + l.length), .int .i64 0]) ∧ Below w.heap.size w w' ∧ w.heap.size ≤ g ∧ w'.heap[g]? = some (.cells ((frameB l).map byteV).toArray 5 (0, 0)) := by
  have hB := hide hb
  clear hb
  go_enter Try.func9, Try.ntmps9
  go_wp2_with fail
  refine (word_calls l.length _ (by omega)).mono ?_
  rintro e w1 ⟨b0, b1, b2, b3, rfl, hb1, h1⟩
  have hlt1 : ∀ c ∈ [b0, b1, b2, b3], c < 256 := by rw [← unhide h1]; exact word4_lt _ (by omega)
  have hW1 := heap_new w1 (.cells #[.int .u8 (b0 : Int), .int .u8 (b1 : Int), .int .u8 (b2 : Int), .int .u8 (b3 : Int)] 39)
  have hbW1 : Below w.heap.size w (w1.alloc (.cells #[.int .u8 (b0 : Int), .int .u8 (b1 : Int), .int .u8 (b2 : Int), .int .u8 (b3 : Int)] 39)) := hb1.alloc hb1.size _
  have hB1 := hide (bytesAt_block (l := [b0, b1, b2, b3]) hW1 hlt1)
  have hBl1 := hide ((unhide hB).later hbW1)
  have HW1 := hide hW1
  have HB1 := hide hbW1
  clear hW1 hbW1 hB
  go_wp2_with fail
  generalize w1.alloc _ = W1 at *
  refine (frameSum_calls _ _ _ _ [b0, b1, b2, b3] l _ (by simp [maxLen]) (by unfold maxLen; omega) (unhide hB1) (unhide hBl1)).mono ?_
  rintro e W1 ⟨rfl, rfl⟩
  rw [← unhide h1]
  have HS := hide (show Crc.ext (Crc.ext 0 (word4 l.length)) l = fsum l.length l from rfl)
  rw [unhide HS]
  generalize hs : fsum l.length l = s at *
  have Hs := hide hs
  have hslt : s < 4294967296 := by rw [← hs]; exact fsum_lt _ _
  clear hs
  go_wp2_with fail
  refine (word_calls s _ hslt).mono ?_
  rintro e w2 ⟨c0, c1, c2, c3, rfl, hb2, h2⟩
  have hlt2 : ∀ c ∈ [c0, c1, c2, c3], c < 256 := by rw [← unhide h2]; exact word4_lt _ hslt
  have hW2 := heap_new w2 (.cells #[.int .u8 (c0 : Int), .int .u8 (c1 : Int), .int .u8 (c2 : Int), .int .u8 (c3 : Int)] 39)
  have hsz2 := hb2.size
  have hbW2 : Below W1.heap.size W1 (w2.alloc (.cells #[.int .u8 (c0 : Int), .int .u8 (c1 : Int), .int .u8 (c2 : Int), .int .u8 (c3 : Int)] 39)) := hb2.alloc hb2.size _
  have hmk := run_make8 (8 + l.length) (by omega)
  have e8 : ((8 + l.length : Nat) : Int) = 8 + (l.length : Int) := by omega
  rw [e8] at hmk
  clear e8
  have hW3 := fun o1 o2 => heap_new (w2.alloc o1) o2
  have hbW3 : ∀ o1 o2, Below (w2.heap.size + 1) (w2.alloc o1) ((w2.alloc o1).alloc o2) := fun o1 o2 => (Below.refl _ _).alloc (by simp) _
  simp only [World.size_alloc] at hW3
  have HW3 := hide hW3
  have hsB := (unhide HB1).size
  have HF := hide (fun o2 W (hb : Below (w2.heap.size + 1) ((w2.alloc (.cells #[.int .u8 (c0 : Int), .int .u8 (c1 : Int), .int .u8 (c2 : Int), .int .u8 (c3 : Int)] 39)).alloc o2) W) =>
    (show BytesAt W (some ⟨w1.heap.size, 0, none⟩) [b0, b1, b2, b3] ∧ BytesAt W (some ⟨w2.heap.size, 0, none⟩) [c0, c1, c2, c3] ∧ BytesAt W a l ∧ Below w.heap.size w W from by
      have hq : Below (w2.heap.size + 1) (w2.alloc (.cells #[.int .u8 (c0 : Int), .int .u8 (c1 : Int), .int .u8 (c2 : Int), .int .u8 (c3 : Int)] 39)) W := (hbW3 _ o2).trans hb
      have hq1 : Below W1.heap.size W1 W := hbW2.trans (hq.mono (by omega))
      exact ⟨(unhide hB1).later hq1, (bytesAt_block (l := [c0, c1, c2, c3]) hW2 hlt2).later (hq.mono (by simp)), (unhide hBl1).later hq1, (unhide HB1).trans (hq1.mono hsB)⟩))
  clear hW3 hW2 hbW2 hbW3 hlt1 hlt2 hB1 hBl1 HW1 hb1 hb2 HS
  have hz : 0 + 4 ≤ (zeros (8 + l.length)).length := by rw [zeros_length]; omega
  go_wp2_with (refine wpList_copy8 rfl (.tmp 22) (.tmp 23) rfl (some ⟨w2.heap.size + 1, 0, none⟩) (some ⟨w1.heap.size, 0, none⟩) (8 + l.length) (8 + l.length) 4 4 rfl rfl (w2.heap.size + 1) 0 (zeros (8 + l.length)) ?hg [b0, b1, b2, b3] ?hsl rfl (by omega) (fun _ => rfl) hz ?_; rotate_right; intro W4 h4 hb4)
  case hg => exact unhide HW3 _ _
  case hsl => exact (unhide HF _ _ (Below.refl _ _)).1
  have F4 := hide (unhide HF _ _ hb4)
  generalize hZ1 : splice (zeros (8 + l.length)) 0 [b0, b1, b2, b3] = Z1 at *
  have HZ1 := hide hZ1
  have hz1 : 4 + 4 ≤ Z1.length := by rw [← hZ1, length_splice _ _ _ (by simp only [zeros_length, List.length_cons, List.length_nil]; omega), zeros_length]; omega
  clear hZ1 HW3 hmk
  have q1 : (4 : Int) ≤ 8 + (l.length : Int) := by omega
  have q2 : ¬ (8 + l.length = 4) := by omega
  have q3 : 8 + l.length - 4 = 4 + l.length := by omega
  go_region_law (refine step_copy8 rfl (.tmp 26) (.tmp 27) rfl (some ⟨w2.heap.size + 1, 4, none⟩) (some ⟨w2.heap.size, 0, none⟩) (4 + l.length) (4 + l.length) 4 4 rfl rfl (w2.heap.size + 1) 4 Z1 (by exact unhide h4) [c0, c1, c2, c3] (by exact (unhide F4).2.1.drew) rfl (by omega) (fun _ => rfl) hz1 ?_; intro W5 h5 hb5)
  have hb45 : Below (w2.heap.size + 1) W4 W5 := ((Below.refl _ _).drew).trans hb5
  have F5 := hide (unhide HF _ _ (hb4.trans hb45))
  generalize hZ2 : splice Z1 4 [c0, c1, c2, c3] = Z2 at *
  have HZ2 := hide hZ2
  have hz2 : 8 + l.length ≤ Z2.length := by
    rw [← hZ2, length_splice _ _ _ (by simp only [List.length_cons, List.length_nil]; omega), ← unhide HZ1, length_splice _ _ _ (by simp only [zeros_length, List.length_cons, List.length_nil]; omega), zeros_length]
    exact Nat.le_refl _
  clear hZ2 q1 q2 q3 hb5 h4 F4
  have hs8 : ∀ u : World, (Instr.slice 22 (.slice (some ⟨w2.heap.size + 1, 0, none⟩) (8 + l.length) (8 + l.length)) (some (.int .i64 8)) none none).run Try.prog u = .ok (.slice (slp (some ⟨w2.heap.size + 1, 0, none⟩) 8 (8 + l.length)) (8 + l.length - 8) (8 + l.length - 8)) u :=
    run_slice_l8 (some ⟨w2.heap.size + 1, 0, none⟩) (8 + l.length) (8 + l.length) 8 (by omega)
  have hp8 := hide (show 0 < l.length → slp (some ⟨w2.heap.size + 1, 0, none⟩) 8 (8 + l.length) = some ⟨w2.heap.size + 1, 8, none⟩ from fun h0 => by unfold slp; rw [if_neg (by omega)]; simp [Addr.add_lit])
  rw [show 8 + l.length - 8 = l.length by omega] at hs8
  generalize slp (some ⟨w2.heap.size + 1, 0, none⟩) 8 (8 + l.length) = p8 at *
  go_wp2_with (refine wpList_copy8 rfl (.tmp 30) (.tmp 31) rfl p8 a l.length l.length l.length c rfl rfl (w2.heap.size + 1) 8 Z2 ?hg l ?hsl rfl (Nat.le_refl _) ?hdp hz2 ?_; rotate_right; intro W6 h6 hb6)
  case hg => exact unhide h5
  case hsl => exact (unhide F5).2.2.1
  case hdp => exact unhide hp8
  have F6 := hide (unhide HF _ _ (hb4.trans (hb45.trans hb6)))
  have HZ : splice Z2 8 l = frameB l := by
    rw [← unhide HZ2, ← unhide HZ1]
    have e := splice_splice_splice (zeros (8 + l.length)) [b0, b1, b2, b3] [c0, c1, c2, c3] l 4 4 rfl rfl (by rw [zeros_length])
    rw [e, ← unhide h1, ← unhide h2, ← unhide Hs]; rfl
  rw [HZ] at h6
  go_ret2
  exact ⟨w2.heap.size + 1, rfl, (unhide F6).2.2.2, by omega, unhide h6⟩
end Go.Proofs.Ytmjojfngdfnabab
