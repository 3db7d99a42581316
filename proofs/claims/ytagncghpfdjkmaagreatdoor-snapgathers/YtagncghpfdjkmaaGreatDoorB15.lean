/- The contracts of frame.word, frame.wordOf, frame.frameSum, frame.Frame. -/
import Derived.Test.YtagncghpfdjkmaaGreatDoorB14
import Derived.Laws.CopyOwn
import Derived.Deep.QuietTactic
import Derived.BigQuiet
import Derived.Test.YtagncghpfdjkmaaGreatDoorB01
import Derived.Laws.IdiomStrings
import Derived.Lib.SlBytesConst
import Derived.Test.YtagncghpfdjkmaaGreatDoorB13
section
namespace Go.Proofs.YtagncghpfdjkmaaGreatDoor
open Go.ChangeShapes Go.WideShapes Go.ChangeAt Go.RowKit

/-- A number as four bytes, the highest first. -/
def word4 (n : Nat) : List Nat := [n / 16777216, n / 65536 % 256, n / 256 % 256, n % 256]
theorem word4_lt (n : Nat) (hn : n < 4294967296) : ∀ c ∈ word4 n, c < 256 := by
  intro c hc
  simp only [word4, List.mem_cons, List.not_mem_nil, or_false] at hc
  omega
theorem word4_length (n : Nat) : (word4 n).length = 4 := by simp [word4]
set_option maxHeartbeats 400000 in
theorem word_calls (n : Nat) (w : World) (hn : n < 4294967296) :
    Calls Tryz.prog 98 #[.int .u32 (n : Int)] w fun e w' => ∃ b0 b1 b2 b3 : Nat, e = .returned (.agg #[.int .u8 (b0 : Int), .int .u8 (b1 : Int), .int .u8 (b2 : Int), .int .u8 (b3 : Int)]) ∧ Below w.heap.size w w' ∧ Hid (word4 n = [b0, b1, b2, b3]) := by
  go_enter Tryz.func98, Tryz.ntmps98
  go_wp2
  refine bodyPost_ret (v := .agg #[.int .u8 ((n : Int) / 16777216), .int .u8 ((n : Int) / 65536 % 256), .int .u8 ((n : Int) / 256 % 256), .int .u8 ((n : Int) % 256)]) (by simp [results, Tryz.results98, go_sem]) rfl ?_
  exact ⟨n / 16777216, n / 65536 % 256, n / 256 % 256, n % 256, rfl, (Below.refl _ _).alloc (Nat.le_refl _) _, rfl⟩

/-- Four bytes as a number. -/
def num4 (l : List Nat) : Nat := l.getD 0 0 * 16777216 + l.getD 1 0 * 65536 + l.getD 2 0 * 256 + l.getD 3 0

theorem or4 (x0 x1 x2 x3 : Nat) (l0 : x0 < 256) (l1 : x1 < 256) (l2 : x2 < 256) (l3 : x3 < 256) :
    bits .or .u32 (bits .or .u32 (bits .or .u32 ((x0 : Int) * 16777216) ((x1 : Int) * 65536)) ((x2 : Int) * 256)) (x3 : Int) = ((x0 * 16777216 + x1 * 65536 + x2 * 256 + x3 : Nat) : Int) := by
  have e0 : ((x0 : Int) * 16777216) = ((x0 * 16777216 : Nat) : Int) := by omega
  have e1 : ((x1 : Int) * 65536) = ((x1 * 65536 : Nat) : Int) := by omega
  have e2 : ((x2 : Int) * 256) = ((x2 * 256 : Nat) : Int) := by omega
  rw [e0, e1, e2, u32_or_nat _ _ (by omega) (by omega), nat_join 24 (x0 * 16777216) (x1 * 65536) (by omega) (by omega),
    u32_or_nat _ _ (by omega) (by omega), nat_join 16 _ (x2 * 256) (by omega) (by omega),
    u32_or_nat _ _ (by omega) (by omega), nat_join 8 _ x3 (by omega) (by omega)]

set_option maxHeartbeats 400000 in
theorem wordOf_calls (a : Option Addr) (c : Nat) (l : List Nat) (w : World) (h4 : 4 ≤ l.length) (hl : l.length ≤ maxLen) (hb : BytesAt w a l) :
    Calls Tryz.prog 104 #[.slice a l.length c] w fun e w' => e = .returned (.int .u32 ((num4 l : Nat) : Int)) ∧ Below w.heap.size w w' := by
  unfold maxLen at hl
  obtain ⟨b, off, rfl, hc⟩ := bytesAt_some hb (by omega)
  have c0 := hc 0 (by omega)
  have c1 := hc 1 (by omega)
  have c2 := hc 2 (by omega)
  have c3 := hc 3 (by omega)
  have l0 := getD_lt hb.lt 0
  have l1 := getD_lt hb.lt 1
  have l2 := getD_lt hb.lt 2
  have l3 := getD_lt hb.lt 3
  have HR : Hid (num4 l = l.getD 0 0 * 16777216 + l.getD 1 0 * 65536 + l.getD 2 0 * 256 + l.getD 3 0) := rfl
  clear hc hb
  rw [Nat.add_zero] at c0
  generalize num4 l = r at *
  generalize l.getD 0 0 = x0 at *
  generalize l.getD 1 0 = x1 at *
  generalize l.getD 2 0 = x2 at *
  generalize l.getD 3 0 = x3 at *
  generalize l.length = n at *
  go_enter Tryz.func104, Tryz.ntmps104
  go_wp2
  go_quiet (fail)
  go_wp2
  go_ret
  exact ⟨ret_int (by rw [or4 x0 x1 x2 x3 l0 l1 l2 l3, HR.out]), _root_.Go.below_drewN (Below.refl _ _) _⟩

/-- What a frame's sum is taken over. -/
def fsum (n : Nat) (l : List Nat) : Nat := Crc.ext (Crc.ext 0 (word4 n)) l
theorem fsum_lt (n : Nat) (l : List Nat) : fsum n l < 4294967296 := Crc.ext_lt _ _

set_option maxHeartbeats 400000 in
theorem frameSum_calls (a a' : Option Addr) (c c' : Nat) (h l : List Nat) (w : World) (hh : h.length ≤ maxLen) (hl : l.length ≤ maxLen) (hb : BytesAt w a h) (hb' : BytesAt w a' l) :
    Calls Tryz.prog 99 #[.slice a h.length c, .slice a' l.length c'] w fun e w' => e = .returned (.int .u32 ((Crc.ext (Crc.ext 0 h) l : Nat) : Int)) ∧ w' = w := by
  have hB := hide hb
  have hB' := hide hb'
  clear hb hb'
  go_enter Tryz.func99, Tryz.ntmps99
  go_wp2_with fail
  refine (sum_calls _ _ h _ hh (unhide hB)).mono ?_
  rintro e w' ⟨rfl, rfl⟩
  go_wp2_with fail
  refine (extend_calls _ _ _ l _ (Crc.ext_lt _ _) hl (unhide hB')).mono ?_
  rintro e w' ⟨rfl, rfl⟩
  go_wp2
  go_ret
  exact ⟨rfl, rfl⟩

/-- A frame's bytes. -/
def frameB (l : List Nat) : List Nat := word4 l.length ++ (word4 (fsum l.length l) ++ l)

set_option maxHeartbeats 1000000 in
theorem frame_ok (a : Option Addr) (c : Nat) (l : List Nat) (w : World) (hb : BytesAt w a l) (h : l.length ≤ 65536) :
    Calls Tryz.prog 53 #[.slice a l.length c] w fun e w' => ∃ g, e = .returned (.tuple #[.slice (some ⟨g, 0, none⟩) (8 + l.length) (8 + l.length), .int .i64 0]) ∧ Below w.heap.size w w' ∧ w.heap.size ≤ g ∧ w'.heap[g]? = some (.cells ((frameB l).map byteV).toArray 5 (0, 0)) := by
  have hB := hide hb
  clear hb
  go_enter Tryz.func53, Tryz.ntmps53
  go_wp2_with fail
  refine (word_calls l.length _ (by omega)).mono ?_
  rintro e w1 ⟨b0, b1, b2, b3, rfl, hb1, h1⟩
  have hlt1 : ∀ c ∈ [b0, b1, b2, b3], c < 256 := by rw [← unhide h1]; exact word4_lt _ (by omega)
  have hW1 := heap_new w1 (.cells #[.int .u8 (b0 : Int), .int .u8 (b1 : Int), .int .u8 (b2 : Int), .int .u8 (b3 : Int)] 149)
  have hbW1 : Below w.heap.size w (w1.alloc (.cells #[.int .u8 (b0 : Int), .int .u8 (b1 : Int), .int .u8 (b2 : Int), .int .u8 (b3 : Int)] 149)) := hb1.alloc hb1.size _
  have hB1 := hide (bytesAt_block (l := [b0, b1, b2, b3]) hW1 hlt1)
  have hBl1 := hide ((unhide hB).later hbW1)
  have HW1 := hide hW1
  have HB1 := hide hbW1
  clear hW1 hbW1 hB
  go_wp2_with fail
  generalize w1.alloc _ = W1 at *
  refine (frameSum_calls _ _ _ _ [b0, b1, b2, b3] l _ (by simp [maxLen]) (by unfold maxLen; omega) (unhide hB1) (unhide hBl1)).mono ?_
  rintro e W1 ⟨rfl, rfl⟩
  rw [← unhide h1]
  have HS := hide (show Crc.ext (Crc.ext 0 (word4 l.length)) l = fsum l.length l from rfl)
  rw [unhide HS]
  generalize hs : fsum l.length l = s at *
  have Hs := hide hs
  have hslt : s < 4294967296 := by rw [← hs]; exact fsum_lt _ _
  clear hs
  go_wp2_with fail
  refine (word_calls s _ hslt).mono ?_
  rintro e w2 ⟨c0, c1, c2, c3, rfl, hb2, h2⟩
  have hlt2 : ∀ c ∈ [c0, c1, c2, c3], c < 256 := by rw [← unhide h2]; exact word4_lt _ hslt
  have hW2 := heap_new w2 (.cells #[.int .u8 (c0 : Int), .int .u8 (c1 : Int), .int .u8 (c2 : Int), .int .u8 (c3 : Int)] 149)
  have hsz2 := hb2.size
  have hbW2 : Below W1.heap.size W1 (w2.alloc (.cells #[.int .u8 (c0 : Int), .int .u8 (c1 : Int), .int .u8 (c2 : Int), .int .u8 (c3 : Int)] 149)) := hb2.alloc hb2.size _
  have hmk := run_make8 (8 + l.length) (by omega)
  have e8 : ((8 + l.length : Nat) : Int) = 8 + (l.length : Int) := by omega
  rw [e8] at hmk
  clear e8
  have hW3 := fun o1 o2 => heap_new (w2.alloc o1) o2
  have hbW3 : ∀ o1 o2, Below (w2.heap.size + 1) (w2.alloc o1) ((w2.alloc o1).alloc o2) := fun o1 o2 => (Below.refl _ _).alloc (by simp) _
  simp only [World.size_alloc] at hW3
  have HW3 := hide hW3
  have hsB := (unhide HB1).size
  have HF := hide (fun o2 W (hb : Below (w2.heap.size + 1) ((w2.alloc (.cells #[.int .u8 (c0 : Int), .int .u8 (c1 : Int), .int .u8 (c2 : Int), .int .u8 (c3 : Int)] 149)).alloc o2) W) =>
    (show BytesAt W (some ⟨w1.heap.size, 0, none⟩) [b0, b1, b2, b3] ∧ BytesAt W (some ⟨w2.heap.size, 0, none⟩) [c0, c1, c2, c3] ∧ BytesAt W a l ∧ Below w.heap.size w W from by
      have hq : Below (w2.heap.size + 1) (w2.alloc (.cells #[.int .u8 (c0 : Int), .int .u8 (c1 : Int), .int .u8 (c2 : Int), .int .u8 (c3 : Int)] 149)) W := (hbW3 _ o2).trans hb
      have hq1 : Below W1.heap.size W1 W := hbW2.trans (hq.mono (by omega))
      exact ⟨(unhide hB1).later hq1, (bytesAt_block (l := [c0, c1, c2, c3]) hW2 hlt2).later (hq.mono (by simp)), (unhide hBl1).later hq1, (unhide HB1).trans (hq1.mono hsB)⟩))
  clear hW3 hW2 hbW2 hbW3 hlt1 hlt2 hB1 hBl1 HW1 hb1 hb2 HS
  have hz : 0 + 4 ≤ (zeros (8 + l.length)).length := by rw [zeros_length]; omega
  go_wp2_with (refine wpList_copy8 rfl (.tmp 22) (.tmp 23) rfl (some ⟨w2.heap.size + 1, 0, none⟩) (some ⟨w1.heap.size, 0, none⟩) (8 + l.length) (8 + l.length) 4 4 rfl rfl (w2.heap.size + 1) 0 (zeros (8 + l.length)) ?hg [b0, b1, b2, b3] ?hsl rfl (by omega) (fun _ => rfl) hz ?_; rotate_right; intro W4 h4 hb4)
  case hg => exact unhide HW3 _ _
  case hsl => exact (unhide HF _ _ (Below.refl _ _)).1
  have F4 := hide (unhide HF _ _ hb4)
  generalize hZ1 : splice (zeros (8 + l.length)) 0 [b0, b1, b2, b3] = Z1 at *
  have HZ1 := hide hZ1
  have hz1 : 4 + 4 ≤ Z1.length := by rw [← hZ1, length_splice _ _ _ (by simp only [zeros_length, List.length_cons, List.length_nil]; omega), zeros_length]; omega
  clear hZ1 HW3 hmk
  have q1 : (4 : Int) ≤ 8 + (l.length : Int) := by omega
  have q2 : ¬ (8 + l.length = 4) := by omega
  have q3 : 8 + l.length - 4 = 4 + l.length := by omega
  go_region_law (refine step_copy8 rfl (.tmp 26) (.tmp 27) rfl (some ⟨w2.heap.size + 1, 4, none⟩) (some ⟨w2.heap.size, 0, none⟩) (4 + l.length) (4 + l.length) 4 4 rfl rfl (w2.heap.size + 1) 4 Z1 (by exact unhide h4) [c0, c1, c2, c3] (by exact (unhide F4).2.1.drew) rfl (by omega) (fun _ => rfl) hz1 ?_; intro W5 h5 hb5)
  have hb45 : Below (w2.heap.size + 1) W4 W5 := ((Below.refl _ _).drew).trans hb5
  have F5 := hide (unhide HF _ _ (hb4.trans hb45))
  generalize hZ2 : splice Z1 4 [c0, c1, c2, c3] = Z2 at *
  have HZ2 := hide hZ2
  have hz2 : 8 + l.length ≤ Z2.length := by
    rw [← hZ2, length_splice _ _ _ (by simp only [List.length_cons, List.length_nil]; omega), ← unhide HZ1, length_splice _ _ _ (by simp only [zeros_length, List.length_cons, List.length_nil]; omega), zeros_length]
    exact Nat.le_refl _
  clear hZ2 q1 q2 q3 hb5 h4 F4
  have hs8 : ∀ u : World, (Instr.slice 27 (.slice (some ⟨w2.heap.size + 1, 0, none⟩) (8 + l.length) (8 + l.length)) (some (.int .i64 8)) none none).run Tryz.prog u = .ok (.slice (slp (some ⟨w2.heap.size + 1, 0, none⟩) 8 (8 + l.length)) (8 + l.length - 8) (8 + l.length - 8)) u :=
    run_slice_l8 (some ⟨w2.heap.size + 1, 0, none⟩) (8 + l.length) (8 + l.length) 8 (by omega)
  have hp8 := hide (show 0 < l.length → slp (some ⟨w2.heap.size + 1, 0, none⟩) 8 (8 + l.length) = some ⟨w2.heap.size + 1, 8, none⟩ from fun h0 => by unfold slp; rw [if_neg (by omega)]; simp [Addr.add_lit])
  rw [show 8 + l.length - 8 = l.length by omega] at hs8
  generalize slp (some ⟨w2.heap.size + 1, 0, none⟩) 8 (8 + l.length) = p8 at *
  go_wp2_with (refine wpList_copy8 rfl (.tmp 30) (.tmp 31) rfl p8 a l.length l.length l.length c rfl rfl (w2.heap.size + 1) 8 Z2 ?hg l ?hsl rfl (Nat.le_refl _) ?hdp hz2 ?_; rotate_right; intro W6 h6 hb6)
  case hg => exact unhide h5
  case hsl => exact (unhide F5).2.2.1
  case hdp => exact unhide hp8
  have F6 := hide (unhide HF _ _ (hb4.trans (hb45.trans hb6)))
  have HZ : splice Z2 8 l = frameB l := by
    rw [← unhide HZ2, ← unhide HZ1]
    have e := splice_splice_splice (zeros (8 + l.length)) [b0, b1, b2, b3] [c0, c1, c2, c3] l 4 4 rfl rfl (by rw [zeros_length])
    rw [e, ← unhide h1, ← unhide h2, ← unhide Hs]; rfl
  rw [HZ] at h6
  go_ret2
  exact ⟨w2.heap.size + 1, rfl, (unhide F6).2.2.2, by omega, unhide h6⟩
end Go.Proofs.YtagncghpfdjkmaaGreatDoor
end
/- The contract of frame.Next: what a frame at a place holds, or the error. -/
section
namespace Go.Proofs.YtagncghpfdjkmaaGreatDoor
open Go.ChangeShapes Go.WideShapes Go.ChangeAt Go.RowKit

/-- The number of the error at a place that may be (0: none). -/
def nextE (l : List Nat) (k : Nat) : Nat :=
  if l.length - k < 8 then 3 else if 65536 < num4 (l.drop k) then 6 else if l.length - k - 8 < num4 (l.drop k) then 3
  else if Crc.ext (Crc.ext 0 ((l.drop k).take 4)) ((l.drop (k + 8)).take (num4 (l.drop k))) = num4 (l.drop (k + 4)) then 0 else 5
/-- What the frame at a place holds. -/
def nextH (l : List Nat) (k : Nat) : List Nat := (l.drop (k + 8)).take (num4 (l.drop k))

theorem num4_lt {l : List Nat} (h : ∀ c ∈ l, c < 256) : num4 l < 4294967296 := by
  have l0 := getD_lt h 0
  have l1 := getD_lt h 1
  have l2 := getD_lt h 2
  have l3 := getD_lt h 3
  unfold num4; omega
theorem num4_take (l : List Nat) : num4 (l.take 4) = num4 l := by
  unfold num4; rw [getD_take l 4 0 (by omega), getD_take l 4 1 (by omega), getD_take l 4 2 (by omega), getD_take l 4 3 (by omega)]

theorem next_short (a : Option Addr) (c : Nat) (l : List Nat) (k : Nat) (w : World) (hl : l.length ≤ maxLen) (hk : k ≤ l.length) (h : l.length - k < 8) :
    Calls Tryz.prog 58 #[.slice a l.length c, .int .i64 (k : Int)] w fun e w' => e = .returned (.tuple #[.slice none 0 0, .int .i64 0, .int .i64 3]) ∧ w' = w := by
  unfold maxLen at hl
  have h0 : ¬ (k : Int) < 0 := by omega
  have h1 : ¬ (l.length : Int) < (k : Int) := by omega
  go_enter Tryz.func58, Tryz.ntmps58
  go_wp2
  go_ret3
  exact ⟨rfl, rfl⟩

theorem splice_whole (Z X : List Nat) (h : Z.length = X.length) : splice Z 0 X = X := by
  unfold splice
  rw [List.take_zero, List.nil_append, List.drop_eq_nil_of_le (by omega), List.append_nil]
theorem wordOf_calls' (a : Option Addr) (n c : Nat) (l : List Nat) (w : World) (hn : l.length = n) (h4 : 4 ≤ l.length) (hl : l.length ≤ maxLen) (hb : BytesAt w a l) :
    Calls Tryz.prog 104 #[.slice a n c] w fun e w' => e = .returned (.int .u32 ((num4 l : Nat) : Int)) ∧ Below w.heap.size w w' := by
  subst hn; exact wordOf_calls a c l w h4 hl hb
theorem frameSum_calls' (a a' : Option Addr) (n n' c c' : Nat) (h l : List Nat) (w : World) (hn : h.length = n) (hn' : l.length = n') (hh : h.length ≤ maxLen) (hl : l.length ≤ maxLen) (hb : BytesAt w a h) (hb' : BytesAt w a' l) :
    Calls Tryz.prog 99 #[.slice a n c, .slice a' n' c'] w fun e w' => e = .returned (.int .u32 ((Crc.ext (Crc.ext 0 h) l : Nat) : Int)) ∧ w' = w := by
  subst hn; subst hn'; exact frameSum_calls a a' c c' h l w hh hl hb hb'

set_option maxHeartbeats 1000000 in
theorem next_calls (a : Option Addr) (c : Nat) (l : List Nat) (k : Nat) (w : World) (hl : l.length ≤ maxLen) (hc : l.length ≤ c) (hk : k ≤ l.length) (h8 : ¬ l.length - k < 8) (hb : BytesAt w a l) :
    Calls Tryz.prog 58 #[.slice a l.length c, .int .i64 (k : Int)] w fun e w' => Below w.heap.size w w' ∧
      ((0 < nextE l k ∧ e = .returned (.tuple #[.slice none 0 0, .int .i64 0, .int .i64 (nextE l k : Nat)])) ∨
       (nextE l k = 0 ∧ ∃ g, e = .returned (.tuple #[.slice (some ⟨g, 0, none⟩) (nextH l k).length (nextH l k).length, .int .i64 ((k + 8 + (nextH l k).length : Nat) : Int), .int .i64 0]) ∧ w.heap.size ≤ g ∧ w'.heap[g]? = some (.cells ((nextH l k).map byteV).toArray 5 (0, 0)))) := by
  unfold maxLen at hl
  have h0 : ¬ (k : Int) < 0 := by omega
  have h1 : ¬ (l.length : Int) < (k : Int) := by omega
  have h2 : ¬ (l.length : Int) - (k : Int) < 8 := by omega
  have s1 := run_slice_lh8 a l.length c k (k + 4) (by omega) (by omega)
  have s2 := run_slice_l8 a l.length c (k + 4) (by omega)
  have B1 := hide ((hb.drop k c hc).take 4)
  have B2 := hide (hb.drop (k + 4) c hc)
  have HB := hide hb
  have e1 : ((k + 4 : Nat) : Int) = (k : Int) + 4 := by omega
  rw [e1] at s1 s2
  rw [show k + 4 - k = 4 by omega] at s1
  generalize hp1 : slp a k c = p1 at *
  generalize hp2 : slp a (k + 4) c = p2 at *
  clear e1 hb hp1 hp2
  have HE : Hid (nextE l k = if 65536 < num4 (l.drop k) then 6 else if l.length - k - 8 < num4 (l.drop k) then 3
    else if Crc.ext (Crc.ext 0 ((l.drop k).take 4)) ((l.drop (k + 8)).take (num4 (l.drop k))) = num4 (l.drop (k + 4)) then 0 else 5) := by
    show _ = _
    rw [nextE, if_neg h8]
  have HH : Hid (nextH l k = (l.drop (k + 8)).take (num4 (l.drop k))) := by show _ = _; rw [nextH]
  have hn4 := num4_lt (fun c hc => (unhide HB).lt c (List.mem_of_mem_drop hc) : ∀ c ∈ l.drop k, c < 256)
  have hsm4 := num4_lt (fun c hc => (unhide HB).lt c (List.mem_of_mem_drop hc) : ∀ c ∈ l.drop (k + 4), c < 256)
  have L2 := hide (show (l.drop (k + 4)).length = l.length - (k + 4) by simp)
  have L1 := hide (show ((l.drop k).take 4).length = 4 by simp; omega)
  have L1' := hide (show 4 ≤ ((l.drop k).take 4).length by simp; omega)
  have L2' := hide (show 4 ≤ (l.drop (k + 4)).length by simp; omega)
  have L1m := hide (show ((l.drop k).take 4).length ≤ maxLen by simp [maxLen]; omega)
  have L2m := hide (show (l.drop (k + 4)).length ≤ maxLen by simp [maxLen]; omega)
  have N1 := hide (num4_take (l.drop k))
  go_enter Tryz.func58, Tryz.ntmps58
  go_wp2_with fail
  refine (wordOf_calls' _ _ _ (l.drop (k + 4)) _ (unhide L2) (unhide L2') (unhide L2m) (unhide B2)).mono ?_
  rintro e w1 ⟨rfl, hb1⟩
  have B1a := hide ((unhide B1).later hb1)
  have HBa := hide ((unhide HB).later hb1)
  generalize hsm : num4 (l.drop (k + 4)) = sm at *
  have Hsm := hide hsm
  clear hsm
  go_wp2_with fail
  refine (wordOf_calls' _ _ _ ((l.drop k).take 4) _ (unhide L1) (unhide L1') (unhide L1m) (unhide B1a)).mono ?_
  rintro e w2 ⟨rfl, hb2⟩
  have B1b := hide ((unhide B1a).later hb2)
  have HBb := hide ((unhide HBa).later hb2)
  have hb02 : Below w.heap.size w w2 := hb1.trans (hb2.mono hb1.size)
  rw [unhide N1]
  generalize hnn : num4 (l.drop k) = n at *
  have Hn := hide hnn
  clear hnn
  by_cases hA : 65536 < n
  · have HE' := hide ((unhide HE).trans (if_pos hA))
    go_wp2
    go_ret3
    refine ⟨hb02, Or.inl ⟨by rw [unhide HE']; omega, by rw [unhide HE']; rfl⟩⟩
  · have HE' := hide ((unhide HE).trans (if_neg hA))
    have hA' : ¬ 65536 < (n : Int) := by omega
    go_wp2_with fail
    refine (wordOf_calls' _ _ _ ((l.drop k).take 4) _ (unhide L1) (unhide L1') (unhide L1m) (unhide B1b)).mono ?_
    rintro e w3 ⟨rfl, hb3⟩
    have B1c := hide ((unhide B1b).later hb3)
    have HBc := hide ((unhide HBb).later hb3)
    have hb03 : Below w.heap.size w w3 := hb02.trans (hb3.mono hb02.size)
    rw [unhide N1]
    by_cases hC : l.length - k - 8 < n
    · have HE'' := hide ((unhide HE').trans (if_pos hC))
      have hC' : (l.length : Int) - ((k : Int) + 8) < (n : Int) := by omega
      go_wp2
      go_ret3
      refine ⟨hb03, Or.inl ⟨by rw [unhide HE'']; omega, by rw [unhide HE'']; rfl⟩⟩
    · have HE'' := hide ((unhide HE').trans (if_neg hC))
      have hC' : ¬ (l.length : Int) - ((k : Int) + 8) < (n : Int) := by omega
      have s3 := run_slice_lh8 a l.length c (k + 8) (k + 8 + n) (by omega) (by omega)
      have B3 := hide (((unhide HBc).drop (k + 8) c hc).take n)
      have e3 : ((k + 8 : Nat) : Int) = (k : Int) + 8 := by omega
      have e4 : ((k + 8 + n : Nat) : Int) = (k : Int) + 8 + (n : Int) := by omega
      rw [e3, e4] at s3
      rw [show k + 8 + n - (k + 8) = n by omega] at s3
      generalize hp3 : slp a (k + 8) c = p3 at *
      have hL3 : ((l.drop (k + 8)).take n).length = n := by simp; omega
      have L3 := hide hL3
      have L3m := hide (show ((l.drop (k + 8)).take n).length ≤ maxLen by rw [hL3]; simp [maxLen]; omega)
      clear e3 e4 hp3 hL3
      go_wp2_with fail
      refine (frameSum_calls' _ _ _ _ _ _ ((l.drop k).take 4) ((l.drop (k + 8)).take n) _ (unhide L1) (unhide L3) (unhide L1m) (unhide L3m) (unhide B1c) (unhide B3)).mono ?_
      rintro e w4 ⟨rfl, rfl⟩
      have hsl := Crc.ext_lt (Crc.ext 0 ((l.drop k).take 4)) ((l.drop (k + 8)).take n)
      generalize hss : Crc.ext (Crc.ext 0 ((l.drop k).take 4)) ((l.drop (k + 8)).take n) = ss at *
      have Hss := hide hss
      clear hss
      by_cases hD : ss = sm
      · have HE3 := hide ((unhide HE'').trans (if_pos hD))
        have hD' : ((ss : Int) != (sm : Int)) = false := by rw [hD]; simp
        have hmk := run_make8 n (by omega)
        go_wp2_with (refine wpList_copy8 rfl (.tmp 63) (.tmp 64) rfl (some ⟨w4.heap.size, 0, none⟩) p3 n n n _ rfl rfl w4.heap.size 0 (zeros n) ?hg ((l.drop (k + 8)).take n) ?hsl (by exact unhide L3) (Nat.le_refl _) (fun _ => rfl) (by rw [zeros_length]; omega) ?_; rotate_right; intro W6 h6 hb6)
        case hg => exact heap_new _ _
        case hsl => exact (unhide B3).later ((Below.refl _ _).alloc (Nat.le_refl _) _)
        have hbw : Below w4.heap.size w4 W6 := ((Below.refl _ _).alloc (Nat.le_refl _) _).trans hb6
        have hX := splice_whole (zeros n) ((l.drop (k + 8)).take n) (by rw [zeros_length, unhide L3])
        rw [hX] at h6
        go_ret3
        refine ⟨hb03.trans (hbw.mono hb03.size), Or.inr ⟨unhide HE3, w4.heap.size, ?_, hb03.size, by rw [unhide HH]; exact unhide h6⟩⟩
        rw [unhide HH, unhide L3]
        rfl
      · have HE3 := hide ((unhide HE'').trans (if_neg hD))
        have hD' : ((ss : Int) != (sm : Int)) = true := by simp; omega
        go_wp2
        go_ret3
        refine ⟨hb03, Or.inl ⟨by rw [unhide HE3]; omega, by rw [unhide HE3]; rfl⟩⟩
end Go.Proofs.YtagncghpfdjkmaaGreatDoor
end
/- What is framed is read as it was (plain), strings of bytes, and the contract of the statements' own function live. -/
section
namespace Go.Proofs.YtagncghpfdjkmaaGreatDoor
open Go.ChangeShapes Go.WideShapes Go.ChangeAt Go.RowKit

theorem num4_word4 (n : Nat) (rest : List Nat) : num4 (word4 n ++ rest) = n := by
  simp only [num4, word4, List.cons_append, List.getD_cons_zero, List.getD_cons_succ]
  omega
theorem frameB_length (l : List Nat) : (frameB l).length = 8 + l.length := by simp only [frameB, List.length_append, word4_length]; omega
theorem frameB_lt {l : List Nat} (hl : ∀ c ∈ l, c < 256) (h : l.length ≤ 65536) : ∀ c ∈ frameB l, c < 256 := by
  intro c hc
  simp only [frameB, List.mem_append] at hc
  rcases hc with hc | hc | hc
  · exact word4_lt _ (by omega) c hc
  · exact word4_lt _ (fsum_lt _ _) c hc
  · exact hl c hc
/-- The four pieces of a frame with something ahead and behind. -/
theorem frame_drops (ahead l behind : List Nat) :
    (ahead ++ (frameB l ++ behind)).drop ahead.length = word4 l.length ++ (word4 (fsum l.length l) ++ (l ++ behind)) ∧
    (ahead ++ (frameB l ++ behind)).drop (ahead.length + 4) = word4 (fsum l.length l) ++ (l ++ behind) ∧
    (ahead ++ (frameB l ++ behind)).drop (ahead.length + 8) = l ++ behind := by
  have h0 : (ahead ++ (frameB l ++ behind)).drop ahead.length = word4 l.length ++ (word4 (fsum l.length l) ++ (l ++ behind)) := by
    rw [List.drop_left]; simp [frameB, List.append_assoc]
  refine ⟨h0, ?_, ?_⟩
  · rw [← List.drop_drop, h0, show 4 = (word4 l.length).length from (word4_length _).symm, List.drop_left]
  · rw [show ahead.length + 8 = ahead.length + 4 + 4 by omega, ← List.drop_drop, ← List.drop_drop, h0]
    rw [show (word4 l.length ++ (word4 (fsum l.length l) ++ (l ++ behind))).drop 4 = word4 (fsum l.length l) ++ (l ++ behind) by
      conv => lhs; rw [← word4_length l.length]
      rw [List.drop_left]]
    conv => lhs; rw [← word4_length (fsum l.length l)]
    rw [List.drop_left]
theorem frame_next (ahead l behind : List Nat) (hl : l.length ≤ 65536) : nextE (ahead ++ (frameB l ++ behind)) ahead.length = 0 ∧ nextH (ahead ++ (frameB l ++ behind)) ahead.length = l := by
  obtain ⟨h0, h4, h8⟩ := frame_drops ahead l behind
  have hn : num4 ((ahead ++ (frameB l ++ behind)).drop ahead.length) = l.length := by rw [h0, num4_word4]
  have hs : num4 ((ahead ++ (frameB l ++ behind)).drop (ahead.length + 4)) = fsum l.length l := by rw [h4, num4_word4]
  have ht : ((ahead ++ (frameB l ++ behind)).drop ahead.length).take 4 = word4 l.length := by
    rw [h0]
    conv => lhs; rw [← word4_length l.length]
    rw [List.take_left]
  have hh : ((ahead ++ (frameB l ++ behind)).drop (ahead.length + 8)).take l.length = l := by rw [h8, List.take_left]
  have hlen : (ahead ++ (frameB l ++ behind)).length = ahead.length + (8 + l.length + behind.length) := by simp only [List.length_append, frameB_length]
  constructor
  · unfold nextE
    rw [hn, hs, ht, hh, hlen, if_neg (by omega), if_neg (by omega), if_neg (by omega), if_pos]
    rfl
  · unfold nextH
    rw [hn, hh]

theorem frame_ok' (a : Option Addr) (n c : Nat) (l : List Nat) (w : World) (hn : l.length = n) (hb : BytesAt w a l) (h : l.length ≤ 65536) :
    Calls Tryz.prog 53 #[.slice a n c] w fun e w' => ∃ g, e = .returned (.tuple #[.slice (some ⟨g, 0, none⟩) (8 + n) (8 + n), .int .i64 0]) ∧ Below w.heap.size w w' ∧ w.heap.size ≤ g ∧ w'.heap[g]? = some (.cells ((frameB l).map byteV).toArray 5 (0, 0)) := by
  subst hn; exact frame_ok a c l w hb h
/-- Next at a place where a frame stands. -/
theorem next_ok' (a : Option Addr) (n c : Nat) (l h : List Nat) (k : Nat) (kk : Int) (w : World) (hkk : kk = (k : Int)) (hn : l.length = n) (hl : l.length ≤ maxLen) (hc : l.length ≤ c) (hk : k ≤ l.length) (h8 : ¬ l.length - k < 8) (hb : BytesAt w a l) (he : nextE l k = 0) (hh : nextH l k = h) :
    Calls Tryz.prog 58 #[.slice a n c, .int .i64 kk] w fun e w' => ∃ g, e = .returned (.tuple #[.slice (some ⟨g, 0, none⟩) h.length h.length, .int .i64 ((k + 8 + h.length : Nat) : Int), .int .i64 0]) ∧ Below w.heap.size w w' ∧ w.heap.size ≤ g ∧ w'.heap[g]? = some (.cells (h.map byteV).toArray 5 (0, 0)) := by
  subst hn; subst hkk; subst hh
  refine (next_calls a c l k w hl hc hk h8 hb).mono ?_
  rintro e w' ⟨hbw, ⟨hpos, _⟩ | ⟨_, g, rfl, hg, hcells⟩⟩
  · omega
  · exact ⟨g, rfl, hbw, hg, hcells⟩
end Go.Proofs.YtagncghpfdjkmaaGreatDoor
end
/- The contract of frame.All: what all frames from the beginning on hold, and the place behind them. -/
section
namespace Go.Proofs.YtagncghpfdjkmaaGreatDoor
open Go.ChangeShapes Go.WideShapes Go.ChangeAt Go.RowKit

/-- Rows of bytes in memory of the call's own. -/
structure OwnS (base : Nat) (w : World) (v : Value) (hs : List (List Nat)) : Prop where
  ex : ∃ cs : List Value, w.ownsRow base 27 1 v hs.length cs ∧ ∀ i, i < hs.length → ∃ p c, cs[i]? = some (.slice p (hs.getD i []).length c) ∧ OwnB base w p c (hs.getD i [])
  lt : ∀ h ∈ hs, ∀ c ∈ h, c < 256

theorem OwnS.ofNil (base : Nat) (w : World) : OwnS base w (.slice none 0 0) [] :=
  ⟨⟨[], w.ownsRow_nil base 27 1, by simp⟩, by simp⟩
theorem OwnS.form {base : Nat} {w : World} {v : Value} {hs : List (List Nat)} (h : OwnS base w v hs) : ∃ sp c, v = .slice sp hs.length c := by
  obtain ⟨cs, ho, _⟩ := h.ex
  rcases ho.2 with ⟨hv, h0⟩ | ⟨g, cap, cur, hv, _⟩
  · exact ⟨none, 0, by rw [hv, h0]⟩
  · exact ⟨_, _, hv⟩
theorem OwnS.later {base : Nat} {w w' : World} {v : Value} {hs : List (List Nat)} (h : OwnS base w v hs) (hb : Below w.heap.size w w') : OwnS base w' v hs := by
  obtain ⟨cs, ho, hc⟩ := h.ex
  refine ⟨⟨cs, ⟨ho.1, ?_⟩, fun i hi => ?_⟩, h.lt⟩
  · rcases ho.2 with hv | ⟨g, cap, cur, hv, hbg, hg, r⟩
    · exact .inl hv
    · exact .inr ⟨g, cap, cur, hv, hbg, (hb.block g (Array.getElem?_eq_some_iff.1 hg).1).trans hg, r⟩
  · obtain ⟨p, c, h1, h2⟩ := hc i hi
    exact ⟨p, c, h1, h2.later hb⟩
theorem OwnS.mono {base base' : Nat} {w : World} {v : Value} {hs : List (List Nat)} (h : OwnS base w v hs) (hb : base' ≤ base) : OwnS base' w v hs := by
  obtain ⟨cs, ho, hc⟩ := h.ex
  refine ⟨⟨cs, ⟨ho.1, ?_⟩, fun i hi => ?_⟩, h.lt⟩
  · rcases ho.2 with hv | ⟨g, cap, cur, hv, hbg, r⟩
    · exact .inl hv
    · exact .inr ⟨g, cap, cur, hv, by omega, r⟩
  · obtain ⟨p, c, h1, h2⟩ := hc i hi
    exact ⟨p, c, h1, h2.mono hb⟩
theorem infoS : (Tryz.prog.info? 27).map (fun i => (i.zero, i.size, i.bytes)) = some (some (.slice none 0 0), 1, 24) := by kernel_rfl

theorem wpList_appendS {w : World} {ops : Array Oper} {rest : List Oper} {o : Oper} {a : Act} {Q : Exit → Act → World → Prop} (hgd : o.guard = none) (s x : Operand)
    (ho : o.op = .call { callee := .builtin .append, args := #[s, x], argTypes := #[70, 70] })
    (base : Nat) (v : Value) (hs : List (List Nat)) (he : a.eval s = v) (hown : OwnS base w v hs)
    (B : Nat) (hx : a.eval x = .slice (some ⟨B, 0, none⟩) 1 1) (p : Option Addr) (pc : Nat) (h : List Nat) (hB : w.cell? ⟨B, 0, none⟩ = some (.slice p h.length pc))
    (hg : OwnB base w p pc h) (hsz : hs.length ≤ 1099511627776) (hbase : base ≤ w.heap.size)
    (K : ∀ v' w', OwnS base w' v' (hs ++ [h]) → Below base w w' → wpList Tryz.prog ops Q rest (a.put o.dst v') w') :
    wpList Tryz.prog ops Q (o :: rest) a w := by
  obtain ⟨i0, hi, hz0, hz1, hz2⟩ := info_parts infoS
  obtain ⟨cs, ho1, hc⟩ := hown.ex
  refine wpList_append_own (w := w) hgd s x 70 ho base 27 i0 (.slice none 0 0) 1 24 Tryz.underlying70 hi hz0 hz1 hz2 rfl (by omega) v hs.length cs he ho1 ⟨B, 0, none⟩ 1 1 [.slice p h.length pc] hx rfl ?_ ?_ ?_ ?_ hbase ?_
  · intro j u hu
    cases j with
    | zero => simp only [List.getElem?_cons_zero, Option.some.injEq] at hu; subst hu; rw [Addr.add_lit]; exact hB
    | succ j => simp at hu
  · intro u hu
    simp only [List.mem_cons, List.not_mem_nil, or_false] at hu
    subst hu
    rfl
  · simp only [maxLen]; omega
  · omega
  · intro v' w' h1 h2 _
    have hbel : Below base w w' := (Below.refl base w).grown h2 hbase (fun j hj => (ho1.lt j hj).1)
    refine K v' w' ⟨⟨cs ++ [.slice p h.length pc], by rw [List.length_append]; exact h1, fun i hi => ?_⟩, ?_⟩ hbel
    · have hcl : cs.length = hs.length := by have := ho1.1; omega
      have hkeep : ∀ (p : Option Addr) (c : Nat) (x : List Nat), OwnB base w p c x → OwnB base w' p c x := by
        intro p c x hx
        refine ⟨⟨hx.owns.1, ?_⟩, hx.lt⟩
        rcases hx.owns.2 with hv | ⟨g', cap, cur, hv, hbg, hg', r⟩
        · exact .inl hv
        · refine .inr ⟨g', cap, cur, hv, hbg, ?_, r⟩
          rw [h2.block g' (Array.getElem?_eq_some_iff.1 hg').1 ?_]
          · exact hg'
          · intro e
            rcases ho1.2 with ⟨hv, _⟩ | ⟨gg, cap, cc, hv, _, hgg, _⟩
            · rw [hv] at e; simp [Value.ownBlock] at e
            · rw [hv] at e
              simp only [Value.ownBlock, Option.some.injEq] at e
              subst e
              rw [hg'] at hgg
              simp only [Option.some.injEq, Obj.cells.injEq] at hgg
              exact absurd hgg.2.1 (by decide)
      rw [List.length_append] at hi
      by_cases hlt' : i < hs.length
      · obtain ⟨p', c', r1, r2⟩ := hc i hlt'
        have e1 : (hs ++ [h]).getD i [] = hs.getD i [] := by rw [List.getD_eq_getElem?_getD, List.getElem?_append_left hlt', List.getD_eq_getElem?_getD]
        rw [e1, List.getElem?_append_left (by omega)]
        exact ⟨p', c', r1, hkeep p' c' _ r2⟩
      · have hi' : i = hs.length := by simp at hi; omega
        have e1 : (hs ++ [h]).getD i [] = h := by rw [List.getD_eq_getElem?_getD, hi', List.getElem?_append_right (Nat.le_refl _), Nat.sub_self]; rfl
        rw [e1, hi', ← hcl, List.getElem?_append_right (Nat.le_refl _), Nat.sub_self]
        exact ⟨p, pc, rfl, hkeep p pc h hg⟩
    · intro x hx
      rcases List.mem_append.1 hx with h3 | h3
      · exact hown.lt x h3
      · simp only [List.mem_cons, List.not_mem_nil, or_false] at h3; subst h3; exact hg.lt

/-- The frames from a place to another one. -/
def Steps (l : List Nat) : Nat → List (List Nat) → Nat → Prop
  | k0, [], k => k0 = k
  | k0, h :: r, k => nextE l k0 = 0 ∧ nextH l k0 = h ∧ Steps l (k0 + 8 + h.length) r k
/-- A frame that is there ends within the bytes. -/
theorem nextE_zero {l : List Nat} {k : Nat} (h : nextE l k = 0) : 8 ≤ l.length - k ∧ (nextH l k).length = num4 (l.drop k) ∧ k + 8 + (nextH l k).length ≤ l.length := by
  unfold nextE at h
  split at h
  · omega
  · split at h
    · omega
    · split at h
      · omega
      · next h1 _ h3 =>
        refine ⟨by omega, ?_, ?_⟩
        · simp only [nextH, List.length_take, List.length_drop]; omega
        · simp only [nextH, List.length_take, List.length_drop]; omega

theorem nextH_lt {l : List Nat} (h : ∀ c ∈ l, c < 256) (k : Nat) : ∀ c ∈ nextH l k, c < 256 := fun c hc => h c (List.mem_of_mem_drop (List.mem_of_mem_take hc))

/-- Next at any place that may be. -/
theorem next_any (a : Option Addr) (c : Nat) (l : List Nat) (k : Nat) (w : World) (hl : l.length ≤ maxLen) (hc : l.length ≤ c) (hk : k ≤ l.length) (hb : BytesAt w a l) :
    Calls Tryz.prog 58 #[.slice a l.length c, .int .i64 (k : Int)] w fun e w' => Below w.heap.size w w' ∧
      ((0 < nextE l k ∧ e = .returned (.tuple #[.slice none 0 0, .int .i64 0, .int .i64 (nextE l k : Nat)])) ∨
       (nextE l k = 0 ∧ ∃ g, e = .returned (.tuple #[.slice (some ⟨g, 0, none⟩) (nextH l k).length (nextH l k).length, .int .i64 ((k + 8 + (nextH l k).length : Nat) : Int), .int .i64 0]) ∧ w.heap.size ≤ g ∧ w'.heap[g]? = some (.cells ((nextH l k).map byteV).toArray 5 (0, 0)))) := by
  by_cases h8 : l.length - k < 8
  · refine (next_short a c l k w hl hk h8).mono ?_
    rintro e w' ⟨rfl, rfl⟩
    have e3 : nextE l k = 3 := by unfold nextE; rw [if_pos h8]
    exact ⟨Below.refl _ _, .inl ⟨by omega, by rw [e3]; rfl⟩⟩
  · exact next_calls a c l k w hl hc hk h8 hb

end Go.Proofs.YtagncghpfdjkmaaGreatDoor
end
/- wire.TakeNumber at a place that may be. -/
section
namespace Go.Proofs.YtagncghpfdjkmaaGreatDoor
open Go.ChangeShapes Go.WideShapes Go.ChangeAt Go.RowKit
set_option linter.unusedVariables false

theorem takeE_leb {l : List Nat} {k n k2 : Nat} (h : takeE l k = .ok (n, k2)) (hl : ∀ c ∈ l, c < 256) : k2 ≤ l.length ∧ n ≤ 1099511627776 := by
  obtain ⟨_, _, h3, h4⟩ := takeE_back hl h
  exact ⟨h3, h4⟩
theorem takeNum_ok (a : Option Addr) (m c : Nat) (l : List Nat) (k n k2 : Nat) (w : World) (hm : l.length = m) (hl : m ≤ maxLen) (hk : k ≤ l.length) (hb : BytesAt w a l) (ht : takeE l k = .ok (n, k2)) :
    Calls Tryz.prog 124 #[.slice a m c, .int .i64 (k : Int)] w fun e w' => e = .returned (.tuple #[.int .i64 (n : Int), .int .i64 (k2 : Int), .int .i64 0]) ∧ Below w.heap.size w w' := by
  unfold takeE at ht
  split at ht
  · rename_i h0
    simp only [Except.ok.injEq, Prod.mk.injEq] at ht
    refine take_ok a m c l k n k2 (k : Int) w hm rfl (by omega) hk hb ?_
    rw [← ht.1, ← ht.2, ← h0]
  · cases ht
theorem takeNum_bad (a : Option Addr) (m c : Nat) (l : List Nat) (k x : Nat) (w : World) (hm : l.length = m) (hl : m ≤ maxLen) (hk : k ≤ l.length) (hb : BytesAt w a l) (ht : takeE l k = .error x) :
    Calls Tryz.prog 124 #[.slice a m c, .int .i64 (k : Int)] w fun e w' => e = .returned (.tuple #[.int .i64 0, .int .i64 0, .int .i64 (x : Int)]) ∧ Below w.heap.size w w' := by
  have hx := takeE_pos ht
  unfold takeE at ht
  split at ht
  · cases ht
  · simp only [Except.error.injEq] at ht
    exact take_bad a m c l k x (k : Int) w hm rfl (by omega) hk hb ht hx
end Go.Proofs.YtagncghpfdjkmaaGreatDoor
end
