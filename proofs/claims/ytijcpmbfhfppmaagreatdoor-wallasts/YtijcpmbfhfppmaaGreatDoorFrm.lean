/- The contracts of frame.word, frame.wordOf, frame.frameSum, frame.Frame. -/
import Derived.Test.YtijcpmbfhfppmaaGreatDoorExt
import Derived.Laws.CopyOwn
import Derived.Deep.QuietTactic
import Derived.BigQuiet
namespace Go.Proofs.YtijcpmbfhfppmaaGreatDoor
open Go.ChangeShapes Go.WideShapes Go.ChangeAt Go.RowKit

/-- A number as four bytes, the highest first. -/
def word4 (n : Nat) : List Nat := [n / 16777216, n / 65536 % 256, n / 256 % 256, n % 256]
theorem word4_lt (n : Nat) (hn : n < 4294967296) : ∀ c ∈ word4 n, c < 256 := by
  intro c hc
  simp only [word4, List.mem_cons, List.not_mem_nil, or_false] at hc
  omega
theorem word4_length (n : Nat) : (word4 n).length = 4 := by simp [word4]
set_option maxHeartbeats 400000 in
theorem word_calls (n : Nat) (w : World) (hn : n < 4294967296) :
    Calls Tryz.prog 167 #[.int .u32 (n : Int)] w fun e w' => ∃ b0 b1 b2 b3 : Nat, e = .returned (.agg #[.int .u8 (b0 : Int), .int .u8 (b1 : Int), .int .u8 (b2 : Int), .int .u8 (b3 : Int)]) ∧ Below w.heap.size w w' ∧ Hid (word4 n = [b0, b1, b2, b3]) := by
  go_enter Tryz.func167, Tryz.ntmps167
  go_wp2
  refine bodyPost_ret (v := .agg #[.int .u8 ((n : Int) / 16777216), .int .u8 ((n : Int) / 65536 % 256), .int .u8 ((n : Int) / 256 % 256), .int .u8 ((n : Int) % 256)]) (by simp [results, Tryz.results167, go_sem]) rfl ?_
  exact ⟨n / 16777216, n / 65536 % 256, n / 256 % 256, n % 256, rfl, (Below.refl _ _).alloc (Nat.le_refl _) _, rfl⟩

/-- Four bytes as a number. -/
def num4 (l : List Nat) : Nat := l.getD 0 0 * 16777216 + l.getD 1 0 * 65536 + l.getD 2 0 * 256 + l.getD 3 0

theorem or4 (x0 x1 x2 x3 : Nat) (l0 : x0 < 256) (l1 : x1 < 256) (l2 : x2 < 256) (l3 : x3 < 256) :
    bits .or .u32 (bits .or .u32 (bits .or .u32 ((x0 : Int) * 16777216) ((x1 : Int) * 65536)) ((x2 : Int) * 256)) (x3 : Int) = ((x0 * 16777216 + x1 * 65536 + x2 * 256 + x3 : Nat) : Int) := by
  have e0 : ((x0 : Int) * 16777216) = ((x0 * 16777216 : Nat) : Int) := by omega
  have e1 : ((x1 : Int) * 65536) = ((x1 * 65536 : Nat) : Int) := by omega
  have e2 : ((x2 : Int) * 256) = ((x2 * 256 : Nat) : Int) := by omega
  rw [e0, e1, e2, u32_or_nat _ _ (by omega) (by omega), nat_join 24 (x0 * 16777216) (x1 * 65536) (by omega) (by omega),
    u32_or_nat _ _ (by omega) (by omega), nat_join 16 _ (x2 * 256) (by omega) (by omega),
    u32_or_nat _ _ (by omega) (by omega), nat_join 8 _ x3 (by omega) (by omega)]

set_option maxHeartbeats 400000 in
theorem wordOf_calls (a : Option Addr) (c : Nat) (l : List Nat) (w : World) (h4 : 4 ≤ l.length) (hl : l.length ≤ maxLen) (hb : BytesAt w a l) :
    Calls Tryz.prog 161 #[.slice a l.length c] w fun e w' => e = .returned (.int .u32 ((num4 l : Nat) : Int)) ∧ Below w.heap.size w w' := by
  unfold maxLen at hl
  obtain ⟨b, off, rfl, hc⟩ := bytesAt_some hb (by omega)
  have c0 := hc 0 (by omega)
  have c1 := hc 1 (by omega)
  have c2 := hc 2 (by omega)
  have c3 := hc 3 (by omega)
  have l0 := getD_lt hb.lt 0
  have l1 := getD_lt hb.lt 1
  have l2 := getD_lt hb.lt 2
  have l3 := getD_lt hb.lt 3
  have HR : Hid (num4 l = l.getD 0 0 * 16777216 + l.getD 1 0 * 65536 + l.getD 2 0 * 256 + l.getD 3 0) := rfl
  clear hc hb
  rw [Nat.add_zero] at c0
  generalize num4 l = r at *
  generalize l.getD 0 0 = x0 at *
  generalize l.getD 1 0 = x1 at *
  generalize l.getD 2 0 = x2 at *
  generalize l.getD 3 0 = x3 at *
  generalize l.length = n at *
  go_enter Tryz.func161, Tryz.ntmps161
  go_wp2
  go_quiet (fail)
  go_wp2
  go_ret
  exact ⟨ret_int (by rw [or4 x0 x1 x2 x3 l0 l1 l2 l3, HR.out]), below_drewN (Below.refl _ _) _⟩

/-- What a frame's sum is taken over. -/
def fsum (n : Nat) (l : List Nat) : Nat := Crc.ext (Crc.ext 0 (word4 n)) l
theorem fsum_lt (n : Nat) (l : List Nat) : fsum n l < 4294967296 := Crc.ext_lt _ _

set_option maxHeartbeats 400000 in
theorem frameSum_calls (a a' : Option Addr) (c c' : Nat) (h l : List Nat) (w : World) (hh : h.length ≤ maxLen) (hl : l.length ≤ maxLen) (hb : BytesAt w a h) (hb' : BytesAt w a' l) :
    Calls Tryz.prog 162 #[.slice a h.length c, .slice a' l.length c'] w fun e w' => e = .returned (.int .u32 ((Crc.ext (Crc.ext 0 h) l : Nat) : Int)) ∧ w' = w := by
  have hB := hide hb
  have hB' := hide hb'
  clear hb hb'
  go_enter Tryz.func162, Tryz.ntmps162
  go_wp2_with fail
  refine (sum_calls _ _ h _ hh (unhide hB)).mono ?_
  rintro e w' ⟨rfl, rfl⟩
  go_wp2_with fail
  refine (extend_calls _ _ _ l _ (Crc.ext_lt _ _) hl (unhide hB')).mono ?_
  rintro e w' ⟨rfl, rfl⟩
  go_wp2
  go_ret
  exact ⟨rfl, rfl⟩

theorem frame_long (a : Option Addr) (c : Nat) (l : List Nat) (w : World) (hl : l.length ≤ maxLen) (h : 65536 < l.length) :
    Calls Tryz.prog 138 #[.slice a l.length c] w fun e w' => e = .returned (.tuple #[.slice none 0 0, .int .i64 6]) ∧ w' = w := by
  unfold maxLen at hl
  go_enter Tryz.func138, Tryz.ntmps138
  go_wp2
  go_ret2
  exact ⟨rfl, rfl⟩

/-- A frame's bytes. -/
def frameB (l : List Nat) : List Nat := word4 l.length ++ (word4 (fsum l.length l) ++ l)

set_option maxHeartbeats 1000000 in
theorem frame_ok (a : Option Addr) (c : Nat) (l : List Nat) (w : World) (hb : BytesAt w a l) (h : l.length ≤ 65536) :
    Calls Tryz.prog 138 #[.slice a l.length c] w fun e w' => ∃ g, e = .returned (.tuple #[.slice (some ⟨g, 0, none⟩) (8 + l.length) (8 + l.length), .int .i64 0]) ∧ Below w.heap.size w w' ∧ w.heap.size ≤ g ∧ w'.heap[g]? = some (.cells ((frameB l).map byteV).toArray 5 (0, 0)) := by
  have hB := hide hb
  clear hb
  go_enter Tryz.func138, Tryz.ntmps138
  go_wp2_with fail
  refine (word_calls l.length _ (by omega)).mono ?_
  rintro e w1 ⟨b0, b1, b2, b3, rfl, hb1, h1⟩
  have hlt1 : ∀ c ∈ [b0, b1, b2, b3], c < 256 := by rw [← unhide h1]; exact word4_lt _ (by omega)
  have hW1 := heap_new w1 (.cells #[.int .u8 (b0 : Int), .int .u8 (b1 : Int), .int .u8 (b2 : Int), .int .u8 (b3 : Int)] 197)
  have hbW1 : Below w.heap.size w (w1.alloc (.cells #[.int .u8 (b0 : Int), .int .u8 (b1 : Int), .int .u8 (b2 : Int), .int .u8 (b3 : Int)] 197)) := hb1.alloc hb1.size _
  have hB1 := hide (bytesAt_block (l := [b0, b1, b2, b3]) hW1 hlt1)
  have hBl1 := hide ((unhide hB).later hbW1)
  have HW1 := hide hW1
  have HB1 := hide hbW1
  clear hW1 hbW1 hB
  go_wp2_with fail
  generalize w1.alloc _ = W1 at *
  refine (frameSum_calls _ _ _ _ [b0, b1, b2, b3] l _ (by simp [maxLen]) (by unfold maxLen; omega) (unhide hB1) (unhide hBl1)).mono ?_
  rintro e W1 ⟨rfl, rfl⟩
  rw [← unhide h1]
  have HS := hide (show Crc.ext (Crc.ext 0 (word4 l.length)) l = fsum l.length l from rfl)
  rw [unhide HS]
  generalize hs : fsum l.length l = s at *
  have Hs := hide hs
  have hslt : s < 4294967296 := by rw [← hs]; exact fsum_lt _ _
  clear hs
  go_wp2_with fail
  refine (word_calls s _ hslt).mono ?_
  rintro e w2 ⟨c0, c1, c2, c3, rfl, hb2, h2⟩
  have hlt2 : ∀ c ∈ [c0, c1, c2, c3], c < 256 := by rw [← unhide h2]; exact word4_lt _ hslt
  have hW2 := heap_new w2 (.cells #[.int .u8 (c0 : Int), .int .u8 (c1 : Int), .int .u8 (c2 : Int), .int .u8 (c3 : Int)] 197)
  have hsz2 := hb2.size
  have hbW2 : Below W1.heap.size W1 (w2.alloc (.cells #[.int .u8 (c0 : Int), .int .u8 (c1 : Int), .int .u8 (c2 : Int), .int .u8 (c3 : Int)] 197)) := hb2.alloc hb2.size _
  have hmk := run_make8 (8 + l.length) (by omega)
  have e8 : ((8 + l.length : Nat) : Int) = 8 + (l.length : Int) := by omega
  rw [e8] at hmk
  clear e8
  have hW3 := fun o1 o2 => heap_new (w2.alloc o1) o2
  have hbW3 : ∀ o1 o2, Below (w2.heap.size + 1) (w2.alloc o1) ((w2.alloc o1).alloc o2) := fun o1 o2 => (Below.refl _ _).alloc (by simp) _
  simp only [World.size_alloc] at hW3
  have HW3 := hide hW3
  have hsB := (unhide HB1).size
  have HF := hide (fun o2 W (hb : Below (w2.heap.size + 1) ((w2.alloc (.cells #[.int .u8 (c0 : Int), .int .u8 (c1 : Int), .int .u8 (c2 : Int), .int .u8 (c3 : Int)] 197)).alloc o2) W) =>
    (show BytesAt W (some ⟨w1.heap.size, 0, none⟩) [b0, b1, b2, b3] ∧ BytesAt W (some ⟨w2.heap.size, 0, none⟩) [c0, c1, c2, c3] ∧ BytesAt W a l ∧ Below w.heap.size w W from by
      have hq : Below (w2.heap.size + 1) (w2.alloc (.cells #[.int .u8 (c0 : Int), .int .u8 (c1 : Int), .int .u8 (c2 : Int), .int .u8 (c3 : Int)] 197)) W := (hbW3 _ o2).trans hb
      have hq1 : Below W1.heap.size W1 W := hbW2.trans (hq.mono (by omega))
      exact ⟨(unhide hB1).later hq1, (bytesAt_block (l := [c0, c1, c2, c3]) hW2 hlt2).later (hq.mono (by simp)), (unhide hBl1).later hq1, (unhide HB1).trans (hq1.mono hsB)⟩))
  clear hW3 hW2 hbW2 hbW3 hlt1 hlt2 hB1 hBl1 HW1 hb1 hb2 HS
  have hz : 0 + 4 ≤ (zeros (8 + l.length)).length := by rw [zeros_length]; omega
  go_wp2_with (refine wpList_copy8 rfl (.tmp 22) (.tmp 23) rfl (some ⟨w2.heap.size + 1, 0, none⟩) (some ⟨w1.heap.size, 0, none⟩) (8 + l.length) (8 + l.length) 4 4 rfl rfl (w2.heap.size + 1) 0 (zeros (8 + l.length)) ?hg [b0, b1, b2, b3] ?hsl rfl (by omega) (fun _ => rfl) hz ?_; rotate_right; intro W4 h4 hb4)
  case hg => exact unhide HW3 _ _
  case hsl => exact (unhide HF _ _ (Below.refl _ _)).1
  have F4 := hide (unhide HF _ _ hb4)
  generalize hZ1 : splice (zeros (8 + l.length)) 0 [b0, b1, b2, b3] = Z1 at *
  have HZ1 := hide hZ1
  have hz1 : 4 + 4 ≤ Z1.length := by rw [← hZ1, length_splice _ _ _ (by simp only [zeros_length, List.length_cons, List.length_nil]; omega), zeros_length]; omega
  clear hZ1 HW3 hmk
  have q1 : (4 : Int) ≤ 8 + (l.length : Int) := by omega
  have q2 : ¬ (8 + l.length = 4) := by omega
  have q3 : 8 + l.length - 4 = 4 + l.length := by omega
  go_region_law (refine step_copy8 rfl (.tmp 26) (.tmp 27) rfl (some ⟨w2.heap.size + 1, 4, none⟩) (some ⟨w2.heap.size, 0, none⟩) (4 + l.length) (4 + l.length) 4 4 rfl rfl (w2.heap.size + 1) 4 Z1 (by exact unhide h4) [c0, c1, c2, c3] (by exact (unhide F4).2.1.drew) rfl (by omega) (fun _ => rfl) hz1 ?_; intro W5 h5 hb5)
  have hb45 : Below (w2.heap.size + 1) W4 W5 := ((Below.refl _ _).drew).trans hb5
  have F5 := hide (unhide HF _ _ (hb4.trans hb45))
  generalize hZ2 : splice Z1 4 [c0, c1, c2, c3] = Z2 at *
  have HZ2 := hide hZ2
  have hz2 : 8 + l.length ≤ Z2.length := by
    rw [← hZ2, length_splice _ _ _ (by simp only [List.length_cons, List.length_nil]; omega), ← unhide HZ1, length_splice _ _ _ (by simp only [zeros_length, List.length_cons, List.length_nil]; omega), zeros_length]
    exact Nat.le_refl _
  clear hZ2 q1 q2 q3 hb5 h4 F4
  have hs8 : ∀ u : World, (Instr.slice 58 (.slice (some ⟨w2.heap.size + 1, 0, none⟩) (8 + l.length) (8 + l.length)) (some (.int .i64 8)) none none).run Tryz.prog u = .ok (.slice (slp (some ⟨w2.heap.size + 1, 0, none⟩) 8 (8 + l.length)) (8 + l.length - 8) (8 + l.length - 8)) u :=
    run_slice_l8 (some ⟨w2.heap.size + 1, 0, none⟩) (8 + l.length) (8 + l.length) 8 (by omega)
  have hp8 := hide (show 0 < l.length → slp (some ⟨w2.heap.size + 1, 0, none⟩) 8 (8 + l.length) = some ⟨w2.heap.size + 1, 8, none⟩ from fun h0 => by unfold slp; rw [if_neg (by omega)]; simp [Addr.add_lit])
  rw [show 8 + l.length - 8 = l.length by omega] at hs8
  generalize slp (some ⟨w2.heap.size + 1, 0, none⟩) 8 (8 + l.length) = p8 at *
  go_wp2_with (refine wpList_copy8 rfl (.tmp 30) (.tmp 31) rfl p8 a l.length l.length l.length c rfl rfl (w2.heap.size + 1) 8 Z2 ?hg l ?hsl rfl (Nat.le_refl _) ?hdp hz2 ?_; rotate_right; intro W6 h6 hb6)
  case hg => exact unhide h5
  case hsl => exact (unhide F5).2.2.1
  case hdp => exact unhide hp8
  have F6 := hide (unhide HF _ _ (hb4.trans (hb45.trans hb6)))
  have HZ : splice Z2 8 l = frameB l := by
    rw [← unhide HZ2, ← unhide HZ1]
    have e := splice_splice_splice (zeros (8 + l.length)) [b0, b1, b2, b3] [c0, c1, c2, c3] l 4 4 rfl rfl (by rw [zeros_length])
    rw [e, ← unhide h1, ← unhide h2, ← unhide Hs]; rfl
  rw [HZ] at h6
  go_ret2
  exact ⟨w2.heap.size + 1, rfl, (unhide F6).2.2.2, by omega, unhide h6⟩
end Go.Proofs.YtijcpmbfhfppmaaGreatDoor
