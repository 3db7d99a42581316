/- What is framed is read as it was (plain), strings of bytes, and the contract of the statements' own function live. -/
import Derived.Test.YtijcpmbfhfppmaaGreatDoorNxt
import Derived.Test.YtijcpmbfhfppmaaGreatDoorApp
import Derived.Laws.IdiomStrings
import Derived.Lib.SlBytesConst
namespace Go.Proofs.YtijcpmbfhfppmaaGreatDoor
open Go.ChangeShapes Go.WideShapes Go.ChangeAt Go.RowKit

theorem num4_word4 (n : Nat) (rest : List Nat) : num4 (word4 n ++ rest) = n := by
  simp only [num4, word4, List.cons_append, List.getD_cons_zero, List.getD_cons_succ]
  omega
theorem frameB_length (l : List Nat) : (frameB l).length = 8 + l.length := by simp only [frameB, List.length_append, word4_length]; omega
theorem frameB_lt {l : List Nat} (hl : ∀ c ∈ l, c < 256) (h : l.length ≤ 65536) : ∀ c ∈ frameB l, c < 256 := by
  intro c hc
  simp only [frameB, List.mem_append] at hc
  rcases hc with hc | hc | hc
  · exact word4_lt _ (by omega) c hc
  · exact word4_lt _ (fsum_lt _ _) c hc
  · exact hl c hc
/-- The four pieces of a frame with something ahead and behind. -/
theorem frame_drops (ahead l behind : List Nat) :
    (ahead ++ (frameB l ++ behind)).drop ahead.length = word4 l.length ++ (word4 (fsum l.length l) ++ (l ++ behind)) ∧
    (ahead ++ (frameB l ++ behind)).drop (ahead.length + 4) = word4 (fsum l.length l) ++ (l ++ behind) ∧
    (ahead ++ (frameB l ++ behind)).drop (ahead.length + 8) = l ++ behind := by
  have h0 : (ahead ++ (frameB l ++ behind)).drop ahead.length = word4 l.length ++ (word4 (fsum l.length l) ++ (l ++ behind)) := by
    rw [List.drop_left]; simp [frameB, List.append_assoc]
  refine ⟨h0, ?_, ?_⟩
  · rw [← List.drop_drop, h0, show 4 = (word4 l.length).length from (word4_length _).symm, List.drop_left]
  · rw [show ahead.length + 8 = ahead.length + 4 + 4 by omega, ← List.drop_drop, ← List.drop_drop, h0]
    rw [show (word4 l.length ++ (word4 (fsum l.length l) ++ (l ++ behind))).drop 4 = word4 (fsum l.length l) ++ (l ++ behind) by
      conv => lhs; rw [← word4_length l.length]
      rw [List.drop_left]]
    conv => lhs; rw [← word4_length (fsum l.length l)]
    rw [List.drop_left]
theorem frame_next (ahead l behind : List Nat) (hl : l.length ≤ 65536) : nextE (ahead ++ (frameB l ++ behind)) ahead.length = 0 ∧ nextH (ahead ++ (frameB l ++ behind)) ahead.length = l := by
  obtain ⟨h0, h4, h8⟩ := frame_drops ahead l behind
  have hn : num4 ((ahead ++ (frameB l ++ behind)).drop ahead.length) = l.length := by rw [h0, num4_word4]
  have hs : num4 ((ahead ++ (frameB l ++ behind)).drop (ahead.length + 4)) = fsum l.length l := by rw [h4, num4_word4]
  have ht : ((ahead ++ (frameB l ++ behind)).drop ahead.length).take 4 = word4 l.length := by
    rw [h0]
    conv => lhs; rw [← word4_length l.length]
    rw [List.take_left]
  have hh : ((ahead ++ (frameB l ++ behind)).drop (ahead.length + 8)).take l.length = l := by rw [h8, List.take_left]
  have hlen : (ahead ++ (frameB l ++ behind)).length = ahead.length + (8 + l.length + behind.length) := by simp only [List.length_append, frameB_length]
  constructor
  · unfold nextE
    rw [hn, hs, ht, hh, hlen, if_neg (by omega), if_neg (by omega), if_neg (by omega), if_pos]
    rfl
  · unfold nextH
    rw [hn, hh]

theorem frame_ok' (a : Option Addr) (n c : Nat) (l : List Nat) (w : World) (hn : l.length = n) (hb : BytesAt w a l) (h : l.length ≤ 65536) :
    Calls Tryz.prog 138 #[.slice a n c] w fun e w' => ∃ g, e = .returned (.tuple #[.slice (some ⟨g, 0, none⟩) (8 + n) (8 + n), .int .i64 0]) ∧ Below w.heap.size w w' ∧ w.heap.size ≤ g ∧ w'.heap[g]? = some (.cells ((frameB l).map byteV).toArray 5 (0, 0)) := by
  subst hn; exact frame_ok a c l w hb h
/-- Next at a place where a frame stands. -/
theorem next_ok' (a : Option Addr) (n c : Nat) (l h : List Nat) (k : Nat) (kk : Int) (w : World) (hkk : kk = (k : Int)) (hn : l.length = n) (hl : l.length ≤ maxLen) (hc : l.length ≤ c) (hk : k ≤ l.length) (h8 : ¬ l.length - k < 8) (hb : BytesAt w a l) (he : nextE l k = 0) (hh : nextH l k = h) :
    Calls Tryz.prog 132 #[.slice a n c, .int .i64 kk] w fun e w' => ∃ g, e = .returned (.tuple #[.slice (some ⟨g, 0, none⟩) h.length h.length, .int .i64 ((k + 8 + h.length : Nat) : Int), .int .i64 0]) ∧ Below w.heap.size w w' ∧ w.heap.size ≤ g ∧ w'.heap[g]? = some (.cells (h.map byteV).toArray 5 (0, 0)) := by
  subst hn; subst hkk; subst hh
  refine (next_calls a c l k w hl hc hk h8 hb).mono ?_
  rintro e w' ⟨hbw, ⟨hpos, _⟩ | ⟨_, g, rfl, hg, hcells⟩⟩
  · omega
  · exact ⟨g, rfl, hbw, hg, hcells⟩
theorem sum_calls' (a : Option Addr) (n c : Nat) (l : List Nat) (w : World) (hn : l.length = n) (hl : l.length ≤ maxLen) (hb : BytesAt w a l) :
    Calls Tryz.prog 184 #[.slice a n c] w fun e w' => e = .returned (.int .u32 ((Crc.ext 0 l : Nat) : Int)) ∧ w' = w := by
  subst hn; exact sum_calls a c l w hl hb
theorem crc_nine : Crc.ext 0 [49, 50, 51, 52, 53, 54, 55, 56, 57] = 3421780262 := by decide +kernel
theorem str_ab : (strOf [97, 98]).toList = [97, 98] := by decide +kernel

end Go.Proofs.YtijcpmbfhfppmaaGreatDoor
