/- What is framed is read as it was (plain), strings of bytes, and the contract of the statements' own function live. -/
import Derived.Test.YtmjojfngdfnababNxt
import Derived.Laws.IdiomStrings
import Derived.Lib.SlBytesConst
namespace Go.Proofs.Ytmjojfngdfnabab
open Go.ChangeShapes Go.WideShapes Go.ChangeAt Go.RowKit

theorem num4_word4 (n : Nat) (rest : List Nat) : num4 (word4 n ++ rest) = n := by
  simp only [num4, word4, List.cons_append, List.getD_cons_zero, List.getD_cons_succ]
  omega
theorem frameB_length (l : List Nat) : (frameB l).length = 8 + l.length := by simp only [frameB, List.length_append, word4_length]; omega
theorem frameB_lt {l : List Nat} (hl : ∀ c ∈ l, c < 256) (h : l.length ≤ 65536) : ∀ c ∈ frameB l, c < 256 := by
  intro c hc
  simp only [frameB, List.mem_append] at hc
  rcases hc with hc | hc | hc
  · exact word4_lt _ (by omega) c hc
  · exact word4_lt _ (fsum_lt _ _) c hc
  · exact hl c hc
/-- The four pieces of a frame with something ahead and behind. -/
theorem frame_drops (ahead l behind : List Nat) :
    (ahead ++ (frameB l ++ behind)).drop ahead.length = word4 l.length ++ (word4 (fsum l.length l) ++ (l ++ behind)) ∧
    (ahead ++ (frameB l ++ behind)).drop (ahead.length + 4) = word4 (fsum l.length l) ++ (l ++ behind) ∧
    (ahead ++ (frameB l ++ behind)).drop (ahead.length + 8) = l ++ behind := by
  have h0 : (ahead ++ (frameB l ++ behind)).drop ahead.length = word4 l.length ++ (word4 (fsum l.length l) ++ (l ++ behind)) := by
    rw [List.drop_left]; simp [frameB, List.append_assoc]
  refine ⟨h0, ?_, ?_⟩
  · rw [← List.drop_drop, h0, show 4 = (word4 l.length).length from (word4_length _).symm, List.drop_left]
  · rw [show ahead.length + 8 = ahead.length + 4 + 4 by omega, ← List.drop_drop, ← List.drop_drop, h0]
    rw [show (word4 l.length ++ (word4 (fsum l.length l) ++ (l ++ behind))).drop 4 = word4 (fsum l.length l) ++ (l ++ behind) by
      conv => lhs; rw [← word4_length l.length]
      rw [List.drop_left]]
    conv => lhs; rw [← word4_length (fsum l.length l)]
    rw [List.drop_left]
theorem frame_next (ahead l behind : List Nat) (hl : l.length ≤ 65536) : nextE (ahead ++ (frameB l ++ behind)) ahead.length = 0 ∧ nextH (ahead ++ (frameB l ++ behind)) ahead.length = l := by
  obtain ⟨h0, h4, h8⟩ := frame_drops ahead l behind
  have hn : num4 ((ahead ++ (frameB l ++ behind)).drop ahead.length) = l.length := by rw [h0, num4_word4]
  have hs : num4 ((ahead ++ (frameB l ++ behind)).drop (ahead.length + 4)) = fsum l.length l := by rw [h4, num4_word4]
  have ht : ((ahead ++ (frameB l ++ behind)).drop ahead.length).take 4 = word4 l.length := by
    rw [h0]
    conv => lhs; rw [← word4_length l.length]
    rw [List.take_left]
  have hh : ((ahead ++ (frameB l ++ behind)).drop (ahead.length + 8)).take l.length = l := by rw [h8, List.take_left]
  have hlen : (ahead ++ (frameB l ++ behind)).length = ahead.length + (8 + l.length + behind.length) := by simp only [List.length_append, frameB_length]
  constructor
  · unfold nextE
    rw [hn, hs, ht, hh, hlen, if_neg (by omega), if_neg (by omega), if_neg (by omega), if_pos]
    rfl
  · unfold nextH
    rw [hn, hh]

/-- Bytes as a string. -/
def strOf (l : List Nat) : ByteArray := ⟨(l.map UInt8.ofNat).toArray⟩
theorem under5 : Try.prog.underlying 5 = some (.int .u8) := Try.underlying5
theorem run_string8 {w : World} {a : Option Addr} {l : List Nat} (n c : Nat) (hn : l.length = n) (hb : BytesAt w a l) : (convert 22 9 (.slice a n c)).run Try.prog w = .ok (.string (strOf l)) w := by
  subst hn
  cases a with
  | none =>
    have hl : l = [] := by
      cases l with
      | nil => rfl
      | cons x r => obtain ⟨b, off, h, _⟩ := hb.cell 0 (by simp); cases h
    subst hl
    rw [run_convert_bytes_string w 22 9 5 none _ c Try.underlying22 under5 Try.underlying9]
    rfl
  | some x =>
    have hlen : (l.map UInt8.ofNat).length = l.length := by simp
    rw [← hlen]
    apply run_convert_bytes_back w 22 9 5 x c (l.map UInt8.ofNat) Try.underlying22 under5 Try.underlying9
    intro j hj
    rw [hlen] at hj
    obtain ⟨b, off, h, hc⟩ := hb.cell j hj
    cases h
    rw [Addr.add_lit, hc]
    have hlt := getD_lt hb.lt j
    have e : l.getD j 0 = l[j] := by rw [List.getD_eq_getElem?_getD, List.getElem?_eq_getElem hj]; rfl
    rw [e] at hlt ⊢
    simp only [List.getElem_map, UInt8.toNat_ofNat']
    rw [Nat.mod_eq_of_lt (by simpa using hlt)]

theorem frame_ok' (a : Option Addr) (n c : Nat) (l : List Nat) (w : World) (hn : l.length = n) (hb : BytesAt w a l) (h : l.length ≤ 65536) :
    Calls Try.prog 9 #[.slice a n c] w fun e w' => ∃ g, e = .returned (.tuple #[.slice (some ⟨g, 0, none⟩) (8 + n) (8 + n), .int .i64 0]) ∧ Below w.heap.size w w' ∧ w.heap.size ≤ g ∧ w'.heap[g]? = some (.cells ((frameB l).map byteV).toArray 5 (0, 0)) := by
  subst hn; exact frame_ok a c l w hb h
/-- Next at a place where a frame stands. -/
theorem next_ok' (a : Option Addr) (n c : Nat) (l h : List Nat) (k : Nat) (kk : Int) (w : World) (hkk : kk = (k : Int)) (hn : l.length = n) (hl : l.length ≤ maxLen) (hc : l.length ≤ c) (hk : k ≤ l.length) (h8 : ¬ l.length - k < 8) (hb : BytesAt w a l) (he : nextE l k = 0) (hh : nextH l k = h) :
    Calls Try.prog 11 #[.slice a n c, .int .i64 kk] w fun e w' => ∃ g, e = .returned (.tuple #[.slice (some ⟨g, 0, none⟩) h.length h.length, .int .i64 ((k + 8 + h.length : Nat) : Int), .int .i64 0]) ∧ Below w.heap.size w w' ∧ w.heap.size ≤ g ∧ w'.heap[g]? = some (.cells (h.map byteV).toArray 5 (0, 0)) := by
  subst hn; subst hkk; subst hh
  refine (next_calls a c l k w hl hc hk h8 hb).mono ?_
  rintro e w' ⟨hbw, ⟨hpos, _⟩ | ⟨_, g, rfl, hg, hcells⟩⟩
  · omega
  · exact ⟨g, rfl, hbw, hg, hcells⟩
theorem sum_calls' (a : Option Addr) (n c : Nat) (l : List Nat) (w : World) (hn : l.length = n) (hl : l.length ≤ maxLen) (hb : BytesAt w a l) :
    Calls Try.prog 20 #[.slice a n c] w fun e w' => e = .returned (.int .u32 ((Crc.ext 0 l : Nat) : Int)) ∧ w' = w := by
  subst hn; exact sum_calls a c l w hl hb
theorem crc_nine : Crc.ext 0 [49, 50, 51, 52, 53, 54, 55, 56, 57] = 3421780262 := by decide +kernel
theorem str_ab : (strOf [97, 98]).toList = [97, 98] := by decide +kernel

set_option maxHeartbeats 1000000 in
theorem live_calls (w : World) : Calls Try.prog 10 #[] w fun e w' => e = .returned (.bool true) ∧ Below w.heap.size w w' := by
  have kc := fun (w : World) (C : Array Value) (n c : Nat) => Lib.run_convert_bytes_const (P := Try.prog) w 22 5 C n c Try.underlying22 Try.underlying5
  have h1 := heap_new w (.cells #[.int .u8 97, .int .u8 98] 5 (2, 3))
  have b1 : Below w.heap.size w (w.alloc (.cells #[.int .u8 97, .int .u8 98] 5 (2, 3))) := (Below.refl _ _).alloc (Nat.le_refl _) _
  have B1 := hide (bytesAt_block (l := [97, 98]) h1 (by decide))
  have Hb1 := hide b1
  clear h1 b1
  go_enter Try.func10, Try.ntmps10
  go_wp2_with fail
  generalize w.alloc _ = W1 at *
  refine (frame_ok' _ 2 2 [97, 98] _ rfl (unhide B1) (by decide)).mono ?_
  rintro e W2 ⟨g, rfl, hb2, hg2, hc2⟩
  have B2 := hide (bytesAt_block hc2 (frameB_lt (by decide) (by decide)))
  have Hb2 := hide ((unhide Hb1).trans (hb2.mono (unhide Hb1).size))
  clear hb2 hc2 hg2
  obtain ⟨e2, h2⟩ := frame_next [] [97, 98] [] (by decide)
  rw [List.nil_append, List.append_nil] at e2 h2
  have E2 := hide e2
  have H2 := hide h2
  clear e2 h2
  go_wp2_with fail
  refine (next_ok' _ _ _ (frameB [97, 98]) [97, 98] 0 _ _ rfl (by rw [frameB_length]; rfl) (by rw [frameB_length]; decide) (by rw [frameB_length]; decide) (by omega) (by rw [frameB_length]; decide) (unhide B2) (unhide E2) (unhide H2)).mono ?_
  rintro e W3 ⟨g3, rfl, hb3, hg3, hc3⟩
  have Hb3 := hide ((unhide Hb2).trans (hb3.mono (unhide Hb2).size))
  have B3 := hide (bytesAt_block hc3 (by decide))
  have h4 := heap_new W3 (.cells #[.int .u8 49, .int .u8 50, .int .u8 51, .int .u8 52, .int .u8 53, .int .u8 54, .int .u8 55, .int .u8 56, .int .u8 57] 5 (9, 10))
  have b4 : Below W3.heap.size W3 (W3.alloc (.cells #[.int .u8 49, .int .u8 50, .int .u8 51, .int .u8 52, .int .u8 53, .int .u8 54, .int .u8 55, .int .u8 56, .int .u8 57] 5 (9, 10))) := (Below.refl _ _).alloc (Nat.le_refl _) _
  have B4 := hide (bytesAt_block (l := [49, 50, 51, 52, 53, 54, 55, 56, 57]) h4 (by decide))
  have Hb4 := hide ((unhide Hb3).trans (b4.mono (unhide Hb3).size))
  have hstr := run_string8 (c := 2) 2 rfl ((unhide B3).later b4)
  clear hb3 hc3 hg3 h4 b4
  go_wp2_with fail
  generalize W3.alloc _ = W4 at *
  refine (sum_calls' _ 9 9 [49, 50, 51, 52, 53, 54, 55, 56, 57] _ rfl (by decide) (unhide B4)).mono ?_
  rintro e W5 ⟨rfl, rfl⟩
  rw [crc_nine]
  have hs := str_ab
  go_wp2
  go_ret
  exact ⟨rfl, unhide Hb4⟩
end Go.Proofs.Ytmjojfngdfnabab
