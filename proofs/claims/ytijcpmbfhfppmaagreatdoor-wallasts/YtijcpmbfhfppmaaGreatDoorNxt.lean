/- The contract of frame.Next: what a frame at a place holds, or the error. -/
import Derived.Test.YtijcpmbfhfppmaaGreatDoorFrm
namespace Go.Proofs.YtijcpmbfhfppmaaGreatDoor
open Go.ChangeShapes Go.WideShapes Go.ChangeAt Go.RowKit

/-- The number of the error at a place that may be (0: none). -/
def nextE (l : List Nat) (k : Nat) : Nat :=
  if l.length - k < 8 then 3 else if 65536 < num4 (l.drop k) then 6 else if l.length - k - 8 < num4 (l.drop k) then 3
  else if Crc.ext (Crc.ext 0 ((l.drop k).take 4)) ((l.drop (k + 8)).take (num4 (l.drop k))) = num4 (l.drop (k + 4)) then 0 else 5
/-- What the frame at a place holds. -/
def nextH (l : List Nat) (k : Nat) : List Nat := (l.drop (k + 8)).take (num4 (l.drop k))

theorem next_arg (a : Option Addr) (c : Nat) (l : List Nat) (k : Int) (w : World) (h : k < 0 ∨ (l.length : Int) < k) :
    Calls Tryz.prog 132 #[.slice a l.length c, .int .i64 k] w fun e w' => e = .returned (.tuple #[.slice none 0 0, .int .i64 0, .int .i64 2]) ∧ w' = w := by
  by_cases h0 : k < 0
  · go_enter Tryz.func132, Tryz.ntmps132
    go_wp2
    go_ret3
    exact ⟨rfl, rfl⟩
  · have h1 : (l.length : Int) < k := by omega
    go_enter Tryz.func132, Tryz.ntmps132
    go_wp2
    go_ret3
    exact ⟨rfl, rfl⟩

theorem num4_lt {l : List Nat} (h : ∀ c ∈ l, c < 256) : num4 l < 4294967296 := by
  have l0 := getD_lt h 0
  have l1 := getD_lt h 1
  have l2 := getD_lt h 2
  have l3 := getD_lt h 3
  unfold num4; omega
theorem num4_take (l : List Nat) : num4 (l.take 4) = num4 l := by
  unfold num4; rw [getD_take l 4 0 (by omega), getD_take l 4 1 (by omega), getD_take l 4 2 (by omega), getD_take l 4 3 (by omega)]

theorem next_short (a : Option Addr) (c : Nat) (l : List Nat) (k : Nat) (w : World) (hl : l.length ≤ maxLen) (hk : k ≤ l.length) (h : l.length - k < 8) :
    Calls Tryz.prog 132 #[.slice a l.length c, .int .i64 (k : Int)] w fun e w' => e = .returned (.tuple #[.slice none 0 0, .int .i64 0, .int .i64 3]) ∧ w' = w := by
  unfold maxLen at hl
  have h0 : ¬ (k : Int) < 0 := by omega
  have h1 : ¬ (l.length : Int) < (k : Int) := by omega
  go_enter Tryz.func132, Tryz.ntmps132
  go_wp2
  go_ret3
  exact ⟨rfl, rfl⟩

theorem splice_whole (Z X : List Nat) (h : Z.length = X.length) : splice Z 0 X = X := by
  unfold splice
  rw [List.take_zero, List.nil_append, List.drop_eq_nil_of_le (by omega), List.append_nil]
theorem wordOf_calls' (a : Option Addr) (n c : Nat) (l : List Nat) (w : World) (hn : l.length = n) (h4 : 4 ≤ l.length) (hl : l.length ≤ maxLen) (hb : BytesAt w a l) :
    Calls Tryz.prog 161 #[.slice a n c] w fun e w' => e = .returned (.int .u32 ((num4 l : Nat) : Int)) ∧ Below w.heap.size w w' := by
  subst hn; exact wordOf_calls a c l w h4 hl hb
theorem frameSum_calls' (a a' : Option Addr) (n n' c c' : Nat) (h l : List Nat) (w : World) (hn : h.length = n) (hn' : l.length = n') (hh : h.length ≤ maxLen) (hl : l.length ≤ maxLen) (hb : BytesAt w a h) (hb' : BytesAt w a' l) :
    Calls Tryz.prog 162 #[.slice a n c, .slice a' n' c'] w fun e w' => e = .returned (.int .u32 ((Crc.ext (Crc.ext 0 h) l : Nat) : Int)) ∧ w' = w := by
  subst hn; subst hn'; exact frameSum_calls a a' c c' h l w hh hl hb hb'

set_option maxHeartbeats 1000000 in
theorem next_calls (a : Option Addr) (c : Nat) (l : List Nat) (k : Nat) (w : World) (hl : l.length ≤ maxLen) (hc : l.length ≤ c) (hk : k ≤ l.length) (h8 : ¬ l.length - k < 8) (hb : BytesAt w a l) :
    Calls Tryz.prog 132 #[.slice a l.length c, .int .i64 (k : Int)] w fun e w' => Below w.heap.size w w' ∧
      ((0 < nextE l k ∧ e = .returned (.tuple #[.slice none 0 0, .int .i64 0, .int .i64 (nextE l k : Nat)])) ∨
       (nextE l k = 0 ∧ ∃ g, e = .returned (.tuple #[.slice (some ⟨g, 0, none⟩) (nextH l k).length (nextH l k).length, .int .i64 ((k + 8 + (nextH l k).length : Nat) : Int), .int .i64 0]) ∧ w.heap.size ≤ g ∧ w'.heap[g]? = some (.cells ((nextH l k).map byteV).toArray 5 (0, 0)))) := by
  unfold maxLen at hl
  have h0 : ¬ (k : Int) < 0 := by omega
  have h1 : ¬ (l.length : Int) < (k : Int) := by omega
  have h2 : ¬ (l.length : Int) - (k : Int) < 8 := by omega
  have s1 := run_slice_lh8 a l.length c k (k + 4) (by omega) (by omega)
  have s2 := run_slice_l8 a l.length c (k + 4) (by omega)
  have B1 := hide ((hb.drop k c hc).take 4)
  have B2 := hide (hb.drop (k + 4) c hc)
  have HB := hide hb
  have e1 : ((k + 4 : Nat) : Int) = (k : Int) + 4 := by omega
  rw [e1] at s1 s2
  rw [show k + 4 - k = 4 by omega] at s1
  generalize hp1 : slp a k c = p1 at *
  generalize hp2 : slp a (k + 4) c = p2 at *
  clear e1 hb hp1 hp2
  have HE : Hid (nextE l k = if 65536 < num4 (l.drop k) then 6 else if l.length - k - 8 < num4 (l.drop k) then 3
    else if Crc.ext (Crc.ext 0 ((l.drop k).take 4)) ((l.drop (k + 8)).take (num4 (l.drop k))) = num4 (l.drop (k + 4)) then 0 else 5) := by
    show _ = _
    rw [nextE, if_neg h8]
  have HH : Hid (nextH l k = (l.drop (k + 8)).take (num4 (l.drop k))) := by show _ = _; rw [nextH]
  have hn4 := num4_lt (fun c hc => (unhide HB).lt c (List.mem_of_mem_drop hc) : ∀ c ∈ l.drop k, c < 256)
  have hsm4 := num4_lt (fun c hc => (unhide HB).lt c (List.mem_of_mem_drop hc) : ∀ c ∈ l.drop (k + 4), c < 256)
  have L2 := hide (show (l.drop (k + 4)).length = l.length - (k + 4) by simp)
  have L1 := hide (show ((l.drop k).take 4).length = 4 by simp; omega)
  have L1' := hide (show 4 ≤ ((l.drop k).take 4).length by simp; omega)
  have L2' := hide (show 4 ≤ (l.drop (k + 4)).length by simp; omega)
  have L1m := hide (show ((l.drop k).take 4).length ≤ maxLen by simp [maxLen]; omega)
  have L2m := hide (show (l.drop (k + 4)).length ≤ maxLen by simp [maxLen]; omega)
  have N1 := hide (num4_take (l.drop k))
  go_enter Tryz.func132, Tryz.ntmps132
  go_wp2_with fail
  refine (wordOf_calls' _ _ _ (l.drop (k + 4)) _ (unhide L2) (unhide L2') (unhide L2m) (unhide B2)).mono ?_
  rintro e w1 ⟨rfl, hb1⟩
  have B1a := hide ((unhide B1).later hb1)
  have HBa := hide ((unhide HB).later hb1)
  generalize hsm : num4 (l.drop (k + 4)) = sm at *
  have Hsm := hide hsm
  clear hsm
  go_wp2_with fail
  refine (wordOf_calls' _ _ _ ((l.drop k).take 4) _ (unhide L1) (unhide L1') (unhide L1m) (unhide B1a)).mono ?_
  rintro e w2 ⟨rfl, hb2⟩
  have B1b := hide ((unhide B1a).later hb2)
  have HBb := hide ((unhide HBa).later hb2)
  have hb02 : Below w.heap.size w w2 := hb1.trans (hb2.mono hb1.size)
  rw [unhide N1]
  generalize hnn : num4 (l.drop k) = n at *
  have Hn := hide hnn
  clear hnn
  by_cases hA : 65536 < n
  · have HE' := hide ((unhide HE).trans (if_pos hA))
    go_wp2
    go_ret3
    refine ⟨hb02, Or.inl ⟨by rw [unhide HE']; omega, by rw [unhide HE']; rfl⟩⟩
  · have HE' := hide ((unhide HE).trans (if_neg hA))
    have hA' : ¬ 65536 < (n : Int) := by omega
    go_wp2_with fail
    refine (wordOf_calls' _ _ _ ((l.drop k).take 4) _ (unhide L1) (unhide L1') (unhide L1m) (unhide B1b)).mono ?_
    rintro e w3 ⟨rfl, hb3⟩
    have B1c := hide ((unhide B1b).later hb3)
    have HBc := hide ((unhide HBb).later hb3)
    have hb03 : Below w.heap.size w w3 := hb02.trans (hb3.mono hb02.size)
    rw [unhide N1]
    by_cases hC : l.length - k - 8 < n
    · have HE'' := hide ((unhide HE').trans (if_pos hC))
      have hC' : (l.length : Int) - ((k : Int) + 8) < (n : Int) := by omega
      go_wp2
      go_ret3
      refine ⟨hb03, Or.inl ⟨by rw [unhide HE'']; omega, by rw [unhide HE'']; rfl⟩⟩
    · have HE'' := hide ((unhide HE').trans (if_neg hC))
      have hC' : ¬ (l.length : Int) - ((k : Int) + 8) < (n : Int) := by omega
      have s3 := run_slice_lh8 a l.length c (k + 8) (k + 8 + n) (by omega) (by omega)
      have B3 := hide (((unhide HBc).drop (k + 8) c hc).take n)
      have e3 : ((k + 8 : Nat) : Int) = (k : Int) + 8 := by omega
      have e4 : ((k + 8 + n : Nat) : Int) = (k : Int) + 8 + (n : Int) := by omega
      rw [e3, e4] at s3
      rw [show k + 8 + n - (k + 8) = n by omega] at s3
      generalize hp3 : slp a (k + 8) c = p3 at *
      have hL3 : ((l.drop (k + 8)).take n).length = n := by simp; omega
      have L3 := hide hL3
      have L3m := hide (show ((l.drop (k + 8)).take n).length ≤ maxLen by rw [hL3]; simp [maxLen]; omega)
      clear e3 e4 hp3 hL3
      go_wp2_with fail
      refine (frameSum_calls' _ _ _ _ _ _ ((l.drop k).take 4) ((l.drop (k + 8)).take n) _ (unhide L1) (unhide L3) (unhide L1m) (unhide L3m) (unhide B1c) (unhide B3)).mono ?_
      rintro e w4 ⟨rfl, rfl⟩
      have hsl := Crc.ext_lt (Crc.ext 0 ((l.drop k).take 4)) ((l.drop (k + 8)).take n)
      generalize hss : Crc.ext (Crc.ext 0 ((l.drop k).take 4)) ((l.drop (k + 8)).take n) = ss at *
      have Hss := hide hss
      clear hss
      by_cases hD : ss = sm
      · have HE3 := hide ((unhide HE'').trans (if_pos hD))
        have hD' : ((ss : Int) != (sm : Int)) = false := by rw [hD]; simp
        have hmk := run_make8 n (by omega)
        go_wp2_with (refine wpList_copy8 rfl (.tmp 63) (.tmp 64) rfl (some ⟨w4.heap.size, 0, none⟩) p3 n n n _ rfl rfl w4.heap.size 0 (zeros n) ?hg ((l.drop (k + 8)).take n) ?hsl (by exact unhide L3) (Nat.le_refl _) (fun _ => rfl) (by rw [zeros_length]; omega) ?_; rotate_right; intro W6 h6 hb6)
        case hg => exact heap_new _ _
        case hsl => exact (unhide B3).later ((Below.refl _ _).alloc (Nat.le_refl _) _)
        have hbw : Below w4.heap.size w4 W6 := ((Below.refl _ _).alloc (Nat.le_refl _) _).trans hb6
        have hX := splice_whole (zeros n) ((l.drop (k + 8)).take n) (by rw [zeros_length, unhide L3])
        rw [hX] at h6
        go_ret3
        refine ⟨hb03.trans (hbw.mono hb03.size), Or.inr ⟨unhide HE3, w4.heap.size, ?_, hb03.size, by rw [unhide HH]; exact unhide h6⟩⟩
        rw [unhide HH, unhide L3]
        rfl
      · have HE3 := hide ((unhide HE'').trans (if_neg hD))
        have hD' : ((ss : Int) != (sm : Int)) = true := by simp; omega
        go_wp2
        go_ret3
        refine ⟨hb03, Or.inl ⟨by rw [unhide HE3]; omega, by rw [unhide HE3]; rfl⟩⟩
end Go.Proofs.YtijcpmbfhfppmaaGreatDoor
