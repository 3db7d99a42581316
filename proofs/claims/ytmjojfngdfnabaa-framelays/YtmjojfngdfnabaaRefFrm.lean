/- The contracts of tollgateref01.four, number, Frame, Next: the same answers as frame's. -/
import Derived.Test.YtmjojfngdfnabaaRefExt
import Derived.Test.YtmjojfngdfnabaaNxt
import Derived.Test.YtmjojfngdfnabaaApp
namespace Go.Proofs.Ytmjojfngdfnabaa
open Go.ChangeShapes Go.WideShapes Go.ChangeAt Go.RowKit

set_option maxHeartbeats 400000 in
theorem four_calls (n : Nat) (w : World) (hn : n < 4294967296) :
    Calls Try.prog 21 #[.int .u32 (n : Int)] w fun e w' => ∃ g, e = .returned (.slice (some ⟨g, 0, none⟩) 4 4) ∧ Below w.heap.size w w' ∧ w.heap.size ≤ g ∧ w'.heap[g]? = some (.cells ((word4 n).map byteV).toArray 5 (0, 0)) := by
  go_enter Try.func21, Try.ntmps21
  go_wp2
  go_ret
  refine ⟨w.heap.size, rfl, (Below.refl _ _).alloc (Nat.le_refl _) _, Nat.le_refl _, ?_⟩
  rw [heap_new]
  rfl

def numTo (l : List Nat) : Nat → Nat
  | 0 => 0
  | i + 1 => numTo l i * 256 + l.getD i 0
theorem numTo_lt {l : List Nat} (h : ∀ c ∈ l, c < 256) (i : Nat) (hi : i ≤ 3) : numTo l i ≤ 16777215 := by
  have l0 := getD_lt h 0
  have l1 := getD_lt h 1
  have l2 := getD_lt h 2
  match i, hi with
  | 0, _ => simp [numTo]
  | 1, _ => simp only [numTo]; omega
  | 2, _ => simp only [numTo]; omega
  | 3, _ => simp only [numTo]; omega
theorem numTo_four (l : List Nat) : numTo l 4 = num4 l := by
  simp only [numTo, num4]; omega

set_option maxHeartbeats 400000 in
theorem number_calls (a : Option Addr) (c : Nat) (l : List Nat) (k : Nat) (w : World) (hl : l.length ≤ maxLen) (hk : k + 4 ≤ l.length) (hb : BytesAt w a l) :
    Calls Try.prog 23 #[.slice a l.length c, .int .i64 (k : Int)] w fun e w' => e = .returned (.int .i64 ((num4 (l.drop k) : Nat) : Int)) ∧ w' = w := by
  unfold maxLen at hl
  obtain ⟨b, off, rfl, hc⟩ := bytesAt_some hb (by omega)
  have hlt : ∀ c ∈ l.drop k, c < 256 := fun c hc => hb.lt c (List.mem_of_mem_drop hc)
  have Hc := hide hc
  have Hlt := hide hlt
  clear hc hlt hb
  go_enter Try.func23, Try.ntmps23
  go_wp2
  go_loop [5, 6] (fun n i => ∃ j m : Nat, j ≤ 4 ∧ i = .int .i64 (j : Int) ∧ n = .int .i64 (m : Int) ∧ m = numTo (l.drop k) j) (fun _ i => 4 - (intOf i).toNat)
  case atStart => exact ⟨0, 0, by omega, rfl, rfl, rfl⟩
  case round =>
    obtain ⟨j, m, hj, rfl, rfl, hm⟩ := hrel
    have HM := hide hm
    clear hm
    by_cases h4 : j < 4
    · have hm' : m ≤ 16777215 := by rw [unhide HM]; exact numTo_lt (unhide Hlt) j (by omega)
      have cj := (unhide Hc) (k + j) (by omega)
      have e1 : l.getD (k + j) 0 = (l.drop k).getD j 0 := (getD_drop l k j).symm
      rw [e1] at cj
      have hx := getD_lt (unhide Hlt) j
      have HS := hide (show numTo (l.drop k) (j + 1) = m * 256 + (l.drop k).getD j 0 by rw [unhide HM]; rfl)
      generalize (l.drop k).getD j 0 = x at *
      clear e1
      have q1 : ((k : Int) + (j : Int)).toNat = k + j := by omega
      go_wp2
      exact ⟨⟨j + 1, m * 256 + x, by omega, by go_num, by go_num, (unhide HS).symm⟩, by simp [intOf]; omega⟩
    · have h4' : j = 4 := by omega
      subst h4'
      have HR := hide (show Ending.returned (.int .i64 (m : Int)) = .returned (.int .i64 ((num4 (l.drop k) : Nat) : Int)) by rw [unhide HM, numTo_four])
      go_wp2
      go_ret
      exact ⟨unhide HR, rfl⟩
theorem refSum_calls' (a : Option Addr) (n c : Nat) (l : List Nat) (w : World) (hn : l.length = n) (hl : l.length ≤ maxLen) (hb : BytesAt w a l) :
    Calls Try.prog 11 #[.slice a n c] w fun e w' => e = .returned (.int .u32 ((Crc.ext 0 l : Nat) : Int)) ∧ w' = w := by
  subst hn; exact refSum_calls a c l w hl hb
theorem refExtend_calls' (s : Nat) (a : Option Addr) (n c : Nat) (l : List Nat) (w : World) (hn : l.length = n) (hs : s < 4294967296) (hl : l.length ≤ maxLen) (hb : BytesAt w a l) :
    Calls Try.prog 13 #[.int .u32 (s : Int), .slice a n c] w fun e w' => e = .returned (.int .u32 ((Crc.ext s l : Nat) : Int)) ∧ w' = w := by
  subst hn; exact refExtend_calls s a c l w hs hl hb

theorem refFrame_long (a : Option Addr) (c : Nat) (l : List Nat) (w : World) (hl : l.length ≤ maxLen) (h : 65536 < l.length) :
    Calls Try.prog 15 #[.slice a l.length c] w fun e w' => e = .returned (.tuple #[.slice none 0 0, .int .i64 6]) ∧ w' = w := by
  unfold maxLen at hl
  go_enter Try.func15, Try.ntmps15
  go_wp2
  go_ret2
  exact ⟨rfl, rfl⟩

set_option maxHeartbeats 1000000 in
theorem refFrame_ok (a : Option Addr) (c : Nat) (l : List Nat) (w : World) (hb : BytesAt w a l) (hz : a = none → c = 0) (h : l.length ≤ 65536) :
    Calls Try.prog 15 #[.slice a l.length c] w fun e w' => ∃ sp c', e = .returned (.tuple #[.slice sp (frameB l).length c', .int .i64 0]) ∧ Below w.heap.size w w' ∧ OwnB w.heap.size w' sp c' (frameB l) := by
  have HB := hide hb
  have Hz := hide hz
  clear hb hz
  go_enter Try.func15, Try.ntmps15
  go_wp2_with fail
  refine (four_calls l.length _ (by omega)).mono ?_
  rintro e w1 ⟨g1, rfl, hb1, hg1, hc1⟩
  have B1 := hide (bytesAt_block hc1 (word4_lt _ (by omega)))
  have HBa := hide ((unhide HB).later hb1)
  have o1 := hide (OwnB.empty w1 w1.heap.size (Nat.le_refl _))
  have b1 := hide (show Below w1.heap.size w1 (w1.alloc (.cells #[] 5)) from (Below.refl _ _).alloc (Nat.le_refl _) _)
  clear hc1
  go_wp2_with (at_builtin; refine wpList_append8 rfl (.tmp 13) (.tmp 14) rfl w1.heap.size (some ⟨w1.heap.size, 0, none⟩) 0 0 [] rfl rfl (by exact unhide o1) (some ⟨g1, 0, none⟩) 4 4 rfl (word4 l.length) rfl (by exact (unhide B1).later (unhide b1)) (fun h => by cases h) (by simp) ?b1 ?_; rotate_right; intro sp1 n1 k1 W1 hn1 ho1 hgr1 hbl1)
  case b1 => simp
  have bW1 := (unhide b1).trans hbl1
  have B1W := hide ((unhide B1).later bW1)
  have HBW := hide ((unhide HBa).later bW1)
  rw [List.nil_append] at ho1 hn1
  have HO1 := hide ho1
  have BW1 := hide bW1
  clear hgr1 hbl1 ho1 bW1
  refine (refSum_calls' _ 4 _ (word4 l.length) _ rfl (by rw [word4_length]; simp [maxLen]) (unhide B1W)).mono ?_
  rintro e W2 ⟨rfl, rfl⟩
  go_wp2_with fail
  refine (refExtend_calls _ _ _ l _ (Crc.ext_lt _ _) (by simp only [maxLen]; omega) (unhide HBW)).mono ?_
  rintro e W3 ⟨rfl, rfl⟩
  have HS := hide (show Crc.ext (Crc.ext 0 (word4 l.length)) l = fsum l.length l from rfl)
  rw [unhide HS]
  have hslt := fsum_lt l.length l
  generalize hs : fsum l.length l = s at *
  have Hs := hide hs
  clear hs HS
  go_wp2_with fail
  refine (four_calls s _ hslt).mono ?_
  rintro e W4 ⟨g4, rfl, hb4, hg4, hc4⟩
  have hsz4 := Nat.le_trans (unhide BW1).size hb4.size
  have B4 := hide (bytesAt_block hc4 (word4_lt _ hslt))
  have HO4 := hide ((unhide HO1).later hb4)
  have BW4 := hide ((unhide BW1).trans (hb4.mono (unhide BW1).size))
  clear hc4
  go_wp2_with (first
    | (at_builtin; refine wpList_append8 rfl (.tmp 16) (.tmp 21) rfl w1.heap.size sp1 n1 k1 (word4 l.length) rfl (unhide hn1) (by exact unhide HO4) (some ⟨g4, 0, none⟩) 4 4 rfl (word4 s) rfl (by exact unhide B4) (fun h => by cases h) (by rw [word4_length]; omega) hsz4 ?_; intro sp5 n5 k5 W5 hn5 ho5 hgr5 hbl5)
    | (at_builtin; refine wpList_append8 rfl (.tmp 23) (.tmp 24) rfl w1.heap.size sp5 n5 k5 (word4 l.length ++ word4 s) rfl (unhide hn5) (by exact ho5) a l.length c rfl l rfl ?B6 (unhide Hz) ?s6 ?b6 ?_; rotate_right; intro sp6 n6 k6 W6 hn6 ho6 hgr6 hbl6))
  case B6 => exact (unhide HBa).later ((unhide BW4).trans hbl5)
  case s6 => rw [List.length_append, word4_length, word4_length]; omega
  case b6 => exact ((unhide BW4).trans hbl5).size
  have hF : word4 l.length ++ word4 s ++ l = frameB l := by rw [frameB, unhide Hs, List.append_assoc]
  rw [hF] at ho6 hn6
  rw [← unhide hn6]
  go_ret2
  refine ⟨sp6, k6, rfl, hb1.trans ((((unhide BW4).trans hbl5).trans hbl6).mono hb1.size), ho6.mono hb1.size⟩
end Go.Proofs.Ytmjojfngdfnabaa
