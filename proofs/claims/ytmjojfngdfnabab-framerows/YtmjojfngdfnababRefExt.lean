/- The contracts of tollgateref01.Extend and Sum: they compute CRC-32's register bit by bit, and leave the world as it was. -/
import Derived.Test.YtmjojfngdfnababExt
namespace Go.Proofs.Ytmjojfngdfnabab
open Go.ChangeShapes Go.WideShapes Go.ChangeAt Go.RowKit

theorem xor_ones (n : Nat) (hn : n < 4294967296) : bits .xor .u32 (n : Int) 4294967295 = ((Crc.not32 n : Nat) : Int) := by
  have := u32_xor_nat n 4294967295 hn (by decide)
  rw [Crc.not32_xor hn]
  exact this

theorem bit_eq (m x j : Nat) (hm : m < 4294967296) :
    bits .and .u32 (bits .xor .u32 (m : Int) (bits .and .u32 ((x : Int) / 2 ^ j % 4294967296) 1)) 1 = (((m + x / 2 ^ j) % 2 : Nat) : Int) := by
  have e : ((x : Int) / 2 ^ j % 4294967296) = ((x / 2 ^ j % 4294967296 : Nat) : Int) := by
    rw [Int.natCast_emod, Int.natCast_ediv, Int.natCast_pow]; rfl
  have h1 : x / 2 ^ j % 4294967296 < 4294967296 := Nat.mod_lt _ (by decide)
  rw [e, and_one _ h1]
  generalize hy : x / 2 ^ j = y at *
  rw [u32_xor_nat m _ hm (by omega), and_one _ (Crc.xor_lt hm (by omega)), Crc.xor_mod]
  congr 1
  omega
theorem bit_odd (m x j : Nat) (hm : m < 4294967296)
    (h : (bits .and .u32 (bits .xor .u32 (m : Int) (bits .and .u32 ((x : Int) / 2 ^ j % 4294967296) 1)) 1 == 1) = true) : (m + x / 2 ^ j) % 2 = 1 := by
  rw [bit_eq m x j hm] at h
  have := beq_iff_eq.1 h
  omega
theorem bit_even (m x j : Nat) (hm : m < 4294967296)
    (h : (bits .and .u32 (bits .xor .u32 (m : Int) (bits .and .u32 ((x : Int) / 2 ^ j % 4294967296) 1)) 1 == 1) = false) : ¬ (m + x / 2 ^ j) % 2 = 1 := by
  rw [bit_eq m x j hm] at h
  have := beq_eq_false_iff_ne.1 h
  omega
theorem stepBit_odd (m c : Nat) (hm : m < 4294967296) (h : (m + c) % 2 = 1) : bits .xor .u32 ((m : Int) / 2) 3988292384 = ((Crc.stepBit m c : Nat) : Int) := by
  have e : ((m : Int) / 2) = ((m / 2 : Nat) : Int) := by omega
  rw [e]
  have := u32_xor_nat (m / 2) 3988292384 (by omega) (by decide)
  rw [Crc.stepBit, if_pos h]
  exact this
theorem stepBit_even (m c : Nat) (h : ¬ (m + c) % 2 = 1) : ((m : Int) / 2) = ((Crc.stepBit m c : Nat) : Int) := by
  rw [Crc.stepBit, if_neg h]; omega

set_option maxHeartbeats 1000000 in
theorem refExtend_calls (s : Nat) (a : Option Addr) (c : Nat) (l : List Nat) (w : World) (hs : s < 4294967296) (hl : l.length ≤ maxLen) (hb : BytesAt w a l) :
    Calls Try.prog 30 #[.int .u32 (s : Int), .slice a l.length c] w fun e w' => e = .returned (.int .u32 ((Crc.ext s l : Nat) : Int)) ∧ w' = w := by
  unfold maxLen at hl
  have hB := hide hb
  clear hb
  go_enter Try.func30, Try.ntmps30
  go_wp2
  rw [xor_ones s hs]
  go_loop [5, 6] (fun x i => ∃ k n : Nat, k ≤ l.length ∧ i = .int .i64 (k : Int) ∧ x = .int .u32 (n : Int) ∧ n = Crc.reg (Crc.not32 s) (l.take k)) (fun _ i => l.length - (intOf i).toNat)
  case atStart => exact ⟨0, Crc.not32 s, by omega, rfl, rfl, by rw [List.take_zero, Crc.reg_nil]⟩
  case round =>
    obtain ⟨k, n, hk, rfl, rfl, hn⟩ := hrel
    have hlt : n < 4294967296 := by rw [hn]; exact Crc.reg_lt _ (Crc.not32_lt _) (fun c hc => (unhide hB).lt c (List.mem_of_mem_take hc))
    have HN : Hid (n = Crc.reg (Crc.not32 s) (l.take k)) := hn
    clear hn
    by_cases hkl : k < l.length
    · obtain ⟨b, off, rfl, hc⟩ := (unhide hB).cell k hkl
      have hc256 := getD_lt (unhide hB).lt k
      have HS := hide (show Crc.reg (Crc.not32 s) (l.take (k + 1)) = Crc.bitsOf n (l.getD k 0) 8 by rw [take_snoc_nat l k hkl, Crc.reg_snoc, HN.out, Crc.bitsOf_eight _ _ hc256])
      generalize l.getD k 0 = x at *
      go_wp2
      go_loop [5, 7] (fun r i => ∃ j m : Nat, j ≤ 8 ∧ i = .int .i64 (j : Int) ∧ r = .int .u32 (m : Int) ∧ m = Crc.bitsOf n x j) (fun _ i => 8 - (intOf i).toNat)
      case atStart => exact ⟨0, n, by omega, rfl, rfl, rfl⟩
      case round =>
        obtain ⟨j, m, hj, rfl, rfl, hm⟩ := hrel
        have hmlt : m < 4294967296 := by rw [hm]; exact Crc.bitsOf_lt x hlt j
        have HM : Hid (m = Crc.bitsOf n x j) := hm
        clear hm
        by_cases hj8 : j < 8
        · have hs : Crc.bitsOf n x (j + 1) = Crc.stepBit m (x / 2 ^ j) := by rw [HM.out]; rfl
          have HT := hide hs
          clear hs
          go_wp2
          · exact ⟨⟨j + 1, _, by omega, by go_num, by rw [stepBit_odd m (x / 2 ^ j) hmlt (bit_odd m x j hmlt ‹_›)], (unhide HT).symm⟩, by simp [intOf]; omega⟩
          · exact ⟨⟨j + 1, _, by omega, by go_num, by rw [stepBit_even m (x / 2 ^ j) (bit_even m x j hmlt ‹_›)], (unhide HT).symm⟩, by simp [intOf]; omega⟩
        · have hj8' : j = 8 := by omega
          subst hj8'
          go_wp2
          exact ⟨⟨k + 1, m, by omega, by go_num, rfl, HM.out.trans (unhide HS).symm⟩, by simp [intOf]; omega⟩
    · have hkl' : k = l.length := by omega
      have HR := hide (show Ending.returned (.int .u32 ((Crc.not32 n : Nat) : Int)) = .returned (.int .u32 ((Crc.ext s l : Nat) : Int)) by rw [HN.out, hkl', List.take_length]; unfold Crc.ext; exact Eq.refl _)
      have HNn := hide (xor_ones n hlt)
      clear hkl'
      go_wp2
      go_ret
      exact ⟨(congrArg (fun z : Int => Ending.returned (.int .u32 z)) (unhide HNn)).trans (unhide HR), rfl⟩

theorem refSum_calls (a : Option Addr) (c : Nat) (l : List Nat) (w : World) (hl : l.length ≤ maxLen) (hb : BytesAt w a l) :
    Calls Try.prog 31 #[.slice a l.length c] w fun e w' => e = .returned (.int .u32 ((Crc.ext 0 l : Nat) : Int)) ∧ w' = w := by
  have hB := hide hb
  clear hb
  go_enter Try.func31, Try.ntmps31
  go_wp2_with (go_at_call 30; refine (refExtend_calls 0 _ _ _ _ (by decide) hl (unhide hB)).mono ?_; rintro e w' ⟨rfl, rfl⟩)
  go_ret
  exact ⟨rfl, rfl⟩
end Go.Proofs.Ytmjojfngdfnabab
