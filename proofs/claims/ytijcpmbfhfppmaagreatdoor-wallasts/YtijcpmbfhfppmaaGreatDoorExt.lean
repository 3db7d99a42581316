/- The contracts of frame.shiftByte, frame.Extend, frame.Sum: they compute CRC-32's register, and leave the world as it was. -/
import Derived.Test.YtijcpmbfhfppmaaGreatDoorBas
import Derived.WalkKit
import Derived.ProofKit
import Derived.OpenShut
import Derived.Below
import Derived.WalkLawsBesides
import Derived.WalkSpells
import Derived.Outline
import Derived.Test.YtijcpmbfhfppmaaGreatDoorCrc
namespace Go.Proofs.YtijcpmbfhfppmaaGreatDoor
open Go.ChangeShapes Go.WideShapes Go.ChangeAt Go.RowKit
theorem step_odd (n : Nat) (hn : n < 4294967296) (h : n % 2 = 1) : bits .xor .u32 ((n : Int) / 2) 3988292384 = ((Crc.step n : Nat) : Int) := by
  have e : ((n : Int) / 2) = ((n / 2 : Nat) : Int) := by omega
  rw [e]
  have := u32_xor_nat (n / 2) 3988292384 (by omega) (by decide)
  rw [Crc.step, if_pos h]
  exact this

theorem step_even (n : Nat) (h : ¬ n % 2 = 1) : ((n : Int) / 2) = ((Crc.step n : Nat) : Int) := by
  rw [Crc.step, if_neg h]; omega
theorem and_one (n : Nat) (hn : n < 4294967296) : bits .and .u32 (n : Int) 1 = ((n % 2 : Nat) : Int) := by
  have := u32_and_nat n 1 hn (by decide)
  rw [nat_mask1] at this
  exact this
theorem odd_of (n : Nat) (hn : n < 4294967296) (h : (bits .and .u32 (n : Int) 1 == 1) = true) : n % 2 = 1 := by
  rw [and_one n hn] at h
  have := beq_iff_eq.1 h
  omega
theorem even_of (n : Nat) (hn : n < 4294967296) (h : (bits .and .u32 (n : Int) 1 == 1) = false) : ¬ n % 2 = 1 := by
  rw [and_one n hn] at h
  have := beq_eq_false_iff_ne.1 h
  omega

set_option maxHeartbeats 400000 in
theorem shift_calls (r : Nat) (w : World) (hr : r < 4294967296) :
    Calls Tryz.prog 208 #[.int .u32 (r : Int)] w fun e w' => e = .returned (.int .u32 ((Crc.steps 8 r : Nat) : Int)) ∧ w' = w := by
  go_enter Tryz.func208, Tryz.ntmps208
  go_wp2
  go_loop [0, 4] (fun x i => ∃ k n : Nat, k ≤ 8 ∧ i = .int .i64 (k : Int) ∧ x = .int .u32 (n : Int) ∧ n = Crc.steps k r) (fun _ i => 8 - (intOf i).toNat)
  case atStart => exact ⟨0, r, by omega, rfl, rfl, rfl⟩
  case round =>
    obtain ⟨k, n, hk, rfl, rfl, hn⟩ := hrel
    have hlt : n < 4294967296 := by rw [hn]; exact Crc.steps_lt hr k
    have HN : Hid (n = Crc.steps k r) := hn
    clear hn
    by_cases h8 : k < 8
    · have hs : Crc.steps (k + 1) r = Crc.step n := by rw [HN.out]; rfl
      have HS := hide hs
      clear hs
      go_wp2
      · have ho : n % 2 = 1 := odd_of n hlt ‹_›
        exact ⟨⟨k + 1, Crc.step n, by omega, by go_num, by rw [step_odd n hlt ho], (unhide HS).symm⟩, by simp [intOf]; omega⟩
      · have ho : ¬ n % 2 = 1 := even_of n hlt ‹_›
        exact ⟨⟨k + 1, Crc.step n, by omega, by go_num, by rw [step_even n ho], (unhide HS).symm⟩, by simp [intOf]; omega⟩
    · have hk8 : k = 8 := by omega
      subst hk8
      have HR := hide (show Ending.returned (.int .u32 (n : Int)) = .returned (.int .u32 ((Crc.steps 8 r : Nat) : Int)) by rw [HN.out])
      go_wp2
      go_ret
      exact ⟨unhide HR, rfl⟩

theorem not_u32 (n : Nat) (hn : n < 4294967296) : bits .xor .u32 IntKind.u32.max (n : Int) = ((Crc.not32 n : Nat) : Int) := by
  have e : IntKind.u32.max = ((4294967295 : Nat) : Int) := by decide
  rw [e, u32_xor_nat 4294967295 n (by decide) hn, Crc.not32_xor hn, Nat.xor_comm]
theorem xor_u32 (a b : Nat) (ha : a < 4294967296) (hb : b < 4294967296) : bits .xor .u32 (a : Int) (b : Int) = ((a ^^^ b : Nat) : Int) := u32_xor_nat a b ha hb
set_option maxHeartbeats 400000 in
theorem extend_calls (s : Nat) (a : Option Addr) (c : Nat) (l : List Nat) (w : World) (hs : s < 4294967296) (hl : l.length ≤ maxLen) (hb : BytesAt w a l) :
    Calls Tryz.prog 183 #[.int .u32 (s : Int), .slice a l.length c] w fun e w' => e = .returned (.int .u32 ((Crc.ext s l : Nat) : Int)) ∧ w' = w := by
  unfold maxLen at hl
  have hB := hide hb
  clear hb
  go_enter Tryz.func183, Tryz.ntmps183
  go_wp2
  rw [not_u32 s hs]
  go_loop [5, 12] (fun x i => ∃ k n : Nat, k ≤ l.length ∧ i = .int .i64 (k : Int) ∧ x = .int .u32 (n : Int) ∧ n = Crc.reg (Crc.not32 s) (l.take k)) (fun _ i => l.length - (intOf i).toNat)
  case atStart => exact ⟨0, Crc.not32 s, by omega, rfl, rfl, by rw [List.take_zero, Crc.reg_nil]⟩
  case round =>
    obtain ⟨k, n, hk, rfl, rfl, hn⟩ := hrel
    have hlt : n < 4294967296 := by rw [hn]; exact Crc.reg_lt _ (Crc.not32_lt _) (fun c hc => (unhide hB).lt c (List.mem_of_mem_take hc))
    have HN : Hid (n = Crc.reg (Crc.not32 s) (l.take k)) := hn
    clear hn
    by_cases hkl : k < l.length
    · obtain ⟨b, off, rfl, hc⟩ := (unhide hB).cell k hkl
      have hc256 := getD_lt (unhide hB).lt k
      have HS := hide (show Crc.reg (Crc.not32 s) (l.take (k + 1)) = Crc.steps 8 (n ^^^ l.getD k 0) by rw [take_snoc_nat l k hkl, Crc.reg_snoc, HN.out])
      generalize l.getD k 0 = x at *
      go_wp2_with fail
      rw [xor_u32 n x hlt (by omega)]
      refine (shift_calls _ _ (Crc.xor_lt hlt (by omega))).mono ?_
      rintro e w' ⟨rfl, rfl⟩
      generalize hy : Crc.steps 8 (n ^^^ x) = y at *
      have HY := hide hy
      clear hy
      go_wp2
      exact ⟨⟨k + 1, y, by omega, by go_num, rfl, (unhide HS).symm⟩, by simp [intOf]; omega⟩
    · have hkl' : k = l.length := by omega
      have HR := hide (show Ending.returned (.int .u32 ((Crc.not32 n : Nat) : Int)) = .returned (.int .u32 ((Crc.ext s l : Nat) : Int)) by rw [HN.out, hkl', List.take_length]; unfold Crc.ext; exact Eq.refl _)
      have HNn := hide (not_u32 n hlt)
      clear hkl'
      go_wp2
      go_ret
      exact ⟨(congrArg (fun z : Int => Ending.returned (.int .u32 z)) (unhide HNn)).trans (unhide HR), rfl⟩

theorem sum_calls (a : Option Addr) (c : Nat) (l : List Nat) (w : World) (hl : l.length ≤ maxLen) (hb : BytesAt w a l) :
    Calls Tryz.prog 184 #[.slice a l.length c] w fun e w' => e = .returned (.int .u32 ((Crc.ext 0 l : Nat) : Int)) ∧ w' = w := by
  have hB := hide hb
  clear hb
  go_enter Tryz.func184, Tryz.ntmps184
  go_wp2_with (go_at_call 183; refine (extend_calls 0 _ _ _ _ (by decide) hl (unhide hB)).mono ?_; rintro e w' ⟨rfl, rfl⟩)
  go_ret
  exact ⟨rfl, rfl⟩
end Go.Proofs.YtijcpmbfhfppmaaGreatDoor
