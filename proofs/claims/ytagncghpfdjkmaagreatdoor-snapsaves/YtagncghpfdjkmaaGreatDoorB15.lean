/- Plain facts on CRC-32 as a register of 32 bits that is shifted bit by bit: no Go in sight. -/
import Derived.Laws.BitsAllLaws
import Derived.Test.YtagncghpfdjkmaaGreatDoorB01
import Derived.WalkKit
import Derived.ProofKit
import Derived.OpenShut
import Derived.Below
import Derived.WalkLawsBesides
import Derived.WalkSpells
import Derived.Outline
import Derived.Laws.CopyOwn
import Derived.Deep.QuietTactic
import Derived.BigQuiet
import Derived.Laws.IdiomStrings
import Derived.Lib.SlBytesConst
section
namespace Go.Proofs.YtagncghpfdjkmaaGreatDoor.Crc

/-- One shift of the register. -/
def step (r : Nat) : Nat := if r % 2 = 1 then (r / 2) ^^^ 3988292384 else r / 2
/-- So many shifts. -/
def steps : Nat → Nat → Nat
  | 0, r => r
  | k + 1, r => step (steps k r)
/-- One shift, a bit of the text held against the lowest one. -/
def stepBit (r c : Nat) : Nat := if (r + c) % 2 = 1 then (r / 2) ^^^ 3988292384 else r / 2
/-- So many bits of one byte. -/
def bitsOf (r c : Nat) : Nat → Nat
  | 0 => r
  | k + 1 => stepBit (bitsOf r c k) (c / 2 ^ k)
/-- The register behind a row of bytes. -/
def reg (r : Nat) (l : List Nat) : Nat := l.foldl (fun r c => steps 8 (r ^^^ c)) r
theorem reg_nil (r : Nat) : reg r [] = r := List.foldl_nil
theorem reg_cons (r c : Nat) (l : List Nat) : reg r (c :: l) = reg (steps 8 (r ^^^ c)) l := List.foldl_cons ..
def not32 (r : Nat) : Nat := 4294967295 - r
/-- The sum of a row, from a sum on. -/
def ext (s : Nat) (l : List Nat) : Nat := not32 (reg (not32 s) l)

theorem xor_mod (a b : Nat) : (a ^^^ b) % 2 = (a + b) % 2 := by
  have h := Nat.xor_mod_two_pow (a := a) (b := b) (n := 1)
  rw [Nat.pow_one] at h
  rw [h]
  rcases Nat.mod_two_eq_zero_or_one a with ha | ha <;> rcases Nat.mod_two_eq_zero_or_one b with hb | hb <;> (rewrite [ha, hb, Nat.add_mod, ha, hb]; decide)
theorem xor_lt {a b : Nat} (ha : a < 4294967296) (hb : b < 4294967296) : a ^^^ b < 4294967296 := Nat.xor_lt_two_pow (n := 32) ha hb
theorem step_lt {r : Nat} (h : r < 4294967296) : step r < 4294967296 := by
  unfold step; split
  · exact xor_lt (by omega) (by decide)
  · omega
theorem steps_lt {r : Nat} (h : r < 4294967296) : ∀ k, steps k r < 4294967296
  | 0 => h
  | k + 1 => step_lt (steps_lt h k)
theorem reg_lt : ∀ (l : List Nat) {r : Nat}, r < 4294967296 → (∀ c ∈ l, c < 256) → reg r l < 4294967296
  | [], _, h, _ => by rewrite [reg_nil]; exact h
  | c :: l, _, h, hl => by rewrite [reg_cons]; exact reg_lt l (steps_lt (xor_lt h (by have := hl c (by simp); omega)) 8) (fun d hd => hl d (by simp [hd]))
theorem not32_lt (r : Nat) : not32 r < 4294967296 := by unfold not32; omega
theorem ext_lt (s : Nat) (l : List Nat) : ext s l < 4294967296 := not32_lt _
theorem not32_xor {r : Nat} (h : r < 4294967296) : not32 r = r ^^^ 4294967295 := by
  unfold not32
  apply Nat.eq_of_testBit_eq
  intro i
  rw [Nat.testBit_xor]
  have h1 : (4294967295 - r) = 2 ^ 32 - (r + 1) := by omega
  rw [h1, Nat.testBit_two_pow_sub_succ (by simpa using h)]
  have h2 : (4294967295 : Nat) = 2 ^ 32 - 1 := by decide
  rw [h2, Nat.testBit_two_pow_sub_one]
  by_cases hi : i < 32
  · simp [hi]
  · have : r.testBit i = false := Nat.testBit_lt_two_pow (Nat.lt_of_lt_of_le h (by
      have : (2 : Nat) ^ 32 ≤ 2 ^ i := Nat.pow_le_pow_right (by omega) (by omega)
      simpa using this))
    simp [hi, this]

theorem reg_append (r : Nat) (a b : List Nat) : reg r (a ++ b) = reg (reg r a) b := by
  unfold reg
  exact List.foldl_append
theorem reg_snoc (r : Nat) (a : List Nat) (c : Nat) : reg r (a ++ [c]) = steps 8 (reg r a ^^^ c) := by
  rewrite [reg_append, reg_cons]; exact reg_nil _
/-- The shift is linear. -/
theorem step_xor (a b : Nat) : step (a ^^^ b) = step a ^^^ step b := by
  unfold step
  rw [Nat.xor_div_two, xor_mod]
  by_cases ha : a % 2 = 1 <;> by_cases hb : b % 2 = 1
  · rw [if_neg (by omega), if_pos ha, if_pos hb]
    have : ∀ x y p : Nat, (x ^^^ p) ^^^ (y ^^^ p) = x ^^^ y := fun x y p => by
      rw [Nat.xor_assoc, Nat.xor_comm y p, ← Nat.xor_assoc p p y, Nat.xor_self, Nat.zero_xor]
    rw [this]
  · rw [if_pos (by omega), if_pos ha, if_neg hb]
    rw [Nat.xor_assoc, Nat.xor_assoc, Nat.xor_comm (b / 2)]
  · rw [if_pos (by omega), if_neg ha, if_pos hb]
    rw [Nat.xor_assoc]
  · rw [if_neg (by omega), if_neg ha, if_neg hb]
theorem steps_xor (a b : Nat) : ∀ k, steps k (a ^^^ b) = steps k a ^^^ steps k b
  | 0 => rfl
  | k + 1 => by simp only [steps]; rw [steps_xor a b k, step_xor]
/-- Bit by bit, each one held against the lowest, is the byte laid over the register and eight shifts. -/
theorem stepBit_xor (r c : Nat) : stepBit r c ^^^ (c / 2) = step (r ^^^ c) := by
  unfold stepBit step
  rw [Nat.xor_div_two, xor_mod]
  by_cases h : (r + c) % 2 = 1
  · rw [if_pos h, if_pos h, Nat.xor_assoc, Nat.xor_assoc, Nat.xor_comm (c / 2)]
  · rw [if_neg h, if_neg h]
theorem bitsOf_xor (r c : Nat) : ∀ k, bitsOf r c k ^^^ (c / 2 ^ k) = steps k (r ^^^ c)
  | 0 => by simp [bitsOf, steps]
  | k + 1 => by
    simp only [bitsOf, steps]
    rw [← bitsOf_xor r c k, ← stepBit_xor, Nat.div_div_eq_div_mul, ← Nat.pow_succ]
theorem bitsOf_eight (r c : Nat) (h : c < 256) : bitsOf r c 8 = steps 8 (r ^^^ c) := by
  rw [← bitsOf_xor r c 8, Nat.div_eq_of_lt (by omega), Nat.xor_zero]
theorem stepBit_lt {r c : Nat} (h : r < 4294967296) : stepBit r c < 4294967296 := by
  unfold stepBit; split
  · exact xor_lt (by omega) (by decide)
  · omega
theorem bitsOf_lt {r : Nat} (c : Nat) (h : r < 4294967296) : ∀ k, bitsOf r c k < 4294967296
  | 0 => h
  | k + 1 => stepBit_lt (bitsOf_lt c h k)

/-- No two registers come to one by a shift. -/
theorem step_zero {r : Nat} (hr : r < 4294967296) (h : step r = 0) : r = 0 := by
  unfold step at h
  split at h
  · next h1 =>
    have h2 : (r / 2 ^^^ 3988292384) ^^^ 3988292384 = 3988292384 := by rw [h, Nat.zero_xor]
    rw [Nat.xor_assoc, Nat.xor_self, Nat.xor_zero] at h2
    omega
  · omega
theorem steps_zero {r : Nat} (hr : r < 4294967296) : ∀ k, steps k r = 0 → r = 0
  | 0, h => h
  | k + 1, h => steps_zero hr k (step_zero (steps_lt hr k) h)
theorem xor_zero_iff {a b : Nat} (h : a ^^^ b = 0) : a = b := by
  have h2 : (a ^^^ b) ^^^ b = b := by rw [h, Nat.zero_xor]
  rw [Nat.xor_assoc, Nat.xor_self, Nat.xor_zero] at h2
  exact h2
theorem steps_inj {a b : Nat} (ha : a < 4294967296) (hb : b < 4294967296) (k : Nat) (h : steps k a = steps k b) : a = b := by
  apply xor_zero_iff
  apply steps_zero (xor_lt ha hb) k
  rw [steps_xor, h, Nat.xor_self]
theorem xor_inj {a b c : Nat} (h : a ^^^ c = b ^^^ c) : a = b := by
  have h2 : (a ^^^ c) ^^^ c = (b ^^^ c) ^^^ c := by rw [h]
  rw [Nat.xor_assoc, Nat.xor_assoc, Nat.xor_self, Nat.xor_zero, Nat.xor_zero] at h2
  exact h2
theorem xor_inj' {a b c : Nat} (h : c ^^^ a = c ^^^ b) : a = b := by
  rw [Nat.xor_comm c a, Nat.xor_comm c b] at h
  exact xor_inj h
/-- No two registers come to one by the same bytes. -/
theorem reg_inj : ∀ (l : List Nat) {a b : Nat}, a < 4294967296 → b < 4294967296 → (∀ c ∈ l, c < 256) → reg a l = reg b l → a = b
  | [], _, _, _, _, _, h => by rewrite [reg_nil, reg_nil] at h; exact h
  | c :: l, a, b, ha, hb, hl, h => by
    rewrite [reg_cons, reg_cons] at h
    have hc : c < 4294967296 := by have := hl c (by simp); omega
    have h1 := reg_inj l (steps_lt (xor_lt ha hc) 8) (steps_lt (xor_lt hb hc) 8) (fun d hd => hl d (by simp [hd])) h
    exact xor_inj (steps_inj (xor_lt ha hc) (xor_lt hb hc) 8 h1)
/-- One byte that is turned turns the register behind the row. -/
theorem reg_turned (r : Nat) (a b : List Nat) (x y : Nat) (hr : r < 4294967296) (ha : ∀ c ∈ a, c < 256) (hb : ∀ c ∈ b, c < 256) (hx : x < 256) (hy : y < 256)
    (h : reg r (a ++ x :: b) = reg r (a ++ y :: b)) : x = y := by
  rewrite [reg_append, reg_append] at h
  rewrite [reg_cons, reg_cons] at h
  have h0 := reg_lt a hr ha
  have h1 := reg_inj b (steps_lt (xor_lt h0 (by omega)) 8) (steps_lt (xor_lt h0 (by omega)) 8) hb h
  exact xor_inj' (steps_inj (xor_lt h0 (by omega)) (xor_lt h0 (by omega)) 8 h1)
end Go.Proofs.YtagncghpfdjkmaaGreatDoor.Crc
end
/- The contracts of frame.shiftByte, frame.Extend, frame.Sum: they compute CRC-32's register, and leave the world as it was. -/
section
namespace Go.Proofs.YtagncghpfdjkmaaGreatDoor
open Go.ChangeShapes Go.WideShapes Go.ChangeAt Go.RowKit
theorem step_odd (n : Nat) (hn : n < 4294967296) (h : n % 2 = 1) : bits .xor .u32 ((n : Int) / 2) 3988292384 = ((Crc.step n : Nat) : Int) := by
  have e : ((n : Int) / 2) = ((n / 2 : Nat) : Int) := by omega
  rw [e]
  have := u32_xor_nat (n / 2) 3988292384 (by omega) (by decide)
  rw [Crc.step, if_pos h]
  exact this

theorem step_even (n : Nat) (h : ¬ n % 2 = 1) : ((n : Int) / 2) = ((Crc.step n : Nat) : Int) := by
  rw [Crc.step, if_neg h]; omega
theorem and_one (n : Nat) (hn : n < 4294967296) : bits .and .u32 (n : Int) 1 = ((n % 2 : Nat) : Int) := by
  have := u32_and_nat n 1 hn (by decide)
  rw [nat_mask1] at this
  exact this
theorem odd_of (n : Nat) (hn : n < 4294967296) (h : (bits .and .u32 (n : Int) 1 == 1) = true) : n % 2 = 1 := by
  rw [and_one n hn] at h
  have := beq_iff_eq.1 h
  omega
theorem even_of (n : Nat) (hn : n < 4294967296) (h : (bits .and .u32 (n : Int) 1 == 1) = false) : ¬ n % 2 = 1 := by
  rw [and_one n hn] at h
  have := beq_eq_false_iff_ne.1 h
  omega

set_option maxHeartbeats 400000 in
theorem shift_calls (r : Nat) (w : World) (hr : r < 4294967296) :
    Calls Tryz.prog 152 #[.int .u32 (r : Int)] w fun e w' => e = .returned (.int .u32 ((Crc.steps 8 r : Nat) : Int)) ∧ w' = w := by
  go_enter Tryz.func152, Tryz.ntmps152
  go_wp2
  go_loop [0, 4] (fun x i => ∃ k n : Nat, k ≤ 8 ∧ i = .int .i64 (k : Int) ∧ x = .int .u32 (n : Int) ∧ n = Crc.steps k r) (fun _ i => 8 - (intOf i).toNat)
  case atStart => exact ⟨0, r, by omega, rfl, rfl, rfl⟩
  case round =>
    obtain ⟨k, n, hk, rfl, rfl, hn⟩ := hrel
    have hlt : n < 4294967296 := by rw [hn]; exact Crc.steps_lt hr k
    have HN : Hid (n = Crc.steps k r) := hn
    clear hn
    by_cases h8 : k < 8
    · have hs : Crc.steps (k + 1) r = Crc.step n := by rw [HN.out]; rfl
      have HS := hide hs
      clear hs
      go_wp2
      · have ho : n % 2 = 1 := odd_of n hlt ‹_›
        exact ⟨⟨k + 1, Crc.step n, by omega, by go_num, by rw [step_odd n hlt ho], (unhide HS).symm⟩, by simp [intOf]; omega⟩
      · have ho : ¬ n % 2 = 1 := even_of n hlt ‹_›
        exact ⟨⟨k + 1, Crc.step n, by omega, by go_num, by rw [step_even n ho], (unhide HS).symm⟩, by simp [intOf]; omega⟩
    · have hk8 : k = 8 := by omega
      subst hk8
      have HR := hide (show Ending.returned (.int .u32 (n : Int)) = .returned (.int .u32 ((Crc.steps 8 r : Nat) : Int)) by rw [HN.out])
      go_wp2
      go_ret
      exact ⟨unhide HR, rfl⟩

theorem not_u32 (n : Nat) (hn : n < 4294967296) : bits .xor .u32 IntKind.u32.max (n : Int) = ((Crc.not32 n : Nat) : Int) := by
  have e : IntKind.u32.max = ((4294967295 : Nat) : Int) := by decide
  rw [e, u32_xor_nat 4294967295 n (by decide) hn, Crc.not32_xor hn, Nat.xor_comm]
theorem xor_u32 (a b : Nat) (ha : a < 4294967296) (hb : b < 4294967296) : bits .xor .u32 (a : Int) (b : Int) = ((a ^^^ b : Nat) : Int) := u32_xor_nat a b ha hb
set_option maxHeartbeats 400000 in
theorem extend_calls (s : Nat) (a : Option Addr) (c : Nat) (l : List Nat) (w : World) (hs : s < 4294967296) (hl : l.length ≤ maxLen) (hb : BytesAt w a l) :
    Calls Tryz.prog 132 #[.int .u32 (s : Int), .slice a l.length c] w fun e w' => e = .returned (.int .u32 ((Crc.ext s l : Nat) : Int)) ∧ w' = w := by
  unfold maxLen at hl
  have hB := hide hb
  clear hb
  go_enter Tryz.func132, Tryz.ntmps132
  go_wp2
  rw [not_u32 s hs]
  go_loop [5, 12] (fun x i => ∃ k n : Nat, k ≤ l.length ∧ i = .int .i64 (k : Int) ∧ x = .int .u32 (n : Int) ∧ n = Crc.reg (Crc.not32 s) (l.take k)) (fun _ i => l.length - (intOf i).toNat)
  case atStart => exact ⟨0, Crc.not32 s, by omega, rfl, rfl, by rw [List.take_zero, Crc.reg_nil]⟩
  case round =>
    obtain ⟨k, n, hk, rfl, rfl, hn⟩ := hrel
    have hlt : n < 4294967296 := by rw [hn]; exact Crc.reg_lt _ (Crc.not32_lt _) (fun c hc => (unhide hB).lt c (List.mem_of_mem_take hc))
    have HN : Hid (n = Crc.reg (Crc.not32 s) (l.take k)) := hn
    clear hn
    by_cases hkl : k < l.length
    · obtain ⟨b, off, rfl, hc⟩ := (unhide hB).cell k hkl
      have hc256 := getD_lt (unhide hB).lt k
      have HS := hide (show Crc.reg (Crc.not32 s) (l.take (k + 1)) = Crc.steps 8 (n ^^^ l.getD k 0) by rw [take_snoc_nat l k hkl, Crc.reg_snoc, HN.out])
      generalize l.getD k 0 = x at *
      go_wp2_with fail
      rw [xor_u32 n x hlt (by omega)]
      refine (shift_calls _ _ (Crc.xor_lt hlt (by omega))).mono ?_
      rintro e w' ⟨rfl, rfl⟩
      generalize hy : Crc.steps 8 (n ^^^ x) = y at *
      have HY := hide hy
      clear hy
      go_wp2
      exact ⟨⟨k + 1, y, by omega, by go_num, rfl, (unhide HS).symm⟩, by simp [intOf]; omega⟩
    · have hkl' : k = l.length := by omega
      have HR := hide (show Ending.returned (.int .u32 ((Crc.not32 n : Nat) : Int)) = .returned (.int .u32 ((Crc.ext s l : Nat) : Int)) by rw [HN.out, hkl', List.take_length]; unfold Crc.ext; exact Eq.refl _)
      have HNn := hide (not_u32 n hlt)
      clear hkl'
      go_wp2
      go_ret
      exact ⟨(congrArg (fun z : Int => Ending.returned (.int .u32 z)) (unhide HNn)).trans (unhide HR), rfl⟩

theorem sum_calls (a : Option Addr) (c : Nat) (l : List Nat) (w : World) (hl : l.length ≤ maxLen) (hb : BytesAt w a l) :
    Calls Tryz.prog 133 #[.slice a l.length c] w fun e w' => e = .returned (.int .u32 ((Crc.ext 0 l : Nat) : Int)) ∧ w' = w := by
  have hB := hide hb
  clear hb
  go_enter Tryz.func133, Tryz.ntmps133
  go_wp2_with (go_at_call 132; refine (extend_calls 0 _ _ _ _ (by decide) hl (unhide hB)).mono ?_; rintro e w' ⟨rfl, rfl⟩)
  go_ret
  exact ⟨rfl, rfl⟩
end Go.Proofs.YtagncghpfdjkmaaGreatDoor
end
/- The contracts of frame.word, frame.wordOf, frame.frameSum, frame.Frame. -/
section
namespace Go.Proofs.YtagncghpfdjkmaaGreatDoor
open Go.ChangeShapes Go.WideShapes Go.ChangeAt Go.RowKit

/-- A number as four bytes, the highest first. -/
def word4 (n : Nat) : List Nat := [n / 16777216, n / 65536 % 256, n / 256 % 256, n % 256]
theorem word4_lt (n : Nat) (hn : n < 4294967296) : ∀ c ∈ word4 n, c < 256 := by
  intro c hc
  simp only [word4, List.mem_cons, List.not_mem_nil, or_false] at hc
  omega
theorem word4_length (n : Nat) : (word4 n).length = 4 := by simp [word4]
set_option maxHeartbeats 400000 in
theorem word_calls (n : Nat) (w : World) (hn : n < 4294967296) :
    Calls Tryz.prog 98 #[.int .u32 (n : Int)] w fun e w' => ∃ b0 b1 b2 b3 : Nat, e = .returned (.agg #[.int .u8 (b0 : Int), .int .u8 (b1 : Int), .int .u8 (b2 : Int), .int .u8 (b3 : Int)]) ∧ Below w.heap.size w w' ∧ Hid (word4 n = [b0, b1, b2, b3]) := by
  go_enter Tryz.func98, Tryz.ntmps98
  go_wp2
  refine bodyPost_ret (v := .agg #[.int .u8 ((n : Int) / 16777216), .int .u8 ((n : Int) / 65536 % 256), .int .u8 ((n : Int) / 256 % 256), .int .u8 ((n : Int) % 256)]) (by simp [results, Tryz.results98, go_sem]) rfl ?_
  exact ⟨n / 16777216, n / 65536 % 256, n / 256 % 256, n % 256, rfl, (Below.refl _ _).alloc (Nat.le_refl _) _, rfl⟩

/-- Four bytes as a number. -/
def num4 (l : List Nat) : Nat := l.getD 0 0 * 16777216 + l.getD 1 0 * 65536 + l.getD 2 0 * 256 + l.getD 3 0

theorem or4 (x0 x1 x2 x3 : Nat) (l0 : x0 < 256) (l1 : x1 < 256) (l2 : x2 < 256) (l3 : x3 < 256) :
    bits .or .u32 (bits .or .u32 (bits .or .u32 ((x0 : Int) * 16777216) ((x1 : Int) * 65536)) ((x2 : Int) * 256)) (x3 : Int) = ((x0 * 16777216 + x1 * 65536 + x2 * 256 + x3 : Nat) : Int) := by
  have e0 : ((x0 : Int) * 16777216) = ((x0 * 16777216 : Nat) : Int) := by omega
  have e1 : ((x1 : Int) * 65536) = ((x1 * 65536 : Nat) : Int) := by omega
  have e2 : ((x2 : Int) * 256) = ((x2 * 256 : Nat) : Int) := by omega
  rw [e0, e1, e2, u32_or_nat _ _ (by omega) (by omega), nat_join 24 (x0 * 16777216) (x1 * 65536) (by omega) (by omega),
    u32_or_nat _ _ (by omega) (by omega), nat_join 16 _ (x2 * 256) (by omega) (by omega),
    u32_or_nat _ _ (by omega) (by omega), nat_join 8 _ x3 (by omega) (by omega)]

set_option maxHeartbeats 400000 in
theorem wordOf_calls (a : Option Addr) (c : Nat) (l : List Nat) (w : World) (h4 : 4 ≤ l.length) (hl : l.length ≤ maxLen) (hb : BytesAt w a l) :
    Calls Tryz.prog 104 #[.slice a l.length c] w fun e w' => e = .returned (.int .u32 ((num4 l : Nat) : Int)) ∧ Below w.heap.size w w' := by
  unfold maxLen at hl
  obtain ⟨b, off, rfl, hc⟩ := bytesAt_some hb (by omega)
  have c0 := hc 0 (by omega)
  have c1 := hc 1 (by omega)
  have c2 := hc 2 (by omega)
  have c3 := hc 3 (by omega)
  have l0 := getD_lt hb.lt 0
  have l1 := getD_lt hb.lt 1
  have l2 := getD_lt hb.lt 2
  have l3 := getD_lt hb.lt 3
  have HR : Hid (num4 l = l.getD 0 0 * 16777216 + l.getD 1 0 * 65536 + l.getD 2 0 * 256 + l.getD 3 0) := rfl
  clear hc hb
  rw [Nat.add_zero] at c0
  generalize num4 l = r at *
  generalize l.getD 0 0 = x0 at *
  generalize l.getD 1 0 = x1 at *
  generalize l.getD 2 0 = x2 at *
  generalize l.getD 3 0 = x3 at *
  generalize l.length = n at *
  go_enter Tryz.func104, Tryz.ntmps104
  go_wp2
  go_quiet (fail)
  go_wp2
  go_ret
  exact ⟨ret_int (by rw [or4 x0 x1 x2 x3 l0 l1 l2 l3, HR.out]), _root_.Go.below_drewN (Below.refl _ _) _⟩

/-- What a frame's sum is taken over. -/
def fsum (n : Nat) (l : List Nat) : Nat := Crc.ext (Crc.ext 0 (word4 n)) l
theorem fsum_lt (n : Nat) (l : List Nat) : fsum n l < 4294967296 := Crc.ext_lt _ _

set_option maxHeartbeats 400000 in
theorem frameSum_calls (a a' : Option Addr) (c c' : Nat) (h l : List Nat) (w : World) (hh : h.length ≤ maxLen) (hl : l.length ≤ maxLen) (hb : BytesAt w a h) (hb' : BytesAt w a' l) :
    Calls Tryz.prog 99 #[.slice a h.length c, .slice a' l.length c'] w fun e w' => e = .returned (.int .u32 ((Crc.ext (Crc.ext 0 h) l : Nat) : Int)) ∧ w' = w := by
  have hB := hide hb
  have hB' := hide hb'
  clear hb hb'
  go_enter Tryz.func99, Tryz.ntmps99
  go_wp2_with fail
  refine (sum_calls _ _ h _ hh (unhide hB)).mono ?_
  rintro e w' ⟨rfl, rfl⟩
  go_wp2_with fail
  refine (extend_calls _ _ _ l _ (Crc.ext_lt _ _) hl (unhide hB')).mono ?_
  rintro e w' ⟨rfl, rfl⟩
  go_wp2
  go_ret
  exact ⟨rfl, rfl⟩

/-- A frame's bytes. -/
def frameB (l : List Nat) : List Nat := word4 l.length ++ (word4 (fsum l.length l) ++ l)

set_option maxHeartbeats 1000000 in
theorem frame_ok (a : Option Addr) (c : Nat) (l : List Nat) (w : World) (hb : BytesAt w a l) (h : l.length ≤ 65536) :
    Calls Tryz.prog 53 #[.slice a l.length c] w fun e w' => ∃ g, e = .returned (.tuple #[.slice (some ⟨g, 0, none⟩) (8 + l.length) (8 + l.length), .int .i64 0]) ∧ Below w.heap.size w w' ∧ w.heap.size ≤ g ∧ w'.heap[g]? = some (.cells ((frameB l).map byteV).toArray 5 (0, 0)) := by
  have hB := hide hb
  clear hb
  go_enter Tryz.func53, Tryz.ntmps53
  go_wp2_with fail
  refine (word_calls l.length _ (by omega)).mono ?_
  rintro e w1 ⟨b0, b1, b2, b3, rfl, hb1, h1⟩
  have hlt1 : ∀ c ∈ [b0, b1, b2, b3], c < 256 := by rw [← unhide h1]; exact word4_lt _ (by omega)
  have hW1 := heap_new w1 (.cells #[.int .u8 (b0 : Int), .int .u8 (b1 : Int), .int .u8 (b2 : Int), .int .u8 (b3 : Int)] 149)
  have hbW1 : Below w.heap.size w (w1.alloc (.cells #[.int .u8 (b0 : Int), .int .u8 (b1 : Int), .int .u8 (b2 : Int), .int .u8 (b3 : Int)] 149)) := hb1.alloc hb1.size _
  have hB1 := hide (bytesAt_block (l := [b0, b1, b2, b3]) hW1 hlt1)
  have hBl1 := hide ((unhide hB).later hbW1)
  have HW1 := hide hW1
  have HB1 := hide hbW1
  clear hW1 hbW1 hB
  go_wp2_with fail
  generalize w1.alloc _ = W1 at *
  refine (frameSum_calls _ _ _ _ [b0, b1, b2, b3] l _ (by simp [maxLen]) (by unfold maxLen; omega) (unhide hB1) (unhide hBl1)).mono ?_
  rintro e W1 ⟨rfl, rfl⟩
  rw [← unhide h1]
  have HS := hide (show Crc.ext (Crc.ext 0 (word4 l.length)) l = fsum l.length l from rfl)
  rw [unhide HS]
  generalize hs : fsum l.length l = s at *
  have Hs := hide hs
  have hslt : s < 4294967296 := by rw [← hs]; exact fsum_lt _ _
  clear hs
  go_wp2_with fail
  refine (word_calls s _ hslt).mono ?_
  rintro e w2 ⟨c0, c1, c2, c3, rfl, hb2, h2⟩
  have hlt2 : ∀ c ∈ [c0, c1, c2, c3], c < 256 := by rw [← unhide h2]; exact word4_lt _ hslt
  have hW2 := heap_new w2 (.cells #[.int .u8 (c0 : Int), .int .u8 (c1 : Int), .int .u8 (c2 : Int), .int .u8 (c3 : Int)] 149)
  have hsz2 := hb2.size
  have hbW2 : Below W1.heap.size W1 (w2.alloc (.cells #[.int .u8 (c0 : Int), .int .u8 (c1 : Int), .int .u8 (c2 : Int), .int .u8 (c3 : Int)] 149)) := hb2.alloc hb2.size _
  have hmk := run_make8 (8 + l.length) (by omega)
  have e8 : ((8 + l.length : Nat) : Int) = 8 + (l.length : Int) := by omega
  rw [e8] at hmk
  clear e8
  have hW3 := fun o1 o2 => heap_new (w2.alloc o1) o2
  have hbW3 : ∀ o1 o2, Below (w2.heap.size + 1) (w2.alloc o1) ((w2.alloc o1).alloc o2) := fun o1 o2 => (Below.refl _ _).alloc (by simp) _
  simp only [World.size_alloc] at hW3
  have HW3 := hide hW3
  have hsB := (unhide HB1).size
  have HF := hide (fun o2 W (hb : Below (w2.heap.size + 1) ((w2.alloc (.cells #[.int .u8 (c0 : Int), .int .u8 (c1 : Int), .int .u8 (c2 : Int), .int .u8 (c3 : Int)] 149)).alloc o2) W) =>
    (show BytesAt W (some ⟨w1.heap.size, 0, none⟩) [b0, b1, b2, b3] ∧ BytesAt W (some ⟨w2.heap.size, 0, none⟩) [c0, c1, c2, c3] ∧ BytesAt W a l ∧ Below w.heap.size w W from by
      have hq : Below (w2.heap.size + 1) (w2.alloc (.cells #[.int .u8 (c0 : Int), .int .u8 (c1 : Int), .int .u8 (c2 : Int), .int .u8 (c3 : Int)] 149)) W := (hbW3 _ o2).trans hb
      have hq1 : Below W1.heap.size W1 W := hbW2.trans (hq.mono (by omega))
      exact ⟨(unhide hB1).later hq1, (bytesAt_block (l := [c0, c1, c2, c3]) hW2 hlt2).later (hq.mono (by simp)), (unhide hBl1).later hq1, (unhide HB1).trans (hq1.mono hsB)⟩))
  clear hW3 hW2 hbW2 hbW3 hlt1 hlt2 hB1 hBl1 HW1 hb1 hb2 HS
  have hz : 0 + 4 ≤ (zeros (8 + l.length)).length := by rw [zeros_length]; omega
  go_wp2_with (refine wpList_copy8 rfl (.tmp 22) (.tmp 23) rfl (some ⟨w2.heap.size + 1, 0, none⟩) (some ⟨w1.heap.size, 0, none⟩) (8 + l.length) (8 + l.length) 4 4 rfl rfl (w2.heap.size + 1) 0 (zeros (8 + l.length)) ?hg [b0, b1, b2, b3] ?hsl rfl (by omega) (fun _ => rfl) hz ?_; rotate_right; intro W4 h4 hb4)
  case hg => exact unhide HW3 _ _
  case hsl => exact (unhide HF _ _ (Below.refl _ _)).1
  have F4 := hide (unhide HF _ _ hb4)
  generalize hZ1 : splice (zeros (8 + l.length)) 0 [b0, b1, b2, b3] = Z1 at *
  have HZ1 := hide hZ1
  have hz1 : 4 + 4 ≤ Z1.length := by rw [← hZ1, length_splice _ _ _ (by simp only [zeros_length, List.length_cons, List.length_nil]; omega), zeros_length]; omega
  clear hZ1 HW3 hmk
  have q1 : (4 : Int) ≤ 8 + (l.length : Int) := by omega
  have q2 : ¬ (8 + l.length = 4) := by omega
  have q3 : 8 + l.length - 4 = 4 + l.length := by omega
  go_region_law (refine step_copy8 rfl (.tmp 26) (.tmp 27) rfl (some ⟨w2.heap.size + 1, 4, none⟩) (some ⟨w2.heap.size, 0, none⟩) (4 + l.length) (4 + l.length) 4 4 rfl rfl (w2.heap.size + 1) 4 Z1 (by exact unhide h4) [c0, c1, c2, c3] (by exact (unhide F4).2.1.drew) rfl (by omega) (fun _ => rfl) hz1 ?_; intro W5 h5 hb5)
  have hb45 : Below (w2.heap.size + 1) W4 W5 := ((Below.refl _ _).drew).trans hb5
  have F5 := hide (unhide HF _ _ (hb4.trans hb45))
  generalize hZ2 : splice Z1 4 [c0, c1, c2, c3] = Z2 at *
  have HZ2 := hide hZ2
  have hz2 : 8 + l.length ≤ Z2.length := by
    rw [← hZ2, length_splice _ _ _ (by simp only [List.length_cons, List.length_nil]; omega), ← unhide HZ1, length_splice _ _ _ (by simp only [zeros_length, List.length_cons, List.length_nil]; omega), zeros_length]
    exact Nat.le_refl _
  clear hZ2 q1 q2 q3 hb5 h4 F4
  have hs8 : ∀ u : World, (Instr.slice 27 (.slice (some ⟨w2.heap.size + 1, 0, none⟩) (8 + l.length) (8 + l.length)) (some (.int .i64 8)) none none).run Tryz.prog u = .ok (.slice (slp (some ⟨w2.heap.size + 1, 0, none⟩) 8 (8 + l.length)) (8 + l.length - 8) (8 + l.length - 8)) u :=
    run_slice_l8 (some ⟨w2.heap.size + 1, 0, none⟩) (8 + l.length) (8 + l.length) 8 (by omega)
  have hp8 := hide (show 0 < l.length → slp (some ⟨w2.heap.size + 1, 0, none⟩) 8 (8 + l.length) = some ⟨w2.heap.size + 1, 8, none⟩ from fun h0 => by unfold slp; rw [if_neg (by omega)]; simp [Addr.add_lit])
  rw [show 8 + l.length - 8 = l.length by omega] at hs8
  generalize slp (some ⟨w2.heap.size + 1, 0, none⟩) 8 (8 + l.length) = p8 at *
  go_wp2_with (refine wpList_copy8 rfl (.tmp 30) (.tmp 31) rfl p8 a l.length l.length l.length c rfl rfl (w2.heap.size + 1) 8 Z2 ?hg l ?hsl rfl (Nat.le_refl _) ?hdp hz2 ?_; rotate_right; intro W6 h6 hb6)
  case hg => exact unhide h5
  case hsl => exact (unhide F5).2.2.1
  case hdp => exact unhide hp8
  have F6 := hide (unhide HF _ _ (hb4.trans (hb45.trans hb6)))
  have HZ : splice Z2 8 l = frameB l := by
    rw [← unhide HZ2, ← unhide HZ1]
    have e := splice_splice_splice (zeros (8 + l.length)) [b0, b1, b2, b3] [c0, c1, c2, c3] l 4 4 rfl rfl (by rw [zeros_length])
    rw [e, ← unhide h1, ← unhide h2, ← unhide Hs]; rfl
  rw [HZ] at h6
  go_ret2
  exact ⟨w2.heap.size + 1, rfl, (unhide F6).2.2.2, by omega, unhide h6⟩
end Go.Proofs.YtagncghpfdjkmaaGreatDoor
end
/- The contract of frame.Next: what a frame at a place holds, or the error. -/
section
namespace Go.Proofs.YtagncghpfdjkmaaGreatDoor
open Go.ChangeShapes Go.WideShapes Go.ChangeAt Go.RowKit

/-- The number of the error at a place that may be (0: none). -/
def nextE (l : List Nat) (k : Nat) : Nat :=
  if l.length - k < 8 then 3 else if 65536 < num4 (l.drop k) then 6 else if l.length - k - 8 < num4 (l.drop k) then 3
  else if Crc.ext (Crc.ext 0 ((l.drop k).take 4)) ((l.drop (k + 8)).take (num4 (l.drop k))) = num4 (l.drop (k + 4)) then 0 else 5
/-- What the frame at a place holds. -/
def nextH (l : List Nat) (k : Nat) : List Nat := (l.drop (k + 8)).take (num4 (l.drop k))

theorem num4_lt {l : List Nat} (h : ∀ c ∈ l, c < 256) : num4 l < 4294967296 := by
  have l0 := getD_lt h 0
  have l1 := getD_lt h 1
  have l2 := getD_lt h 2
  have l3 := getD_lt h 3
  unfold num4; omega
theorem num4_take (l : List Nat) : num4 (l.take 4) = num4 l := by
  unfold num4; rw [getD_take l 4 0 (by omega), getD_take l 4 1 (by omega), getD_take l 4 2 (by omega), getD_take l 4 3 (by omega)]

theorem next_short (a : Option Addr) (c : Nat) (l : List Nat) (k : Nat) (w : World) (hl : l.length ≤ maxLen) (hk : k ≤ l.length) (h : l.length - k < 8) :
    Calls Tryz.prog 58 #[.slice a l.length c, .int .i64 (k : Int)] w fun e w' => e = .returned (.tuple #[.slice none 0 0, .int .i64 0, .int .i64 3]) ∧ w' = w := by
  unfold maxLen at hl
  have h0 : ¬ (k : Int) < 0 := by omega
  have h1 : ¬ (l.length : Int) < (k : Int) := by omega
  go_enter Tryz.func58, Tryz.ntmps58
  go_wp2
  go_ret3
  exact ⟨rfl, rfl⟩

theorem splice_whole (Z X : List Nat) (h : Z.length = X.length) : splice Z 0 X = X := by
  unfold splice
  rw [List.take_zero, List.nil_append, List.drop_eq_nil_of_le (by omega), List.append_nil]
theorem wordOf_calls' (a : Option Addr) (n c : Nat) (l : List Nat) (w : World) (hn : l.length = n) (h4 : 4 ≤ l.length) (hl : l.length ≤ maxLen) (hb : BytesAt w a l) :
    Calls Tryz.prog 104 #[.slice a n c] w fun e w' => e = .returned (.int .u32 ((num4 l : Nat) : Int)) ∧ Below w.heap.size w w' := by
  subst hn; exact wordOf_calls a c l w h4 hl hb
theorem frameSum_calls' (a a' : Option Addr) (n n' c c' : Nat) (h l : List Nat) (w : World) (hn : h.length = n) (hn' : l.length = n') (hh : h.length ≤ maxLen) (hl : l.length ≤ maxLen) (hb : BytesAt w a h) (hb' : BytesAt w a' l) :
    Calls Tryz.prog 99 #[.slice a n c, .slice a' n' c'] w fun e w' => e = .returned (.int .u32 ((Crc.ext (Crc.ext 0 h) l : Nat) : Int)) ∧ w' = w := by
  subst hn; subst hn'; exact frameSum_calls a a' c c' h l w hh hl hb hb'

set_option maxHeartbeats 1000000 in
theorem next_calls (a : Option Addr) (c : Nat) (l : List Nat) (k : Nat) (w : World) (hl : l.length ≤ maxLen) (hc : l.length ≤ c) (hk : k ≤ l.length) (h8 : ¬ l.length - k < 8) (hb : BytesAt w a l) :
    Calls Tryz.prog 58 #[.slice a l.length c, .int .i64 (k : Int)] w fun e w' => Below w.heap.size w w' ∧
      ((0 < nextE l k ∧ e = .returned (.tuple #[.slice none 0 0, .int .i64 0, .int .i64 (nextE l k : Nat)])) ∨
       (nextE l k = 0 ∧ ∃ g, e = .returned (.tuple #[.slice (some ⟨g, 0, none⟩) (nextH l k).length (nextH l k).length, .int .i64 ((k + 8 + (nextH l k).length : Nat) : Int), .int .i64 0]) ∧ w.heap.size ≤ g ∧ w'.heap[g]? = some (.cells ((nextH l k).map byteV).toArray 5 (0, 0)))) := by
  unfold maxLen at hl
  have h0 : ¬ (k : Int) < 0 := by omega
  have h1 : ¬ (l.length : Int) < (k : Int) := by omega
  have h2 : ¬ (l.length : Int) - (k : Int) < 8 := by omega
  have s1 := run_slice_lh8 a l.length c k (k + 4) (by omega) (by omega)
  have s2 := run_slice_l8 a l.length c (k + 4) (by omega)
  have B1 := hide ((hb.drop k c hc).take 4)
  have B2 := hide (hb.drop (k + 4) c hc)
  have HB := hide hb
  have e1 : ((k + 4 : Nat) : Int) = (k : Int) + 4 := by omega
  rw [e1] at s1 s2
  rw [show k + 4 - k = 4 by omega] at s1
  generalize hp1 : slp a k c = p1 at *
  generalize hp2 : slp a (k + 4) c = p2 at *
  clear e1 hb hp1 hp2
  have HE : Hid (nextE l k = if 65536 < num4 (l.drop k) then 6 else if l.length - k - 8 < num4 (l.drop k) then 3
    else if Crc.ext (Crc.ext 0 ((l.drop k).take 4)) ((l.drop (k + 8)).take (num4 (l.drop k))) = num4 (l.drop (k + 4)) then 0 else 5) := by
    show _ = _
    rw [nextE, if_neg h8]
  have HH : Hid (nextH l k = (l.drop (k + 8)).take (num4 (l.drop k))) := by show _ = _; rw [nextH]
  have hn4 := num4_lt (fun c hc => (unhide HB).lt c (List.mem_of_mem_drop hc) : ∀ c ∈ l.drop k, c < 256)
  have hsm4 := num4_lt (fun c hc => (unhide HB).lt c (List.mem_of_mem_drop hc) : ∀ c ∈ l.drop (k + 4), c < 256)
  have L2 := hide (show (l.drop (k + 4)).length = l.length - (k + 4) by simp)
  have L1 := hide (show ((l.drop k).take 4).length = 4 by simp; omega)
  have L1' := hide (show 4 ≤ ((l.drop k).take 4).length by simp; omega)
  have L2' := hide (show 4 ≤ (l.drop (k + 4)).length by simp; omega)
  have L1m := hide (show ((l.drop k).take 4).length ≤ maxLen by simp [maxLen]; omega)
  have L2m := hide (show (l.drop (k + 4)).length ≤ maxLen by simp [maxLen]; omega)
  have N1 := hide (num4_take (l.drop k))
  go_enter Tryz.func58, Tryz.ntmps58
  go_wp2_with fail
  refine (wordOf_calls' _ _ _ (l.drop (k + 4)) _ (unhide L2) (unhide L2') (unhide L2m) (unhide B2)).mono ?_
  rintro e w1 ⟨rfl, hb1⟩
  have B1a := hide ((unhide B1).later hb1)
  have HBa := hide ((unhide HB).later hb1)
  generalize hsm : num4 (l.drop (k + 4)) = sm at *
  have Hsm := hide hsm
  clear hsm
  go_wp2_with fail
  refine (wordOf_calls' _ _ _ ((l.drop k).take 4) _ (unhide L1) (unhide L1') (unhide L1m) (unhide B1a)).mono ?_
  rintro e w2 ⟨rfl, hb2⟩
  have B1b := hide ((unhide B1a).later hb2)
  have HBb := hide ((unhide HBa).later hb2)
  have hb02 : Below w.heap.size w w2 := hb1.trans (hb2.mono hb1.size)
  rw [unhide N1]
  generalize hnn : num4 (l.drop k) = n at *
  have Hn := hide hnn
  clear hnn
  by_cases hA : 65536 < n
  · have HE' := hide ((unhide HE).trans (if_pos hA))
    go_wp2
    go_ret3
    refine ⟨hb02, Or.inl ⟨by rw [unhide HE']; omega, by rw [unhide HE']; rfl⟩⟩
  · have HE' := hide ((unhide HE).trans (if_neg hA))
    have hA' : ¬ 65536 < (n : Int) := by omega
    go_wp2_with fail
    refine (wordOf_calls' _ _ _ ((l.drop k).take 4) _ (unhide L1) (unhide L1') (unhide L1m) (unhide B1b)).mono ?_
    rintro e w3 ⟨rfl, hb3⟩
    have B1c := hide ((unhide B1b).later hb3)
    have HBc := hide ((unhide HBb).later hb3)
    have hb03 : Below w.heap.size w w3 := hb02.trans (hb3.mono hb02.size)
    rw [unhide N1]
    by_cases hC : l.length - k - 8 < n
    · have HE'' := hide ((unhide HE').trans (if_pos hC))
      have hC' : (l.length : Int) - ((k : Int) + 8) < (n : Int) := by omega
      go_wp2
      go_ret3
      refine ⟨hb03, Or.inl ⟨by rw [unhide HE'']; omega, by rw [unhide HE'']; rfl⟩⟩
    · have HE'' := hide ((unhide HE').trans (if_neg hC))
      have hC' : ¬ (l.length : Int) - ((k : Int) + 8) < (n : Int) := by omega
      have s3 := run_slice_lh8 a l.length c (k + 8) (k + 8 + n) (by omega) (by omega)
      have B3 := hide (((unhide HBc).drop (k + 8) c hc).take n)
      have e3 : ((k + 8 : Nat) : Int) = (k : Int) + 8 := by omega
      have e4 : ((k + 8 + n : Nat) : Int) = (k : Int) + 8 + (n : Int) := by omega
      rw [e3, e4] at s3
      rw [show k + 8 + n - (k + 8) = n by omega] at s3
      generalize hp3 : slp a (k + 8) c = p3 at *
      have hL3 : ((l.drop (k + 8)).take n).length = n := by simp; omega
      have L3 := hide hL3
      have L3m := hide (show ((l.drop (k + 8)).take n).length ≤ maxLen by rw [hL3]; simp [maxLen]; omega)
      clear e3 e4 hp3 hL3
      go_wp2_with fail
      refine (frameSum_calls' _ _ _ _ _ _ ((l.drop k).take 4) ((l.drop (k + 8)).take n) _ (unhide L1) (unhide L3) (unhide L1m) (unhide L3m) (unhide B1c) (unhide B3)).mono ?_
      rintro e w4 ⟨rfl, rfl⟩
      have hsl := Crc.ext_lt (Crc.ext 0 ((l.drop k).take 4)) ((l.drop (k + 8)).take n)
      generalize hss : Crc.ext (Crc.ext 0 ((l.drop k).take 4)) ((l.drop (k + 8)).take n) = ss at *
      have Hss := hide hss
      clear hss
      by_cases hD : ss = sm
      · have HE3 := hide ((unhide HE'').trans (if_pos hD))
        have hD' : ((ss : Int) != (sm : Int)) = false := by rw [hD]; simp
        have hmk := run_make8 n (by omega)
        go_wp2_with (refine wpList_copy8 rfl (.tmp 63) (.tmp 64) rfl (some ⟨w4.heap.size, 0, none⟩) p3 n n n _ rfl rfl w4.heap.size 0 (zeros n) ?hg ((l.drop (k + 8)).take n) ?hsl (by exact unhide L3) (Nat.le_refl _) (fun _ => rfl) (by rw [zeros_length]; omega) ?_; rotate_right; intro W6 h6 hb6)
        case hg => exact heap_new _ _
        case hsl => exact (unhide B3).later ((Below.refl _ _).alloc (Nat.le_refl _) _)
        have hbw : Below w4.heap.size w4 W6 := ((Below.refl _ _).alloc (Nat.le_refl _) _).trans hb6
        have hX := splice_whole (zeros n) ((l.drop (k + 8)).take n) (by rw [zeros_length, unhide L3])
        rw [hX] at h6
        go_ret3
        refine ⟨hb03.trans (hbw.mono hb03.size), Or.inr ⟨unhide HE3, w4.heap.size, ?_, hb03.size, by rw [unhide HH]; exact unhide h6⟩⟩
        rw [unhide HH, unhide L3]
        rfl
      · have HE3 := hide ((unhide HE'').trans (if_neg hD))
        have hD' : ((ss : Int) != (sm : Int)) = true := by simp; omega
        go_wp2
        go_ret3
        refine ⟨hb03, Or.inl ⟨by rw [unhide HE3]; omega, by rw [unhide HE3]; rfl⟩⟩
end Go.Proofs.YtagncghpfdjkmaaGreatDoor
end
/- What is framed is read as it was (plain), strings of bytes, and the contract of the statements' own function live. -/
section
namespace Go.Proofs.YtagncghpfdjkmaaGreatDoor
open Go.ChangeShapes Go.WideShapes Go.ChangeAt Go.RowKit

theorem num4_word4 (n : Nat) (rest : List Nat) : num4 (word4 n ++ rest) = n := by
  simp only [num4, word4, List.cons_append, List.getD_cons_zero, List.getD_cons_succ]
  omega
theorem frameB_length (l : List Nat) : (frameB l).length = 8 + l.length := by simp only [frameB, List.length_append, word4_length]; omega
theorem frameB_lt {l : List Nat} (hl : ∀ c ∈ l, c < 256) (h : l.length ≤ 65536) : ∀ c ∈ frameB l, c < 256 := by
  intro c hc
  simp only [frameB, List.mem_append] at hc
  rcases hc with hc | hc | hc
  · exact word4_lt _ (by omega) c hc
  · exact word4_lt _ (fsum_lt _ _) c hc
  · exact hl c hc
/-- The four pieces of a frame with something ahead and behind. -/
theorem frame_drops (ahead l behind : List Nat) :
    (ahead ++ (frameB l ++ behind)).drop ahead.length = word4 l.length ++ (word4 (fsum l.length l) ++ (l ++ behind)) ∧
    (ahead ++ (frameB l ++ behind)).drop (ahead.length + 4) = word4 (fsum l.length l) ++ (l ++ behind) ∧
    (ahead ++ (frameB l ++ behind)).drop (ahead.length + 8) = l ++ behind := by
  have h0 : (ahead ++ (frameB l ++ behind)).drop ahead.length = word4 l.length ++ (word4 (fsum l.length l) ++ (l ++ behind)) := by
    rw [List.drop_left]; simp [frameB, List.append_assoc]
  refine ⟨h0, ?_, ?_⟩
  · rw [← List.drop_drop, h0, show 4 = (word4 l.length).length from (word4_length _).symm, List.drop_left]
  · rw [show ahead.length + 8 = ahead.length + 4 + 4 by omega, ← List.drop_drop, ← List.drop_drop, h0]
    rw [show (word4 l.length ++ (word4 (fsum l.length l) ++ (l ++ behind))).drop 4 = word4 (fsum l.length l) ++ (l ++ behind) by
      conv => lhs; rw [← word4_length l.length]
      rw [List.drop_left]]
    conv => lhs; rw [← word4_length (fsum l.length l)]
    rw [List.drop_left]
theorem frame_next (ahead l behind : List Nat) (hl : l.length ≤ 65536) : nextE (ahead ++ (frameB l ++ behind)) ahead.length = 0 ∧ nextH (ahead ++ (frameB l ++ behind)) ahead.length = l := by
  obtain ⟨h0, h4, h8⟩ := frame_drops ahead l behind
  have hn : num4 ((ahead ++ (frameB l ++ behind)).drop ahead.length) = l.length := by rw [h0, num4_word4]
  have hs : num4 ((ahead ++ (frameB l ++ behind)).drop (ahead.length + 4)) = fsum l.length l := by rw [h4, num4_word4]
  have ht : ((ahead ++ (frameB l ++ behind)).drop ahead.length).take 4 = word4 l.length := by
    rw [h0]
    conv => lhs; rw [← word4_length l.length]
    rw [List.take_left]
  have hh : ((ahead ++ (frameB l ++ behind)).drop (ahead.length + 8)).take l.length = l := by rw [h8, List.take_left]
  have hlen : (ahead ++ (frameB l ++ behind)).length = ahead.length + (8 + l.length + behind.length) := by simp only [List.length_append, frameB_length]
  constructor
  · unfold nextE
    rw [hn, hs, ht, hh, hlen, if_neg (by omega), if_neg (by omega), if_neg (by omega), if_pos]
    rfl
  · unfold nextH
    rw [hn, hh]

theorem frame_ok' (a : Option Addr) (n c : Nat) (l : List Nat) (w : World) (hn : l.length = n) (hb : BytesAt w a l) (h : l.length ≤ 65536) :
    Calls Tryz.prog 53 #[.slice a n c] w fun e w' => ∃ g, e = .returned (.tuple #[.slice (some ⟨g, 0, none⟩) (8 + n) (8 + n), .int .i64 0]) ∧ Below w.heap.size w w' ∧ w.heap.size ≤ g ∧ w'.heap[g]? = some (.cells ((frameB l).map byteV).toArray 5 (0, 0)) := by
  subst hn; exact frame_ok a c l w hb h
/-- Next at a place where a frame stands. -/
theorem next_ok' (a : Option Addr) (n c : Nat) (l h : List Nat) (k : Nat) (kk : Int) (w : World) (hkk : kk = (k : Int)) (hn : l.length = n) (hl : l.length ≤ maxLen) (hc : l.length ≤ c) (hk : k ≤ l.length) (h8 : ¬ l.length - k < 8) (hb : BytesAt w a l) (he : nextE l k = 0) (hh : nextH l k = h) :
    Calls Tryz.prog 58 #[.slice a n c, .int .i64 kk] w fun e w' => ∃ g, e = .returned (.tuple #[.slice (some ⟨g, 0, none⟩) h.length h.length, .int .i64 ((k + 8 + h.length : Nat) : Int), .int .i64 0]) ∧ Below w.heap.size w w' ∧ w.heap.size ≤ g ∧ w'.heap[g]? = some (.cells (h.map byteV).toArray 5 (0, 0)) := by
  subst hn; subst hkk; subst hh
  refine (next_calls a c l k w hl hc hk h8 hb).mono ?_
  rintro e w' ⟨hbw, ⟨hpos, _⟩ | ⟨_, g, rfl, hg, hcells⟩⟩
  · omega
  · exact ⟨g, rfl, hbw, hg, hcells⟩
end Go.Proofs.YtagncghpfdjkmaaGreatDoor
end
