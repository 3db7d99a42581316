/- Plain facts on CRC-32 as a register of 32 bits that is shifted bit by bit: no Go in sight. -/
import Derived.Laws.BitsAllLaws
namespace Go.Proofs.YtijcpmbfhfppmaaGreatDoor.Crc

/-- One shift of the register. -/
def step (r : Nat) : Nat := if r % 2 = 1 then (r / 2) ^^^ 3988292384 else r / 2
/-- So many shifts. -/
def steps : Nat → Nat → Nat
  | 0, r => r
  | k + 1, r => step (steps k r)
/-- One shift, a bit of the text held against the lowest one. -/
def stepBit (r c : Nat) : Nat := if (r + c) % 2 = 1 then (r / 2) ^^^ 3988292384 else r / 2
/-- So many bits of one byte. -/
def bitsOf (r c : Nat) : Nat → Nat
  | 0 => r
  | k + 1 => stepBit (bitsOf r c k) (c / 2 ^ k)
/-- The register behind a row of bytes. -/
def reg (r : Nat) (l : List Nat) : Nat := l.foldl (fun r c => steps 8 (r ^^^ c)) r
theorem reg_nil (r : Nat) : reg r [] = r := List.foldl_nil
theorem reg_cons (r c : Nat) (l : List Nat) : reg r (c :: l) = reg (steps 8 (r ^^^ c)) l := List.foldl_cons ..
def not32 (r : Nat) : Nat := 4294967295 - r
/-- The sum of a row, from a sum on. -/
def ext (s : Nat) (l : List Nat) : Nat := not32 (reg (not32 s) l)

theorem xor_mod (a b : Nat) : (a ^^^ b) % 2 = (a + b) % 2 := by
  have h := Nat.xor_mod_two_pow (a := a) (b := b) (n := 1)
  rw [Nat.pow_one] at h
  rw [h]
  rcases Nat.mod_two_eq_zero_or_one a with ha | ha <;> rcases Nat.mod_two_eq_zero_or_one b with hb | hb <;> (rewrite [ha, hb, Nat.add_mod, ha, hb]; decide)
theorem xor_lt {a b : Nat} (ha : a < 4294967296) (hb : b < 4294967296) : a ^^^ b < 4294967296 := Nat.xor_lt_two_pow (n := 32) ha hb
theorem step_lt {r : Nat} (h : r < 4294967296) : step r < 4294967296 := by
  unfold step; split
  · exact xor_lt (by omega) (by decide)
  · omega
theorem steps_lt {r : Nat} (h : r < 4294967296) : ∀ k, steps k r < 4294967296
  | 0 => h
  | k + 1 => step_lt (steps_lt h k)
theorem reg_lt : ∀ (l : List Nat) {r : Nat}, r < 4294967296 → (∀ c ∈ l, c < 256) → reg r l < 4294967296
  | [], _, h, _ => by rewrite [reg_nil]; exact h
  | c :: l, _, h, hl => by rewrite [reg_cons]; exact reg_lt l (steps_lt (xor_lt h (by have := hl c (by simp); omega)) 8) (fun d hd => hl d (by simp [hd]))
theorem not32_lt (r : Nat) : not32 r < 4294967296 := by unfold not32; omega
theorem ext_lt (s : Nat) (l : List Nat) : ext s l < 4294967296 := not32_lt _
theorem not32_not32 {r : Nat} (h : r < 4294967296) : not32 (not32 r) = r := by unfold not32; omega
theorem not32_xor {r : Nat} (h : r < 4294967296) : not32 r = r ^^^ 4294967295 := by
  unfold not32
  apply Nat.eq_of_testBit_eq
  intro i
  rw [Nat.testBit_xor]
  have h1 : (4294967295 - r) = 2 ^ 32 - (r + 1) := by omega
  rw [h1, Nat.testBit_two_pow_sub_succ (by simpa using h)]
  have h2 : (4294967295 : Nat) = 2 ^ 32 - 1 := by decide
  rw [h2, Nat.testBit_two_pow_sub_one]
  by_cases hi : i < 32
  · simp [hi]
  · have : r.testBit i = false := Nat.testBit_lt_two_pow (Nat.lt_of_lt_of_le h (by
      have : (2 : Nat) ^ 32 ≤ 2 ^ i := Nat.pow_le_pow_right (by omega) (by omega)
      simpa using this))
    simp [hi, this]

theorem reg_append (r : Nat) (a b : List Nat) : reg r (a ++ b) = reg (reg r a) b := by
  unfold reg
  exact List.foldl_append
theorem reg_snoc (r : Nat) (a : List Nat) (c : Nat) : reg r (a ++ [c]) = steps 8 (reg r a ^^^ c) := by
  rewrite [reg_append, reg_cons]; exact reg_nil _
theorem ext_append (s : Nat) (a b : List Nat) (ha : ∀ c ∈ a, c < 256) : ext (ext s a) b = ext s (a ++ b) := by
  unfold ext
  rewrite [not32_not32 (reg_lt _ (not32_lt _) ha), reg_append]
  exact Eq.refl _

/-- The shift is linear. -/
theorem step_xor (a b : Nat) : step (a ^^^ b) = step a ^^^ step b := by
  unfold step
  rw [Nat.xor_div_two, xor_mod]
  by_cases ha : a % 2 = 1 <;> by_cases hb : b % 2 = 1
  · rw [if_neg (by omega), if_pos ha, if_pos hb]
    have : ∀ x y p : Nat, (x ^^^ p) ^^^ (y ^^^ p) = x ^^^ y := fun x y p => by
      rw [Nat.xor_assoc, Nat.xor_comm y p, ← Nat.xor_assoc p p y, Nat.xor_self, Nat.zero_xor]
    rw [this]
  · rw [if_pos (by omega), if_pos ha, if_neg hb]
    rw [Nat.xor_assoc, Nat.xor_assoc, Nat.xor_comm (b / 2)]
  · rw [if_pos (by omega), if_neg ha, if_pos hb]
    rw [Nat.xor_assoc]
  · rw [if_neg (by omega), if_neg ha, if_neg hb]
theorem steps_xor (a b : Nat) : ∀ k, steps k (a ^^^ b) = steps k a ^^^ steps k b
  | 0 => rfl
  | k + 1 => by simp only [steps]; rw [steps_xor a b k, step_xor]
theorem xor3 (a b c d e f : Nat) : (a ^^^ b ^^^ c) ^^^ (d ^^^ e ^^^ f) = (a ^^^ d) ^^^ (b ^^^ e) ^^^ (c ^^^ f) := by
  apply Nat.eq_of_testBit_eq
  intro i
  simp only [Nat.testBit_xor]
  cases a.testBit i <;> cases b.testBit i <;> cases c.testBit i <;> cases d.testBit i <;> cases e.testBit i <;> cases f.testBit i <;> rfl
theorem reg_xor3 : ∀ (a b c : List Nat) (r s t : Nat), a.length = b.length → a.length = c.length →
    reg (r ^^^ s ^^^ t) (List.zipWith (· ^^^ ·) (List.zipWith (· ^^^ ·) a b) c) = reg r a ^^^ reg s b ^^^ reg t c
  | [], [], [], _, _, _, _, _ => by rewrite [List.zipWith_nil_left, List.zipWith_nil_left, reg_nil, reg_nil, reg_nil, reg_nil]; exact Eq.refl _
  | x :: a, y :: b, z :: c, r, s, t, h1, h2 => by
    rewrite [List.zipWith_cons_cons, List.zipWith_cons_cons, reg_cons, reg_cons, reg_cons, reg_cons, xor3, steps_xor, steps_xor]
    exact reg_xor3 a b c _ _ _ (by simpa using h1) (by simpa using h2)
  | [], _ :: _, _, _, _, _, h, _ => by simp at h
  | [], [], _ :: _, _, _, _, _, h => by simp at h
  | _ :: _, [], _, _, _, _, h, _ => by simp at h
  | _ :: _, _ :: _, [], _, _, _, _, h => by simp at h

/-- Bit by bit, each one held against the lowest, is the byte laid over the register and eight shifts. -/
theorem stepBit_xor (r c : Nat) : stepBit r c ^^^ (c / 2) = step (r ^^^ c) := by
  unfold stepBit step
  rw [Nat.xor_div_two, xor_mod]
  by_cases h : (r + c) % 2 = 1
  · rw [if_pos h, if_pos h, Nat.xor_assoc, Nat.xor_assoc, Nat.xor_comm (c / 2)]
  · rw [if_neg h, if_neg h]
theorem bitsOf_xor (r c : Nat) : ∀ k, bitsOf r c k ^^^ (c / 2 ^ k) = steps k (r ^^^ c)
  | 0 => by simp [bitsOf, steps]
  | k + 1 => by
    simp only [bitsOf, steps]
    rw [← bitsOf_xor r c k, ← stepBit_xor, Nat.div_div_eq_div_mul, ← Nat.pow_succ]
theorem bitsOf_eight (r c : Nat) (h : c < 256) : bitsOf r c 8 = steps 8 (r ^^^ c) := by
  rw [← bitsOf_xor r c 8, Nat.div_eq_of_lt (by omega), Nat.xor_zero]
theorem stepBit_lt {r c : Nat} (h : r < 4294967296) : stepBit r c < 4294967296 := by
  unfold stepBit; split
  · exact xor_lt (by omega) (by decide)
  · omega
theorem bitsOf_lt {r : Nat} (c : Nat) (h : r < 4294967296) : ∀ k, bitsOf r c k < 4294967296
  | 0 => h
  | k + 1 => stepBit_lt (bitsOf_lt c h k)

/-- No two registers come to one by a shift. -/
theorem step_zero {r : Nat} (hr : r < 4294967296) (h : step r = 0) : r = 0 := by
  unfold step at h
  split at h
  · next h1 =>
    have h2 : (r / 2 ^^^ 3988292384) ^^^ 3988292384 = 3988292384 := by rw [h, Nat.zero_xor]
    rw [Nat.xor_assoc, Nat.xor_self, Nat.xor_zero] at h2
    omega
  · omega
theorem steps_zero {r : Nat} (hr : r < 4294967296) : ∀ k, steps k r = 0 → r = 0
  | 0, h => h
  | k + 1, h => steps_zero hr k (step_zero (steps_lt hr k) h)
theorem xor_zero_iff {a b : Nat} (h : a ^^^ b = 0) : a = b := by
  have h2 : (a ^^^ b) ^^^ b = b := by rw [h, Nat.zero_xor]
  rw [Nat.xor_assoc, Nat.xor_self, Nat.xor_zero] at h2
  exact h2
theorem steps_inj {a b : Nat} (ha : a < 4294967296) (hb : b < 4294967296) (k : Nat) (h : steps k a = steps k b) : a = b := by
  apply xor_zero_iff
  apply steps_zero (xor_lt ha hb) k
  rw [steps_xor, h, Nat.xor_self]
theorem xor_inj {a b c : Nat} (h : a ^^^ c = b ^^^ c) : a = b := by
  have h2 : (a ^^^ c) ^^^ c = (b ^^^ c) ^^^ c := by rw [h]
  rw [Nat.xor_assoc, Nat.xor_assoc, Nat.xor_self, Nat.xor_zero, Nat.xor_zero] at h2
  exact h2
theorem xor_inj' {a b c : Nat} (h : c ^^^ a = c ^^^ b) : a = b := by
  rw [Nat.xor_comm c a, Nat.xor_comm c b] at h
  exact xor_inj h
/-- No two registers come to one by the same bytes. -/
theorem reg_inj : ∀ (l : List Nat) {a b : Nat}, a < 4294967296 → b < 4294967296 → (∀ c ∈ l, c < 256) → reg a l = reg b l → a = b
  | [], _, _, _, _, _, h => by rewrite [reg_nil, reg_nil] at h; exact h
  | c :: l, a, b, ha, hb, hl, h => by
    rewrite [reg_cons, reg_cons] at h
    have hc : c < 4294967296 := by have := hl c (by simp); omega
    have h1 := reg_inj l (steps_lt (xor_lt ha hc) 8) (steps_lt (xor_lt hb hc) 8) (fun d hd => hl d (by simp [hd])) h
    exact xor_inj (steps_inj (xor_lt ha hc) (xor_lt hb hc) 8 h1)
/-- One byte that is turned turns the register behind the row. -/
theorem reg_turned (r : Nat) (a b : List Nat) (x y : Nat) (hr : r < 4294967296) (ha : ∀ c ∈ a, c < 256) (hb : ∀ c ∈ b, c < 256) (hx : x < 256) (hy : y < 256)
    (h : reg r (a ++ x :: b) = reg r (a ++ y :: b)) : x = y := by
  rewrite [reg_append, reg_append] at h
  rewrite [reg_cons, reg_cons] at h
  have h0 := reg_lt a hr ha
  have h1 := reg_inj b (steps_lt (xor_lt h0 (by omega)) 8) (steps_lt (xor_lt h0 (by omega)) 8) hb h
  exact xor_inj' (steps_inj (xor_lt h0 (by omega)) (xor_lt h0 (by omega)) 8 h1)
theorem not32_inj {a b : Nat} (ha : a < 4294967296) (hb : b < 4294967296) (h : not32 a = not32 b) : a = b := by
  unfold not32 at h; omega
end Go.Proofs.YtijcpmbfhfppmaaGreatDoor.Crc
