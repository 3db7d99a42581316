/- Logs: names of files and their numbers. -/
import Derived.Lib.AtoiAll
import Derived.Lib.ItoaNum
import Derived.Test.YtijcpmbfhfppmaaGreatDoorDkd
namespace Go.Proofs.YtijcpmbfhfppmaaGreatDoor
open Go.ChangeShapes Go.WideShapes Go.ChangeAt Go.RowKit
set_option linter.unusedVariables false

theorem u8_digit (d : Nat) (h : d < 10) : (UInt8.ofNat (48 + d)).toNat = 48 + d := by
  simp
  omega
theorem parse_snoc : ∀ (l : List UInt8) (acc u d : Nat), Lib.parseUint10 acc l = .ok u → d < 10 → u * 10 + d < 1000000000000000000 → Lib.parseUint10 acc (l ++ [UInt8.ofNat (48 + d)]) = .ok (u * 10 + d)
  | [], acc, u, d, h, hd, hb => by
    simp only [Lib.parseUint10, Lib.NumEnd.ok.injEq] at h
    subst h
    rw [List.nil_append]
    simp only [Lib.parseUint10, u8_digit d hd]
    rw [if_pos (by omega), if_neg (by omega), if_neg (by omega), show 48 + d - 48 = d by omega]
  | c :: r, acc, u, d, h, hd, hb => by
    rw [List.cons_append]
    simp only [Lib.parseUint10] at h ⊢
    split at h
    · rename_i hc
      split at h
      · cases h
      · rename_i h1
        split at h
        · cases h
        · rename_i h2
          rw [if_pos hc, if_neg h1, if_neg h2]
          exact parse_snoc r _ u d h hd hb
    · cases h
theorem dec_small {u : Nat} (h : u < 10) : Lib.decDigits u = [UInt8.ofNat (48 + u)] := by rw [Lib.decDigits, dif_pos h]
theorem dec_big {u : Nat} (h : ¬ u < 10) : Lib.decDigits u = Lib.decDigits (u / 10) ++ [UInt8.ofNat (48 + u % 10)] := by rw [Lib.decDigits, dif_neg h]
theorem parse_dec (n : Nat) : n < 1000000000000000000 → Lib.parseUint10 0 (Lib.decDigits n) = .ok n := by
  induction n using Nat.strongRecOn with
  | ind n ih =>
    intro hn
    by_cases h : n < 10
    · rw [dec_small h]
      have := parse_snoc [] 0 0 n rfl h (by omega)
      rw [Nat.zero_mul, Nat.zero_add, List.nil_append] at this
      exact this
    · rw [dec_big h]
      have := parse_snoc _ 0 (n / 10) (n % 10) (ih (n / 10) (by omega) (by omega)) (by omega) (by omega)
      rw [this]
      congr 1
      omega
theorem dec_digits (n : Nat) : ∀ c ∈ Lib.decDigits n, 48 ≤ c.toNat ∧ c.toNat ≤ 57 := by
  induction n using Nat.strongRecOn with
  | ind n ih =>
    by_cases h : n < 10
    · rw [dec_small h]
      intro c hc
      rw [List.mem_singleton] at hc
      subst hc
      rw [u8_digit n h]
      omega
    · rw [dec_big h]
      intro c hc
      rcases List.mem_append.1 hc with hc | hc
      · exact ih (n / 10) (by omega) c hc
      · rw [List.mem_singleton] at hc
        subst hc
        rw [u8_digit _ (by omega)]
        omega
theorem dec_ne (n : Nat) : Lib.decDigits n ≠ [] := by
  by_cases h : n < 10
  · rw [dec_small h]; simp
  · rw [dec_big h]; simp
theorem dec_len : ∀ (k n : Nat), n < 10 ^ (k + 1) → (Lib.decDigits n).length ≤ k + 1
  | 0, n, h => by rw [dec_small (by simpa using h)]; simp
  | k + 1, n, h => by
    by_cases h10 : n < 10
    · rw [dec_small h10]; simp
    · rw [dec_big h10, List.length_append]
      have := dec_len k (n / 10) (by rw [Nat.pow_succ] at h; omega)
      simp only [List.length_cons, List.length_nil]
      omega
theorem atoi_dec (n : Nat) (hn : n < 1000000000000000000) : Lib.atoiAll (Lib.decDigits n) = .ok (n : Int) := by
  have hd := dec_digits n
  have hp := parse_dec n hn
  cases hl : Lib.decDigits n with
  | nil => exact absurd hl (dec_ne n)
  | cons c r =>
    rw [hl] at hd hp
    have hc := hd c (by simp)
    unfold Lib.atoiAll
    dsimp only
    rw [if_neg (by omega)]
    unfold Lib.parseMag
    rw [if_neg (by simp), hp]
    dsimp only
    rw [if_neg (by omega), if_neg (by omega), if_neg (by omega)]
/-- The name of a log's file. -/
def walW : Nm := [119, 97, 108, 45]
def tmpW : Nm := [119, 97, 108, 46, 116, 109, 112]
def walNm (n : Nat) : Nm := walW ++ Lib.decDigits n
/-- The number of a log's file; 0, if the name is none of one. -/
def numW (s : Nm) : Nat := if Lib.hasPrefix s walW = true then (match Lib.atoiAll (Lib.trimPrefix s walW) with
  | .ok v => if 1 ≤ v ∧ v ≤ 1099511627776 ∧ walNm v.toNat = s then v.toNat else 0
  | _ => 0) else 0
theorem pre_wal (l : Nm) : Lib.hasPrefix (walW ++ l) walW = true := by
  unfold Lib.hasPrefix
  exact List.isPrefixOf_iff_prefix.2 (List.prefix_append _ _)
theorem trim_wal (l : Nm) : Lib.trimPrefix (walW ++ l) walW = l := by
  unfold Lib.trimPrefix
  rw [if_pos (pre_wal l), List.drop_left]
theorem numW_walNm (n : Nat) (h1 : 1 ≤ n) (h2 : n ≤ 1099511627776) : numW (walNm n) = n := by
  unfold numW walNm
  rw [if_pos (pre_wal _), trim_wal, atoi_dec n (by omega)]
  dsimp only
  rw [if_pos ⟨by omega, by omega, by rw [Int.toNat_natCast]⟩, Int.toNat_natCast]
theorem numW_is {s : Nm} {n : Nat} (h : numW s = n) (hn : 0 < n) : s = walNm n ∧ n ≤ 1099511627776 := by
  unfold numW at h
  split at h
  · split at h
    · split at h
      · rename_i v _ hc
        obtain ⟨h1, h2, h3⟩ := hc
        subst h
        exact ⟨h3.symm, by omega⟩
      · omega
    · omega
  · omega
theorem walNm_inj {a b : Nat} (ha : a < 1000000000000000000) (hb : b < 1000000000000000000) (h : walNm a = walNm b) : a = b := by
  have h1 := List.append_cancel_left h
  have h2 := atoi_dec a ha
  rw [h1, atoi_dec b hb] at h2
  have := Lib.NumEnd.ok.inj h2
  omega
theorem walNm_len (n : Nat) (hn : n < 10000000000000) : (walNm n).length ≤ 17 := by
  unfold walNm
  rw [List.length_append]
  have := dec_len 12 n hn
  simp only [walW, List.length_cons, List.length_nil]
  omega
theorem walNm_ok (n : Nat) (hn : n < 10000000000000) : nameL (walNm n) = true := by
  have hl := walNm_len n hn
  unfold nameL
  rw [decide_eq_true (by unfold walNm walW; simp), decide_eq_true (by omega), Bool.true_and, Bool.true_and, List.all_eq_true]
  intro c hc
  rcases List.mem_append.1 hc with hc | hc
  · have hw : ∀ c ∈ walW, stands c.toNat = true := by decide
    exact hw c hc
  · have := dec_digits n c hc
    unfold stands
    rw [decide_eq_true this.1, decide_eq_true this.2]
    simp
theorem tmp_ne (n : Nat) : walNm n ≠ tmpW := by
  intro h
  have := congrArg (fun l => l.drop 3) h
  simp [walNm, walW, tmpW] at this
theorem tmp_num : numW tmpW = 0 := by decide +kernel
end Go.Proofs.YtijcpmbfhfppmaaGreatDoor
