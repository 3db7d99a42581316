/- The contract of tollgateref01.number, and those of Sum and Extend with the length apart. -/
import Derived.Test.YtmjojfngdfnababRefExt
import Derived.Test.YtmjojfngdfnababNxt
namespace Go.Proofs.Ytmjojfngdfnabab
open Go.ChangeShapes Go.WideShapes Go.ChangeAt Go.RowKit

def numTo (l : List Nat) : Nat → Nat
  | 0 => 0
  | i + 1 => numTo l i * 256 + l.getD i 0
theorem numTo_lt {l : List Nat} (h : ∀ c ∈ l, c < 256) (i : Nat) (hi : i ≤ 3) : numTo l i ≤ 16777215 := by
  have l0 := getD_lt h 0
  have l1 := getD_lt h 1
  have l2 := getD_lt h 2
  match i, hi with
  | 0, _ => simp [numTo]
  | 1, _ => simp only [numTo]; omega
  | 2, _ => simp only [numTo]; omega
  | 3, _ => simp only [numTo]; omega
theorem numTo_four (l : List Nat) : numTo l 4 = num4 l := by
  simp only [numTo, num4]; omega

set_option maxHeartbeats 400000 in
theorem number_calls (a : Option Addr) (c : Nat) (l : List Nat) (k : Nat) (w : World) (hl : l.length ≤ maxLen) (hk : k + 4 ≤ l.length) (hb : BytesAt w a l) :
    Calls Try.prog 29 #[.slice a l.length c, .int .i64 (k : Int)] w fun e w' => e = .returned (.int .i64 ((num4 (l.drop k) : Nat) : Int)) ∧ w' = w := by
  unfold maxLen at hl
  obtain ⟨b, off, rfl, hc⟩ := bytesAt_some hb (by omega)
  have hlt : ∀ c ∈ l.drop k, c < 256 := fun c hc => hb.lt c (List.mem_of_mem_drop hc)
  have Hc := hide hc
  have Hlt := hide hlt
  clear hc hlt hb
  go_enter Try.func29, Try.ntmps29
  go_wp2
  go_loop [5, 6] (fun n i => ∃ j m : Nat, j ≤ 4 ∧ i = .int .i64 (j : Int) ∧ n = .int .i64 (m : Int) ∧ m = numTo (l.drop k) j) (fun _ i => 4 - (intOf i).toNat)
  case atStart => exact ⟨0, 0, by omega, rfl, rfl, rfl⟩
  case round =>
    obtain ⟨j, m, hj, rfl, rfl, hm⟩ := hrel
    have HM := hide hm
    clear hm
    by_cases h4 : j < 4
    · have hm' : m ≤ 16777215 := by rw [unhide HM]; exact numTo_lt (unhide Hlt) j (by omega)
      have cj := (unhide Hc) (k + j) (by omega)
      have e1 : l.getD (k + j) 0 = (l.drop k).getD j 0 := (getD_drop l k j).symm
      rw [e1] at cj
      have hx := getD_lt (unhide Hlt) j
      have HS := hide (show numTo (l.drop k) (j + 1) = m * 256 + (l.drop k).getD j 0 by rw [unhide HM]; rfl)
      generalize (l.drop k).getD j 0 = x at *
      clear e1
      have q1 : ((k : Int) + (j : Int)).toNat = k + j := by omega
      go_wp2
      exact ⟨⟨j + 1, m * 256 + x, by omega, by go_num, by go_num, (unhide HS).symm⟩, by simp [intOf]; omega⟩
    · have h4' : j = 4 := by omega
      subst h4'
      have HR := hide (show Ending.returned (.int .i64 (m : Int)) = .returned (.int .i64 ((num4 (l.drop k) : Nat) : Int)) by rw [unhide HM, numTo_four])
      go_wp2
      go_ret
      exact ⟨unhide HR, rfl⟩
theorem refSum_calls' (a : Option Addr) (n c : Nat) (l : List Nat) (w : World) (hn : l.length = n) (hl : l.length ≤ maxLen) (hb : BytesAt w a l) :
    Calls Try.prog 31 #[.slice a n c] w fun e w' => e = .returned (.int .u32 ((Crc.ext 0 l : Nat) : Int)) ∧ w' = w := by
  subst hn; exact refSum_calls a c l w hl hb
theorem refExtend_calls' (s : Nat) (a : Option Addr) (n c : Nat) (l : List Nat) (w : World) (hn : l.length = n) (hs : s < 4294967296) (hl : l.length ≤ maxLen) (hb : BytesAt w a l) :
    Calls Try.prog 30 #[.int .u32 (s : Int), .slice a n c] w fun e w' => e = .returned (.int .u32 ((Crc.ext s l : Nat) : Int)) ∧ w' = w := by
  subst hn; exact refExtend_calls s a c l w hs hl hb
end Go.Proofs.Ytmjojfngdfnabab
