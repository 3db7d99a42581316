/- Plain: a number as bytes, seven bits a byte, the lowest first. -/
import Derived.Laws.BitsAllLaws
namespace Go.Proofs.YtijcpmbfhfppmaaGreatDoor

def numBf : Nat → Nat → List Nat
  | 0, n => [n]
  | f + 1, n => if n < 128 then [n] else (n % 128 + 128) :: numBf f (n / 128)
theorem numBf_same : ∀ (n f g : Nat), n ≤ f → n ≤ g → numBf f n = numBf g n := by
  intro n
  induction n using Nat.strongRecOn with
  | ind n ih =>
    intro f g hf hg
    by_cases h : n < 128
    · cases f <;> cases g <;> simp only [numBf, if_pos h]
    · match f, g, hf, hg with
      | 0, _, hf, _ => omega
      | _ + 1, 0, _, hg => omega
      | f + 1, g + 1, hf, hg =>
        simp only [numBf, if_neg h]
        rw [ih (n / 128) (by omega) f g (by omega) (by omega)]
/-- A number's bytes. -/
def numB (n : Nat) : List Nat := numBf n n
theorem numB_small {n : Nat} (h : n < 128) : numB n = [n] := by
  unfold numB
  cases n with
  | zero => rfl
  | succ k => simp only [numBf, if_pos h]
theorem numB_great {n : Nat} (h : ¬ n < 128) : numB n = (n % 128 + 128) :: numB (n / 128) := by
  unfold numB
  cases n with
  | zero => omega
  | succ k =>
    simp only [numBf, if_neg h]
    rw [numBf_same ((k + 1) / 128) k ((k + 1) / 128) (by omega) (Nat.le_refl _)]
theorem numB_length (n : Nat) : 1 ≤ (numB n).length ∧ (numB n).length ≤ n + 1 := by
  induction n using Nat.strongRecOn with
  | ind n ih =>
    by_cases h : n < 128
    · rw [numB_small h]; simp
    · rw [numB_great h]
      have := ih (n / 128) (by omega)
      simp only [List.length_cons]
      omega
theorem numB_lt (n : Nat) : ∀ c ∈ numB n, c < 256 := by
  induction n using Nat.strongRecOn with
  | ind n ih =>
    by_cases h : n < 128
    · rw [numB_small h]; intro c hc; simp only [List.mem_cons, List.not_mem_nil, or_false] at hc; omega
    · rw [numB_great h]
      intro c hc
      rcases List.mem_cons.1 hc with h1 | h1
      · omega
      · exact ih (n / 128) (by omega) c h1
end Go.Proofs.YtijcpmbfhfppmaaGreatDoor
