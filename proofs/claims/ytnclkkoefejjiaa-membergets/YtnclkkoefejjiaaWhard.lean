/- The contract of wire.PutHard. -/
import Derived.Test.YtnclkkoefejjiaaWput
import Derived.Test.YtnclkkoefejjiaaMb0
namespace Go.Proofs.Ytnclkkoefejjiaa
open Go.ChangeShapes Go.WideShapes Go.ChangeAt Go.RowKit

theorem size_alloc (w : World) (o : Obj) : (w.alloc o).heap.size = w.heap.size + 1 := by simp
theorem numB_short (n : Nat) (h : n ≤ 1099511627776) : (numB n).length ≤ 6 := by
  have key : ∀ (s m : Nat), m < 128 ^ (s + 1) → (numB m).length ≤ s + 1 := by
    intro s
    induction s with
    | zero => intro m hm; rw [numB_small (by simpa using hm)]; simp
    | succ s ih =>
      intro m hm
      by_cases h : m < 128
      · rw [numB_small h]; simp
      · rw [numB_great h, List.length_cons]
        have := ih (m / 128) (by rw [Nat.div_lt_iff_lt_mul (by decide)]; rw [Nat.pow_succ] at hm; exact hm)
        omega
  exact key 5 n (by omega)
end Go.Proofs.Ytnclkkoefejjiaa
