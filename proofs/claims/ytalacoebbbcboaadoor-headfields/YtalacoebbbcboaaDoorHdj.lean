/- Heads, in plain words: a head with some fields. -/
import Derived.Test.YtalacoebbbcboaaDoorHd0
namespace Go.Proofs.YtalacoebbbcboaaDoor
set_option linter.unusedVariables false

def letN (i : Nat) : UInt8 := UInt8.ofNat (65 + i % 26)
def lineX (i : Nat) : Tx := [120, 58, 32] ++ [letN i] ++ crlf
def headX : Tx := [71, 69, 84, 32, 47, 32, 72, 84, 84, 80, 47, 49, 46, 49, 13, 10, 104, 111, 115, 116, 58, 32, 97, 13, 10]
def manyX : Nat → Tx
  | 0 => headX
  | j + 1 => manyX j ++ lineX j
def fdsX (k : Nat) : List Fd := ⟨[104, 111, 115, 116], [97]⟩ :: (List.range k).map (fun i => ⟨[120], [letN i]⟩)
def wantX (k : Nat) : Got := if 32 < k + 1 then .bad 6 else .ok ⟨[71, 69, 84], [47], [], [97], fdsX k⟩ (27 + 6 * k)
set_option maxRecDepth 100000 in
theorem many_parse : ∀ k, k < 40 → parseL (manyX k ++ crlf) = wantX k := by decide +kernel
theorem many_len (k : Nat) : (manyX k).length = 25 + 6 * k := by
  induction k with
  | zero => rfl
  | succ k ih => unfold manyX; rw [List.length_append, ih]; show _ + 6 = _; omega
end Go.Proofs.YtalacoebbbcboaaDoor
