/- Heads, in plain words: a head with one long field. -/
import Derived.Test.YtalacoebbbcboaaDoorHdg
namespace Go.Proofs.YtalacoebbbcboaaDoor
set_option linter.unusedVariables false

def lin0 : Tx := [71, 69, 84, 32, 47, 32, 72, 84, 84, 80, 47, 49, 46, 49]
def lin1 : Tx := [104, 111, 115, 116, 58, 32, 97]
def lin2 : Tx := [120, 58, 32]
def preL : Tx := [71, 69, 84, 32, 47, 32, 72, 84, 84, 80, 47, 49, 46, 49, 13, 10, 104, 111, 115, 116, 58, 32, 97, 13, 10, 120, 58, 32]
def vsL (k : Nat) : Tx := List.replicate k 118
def longIn (k : Nat) : Tx := (preL ++ vsL k) ++ (crlf ++ crlf)
theorem vs_not (k : Nat) (c : UInt8) (h : c ≠ 118) : c ∉ vsL k := fun e => h (List.eq_of_mem_replicate e)
theorem lin2_not (k : Nat) : (13 : UInt8) ∉ lin2 ++ vsL k := by
  intro e
  rcases List.mem_append.1 e with e | e
  · revert e; decide
  · exact vs_not k 13 (by decide) e
theorem trim_vs (k : Nat) : trimB (32 :: vsL k) = vsL k ∧ trimB (vsL k) = vsL k := by
  have hd : ∀ n, (vsL n).dropWhile ([9, 32].contains ·) = vsL n := fun n => by cases n <;> rfl
  have hr : (vsL k).reverse = vsL k := List.reverse_replicate
  refine ⟨?_, ?_⟩
  · unfold trimB Lib.trimS Lib.trimLeftS Lib.trimRightS
    rw [List.reverse_cons, hr]
    cases k with
    | zero => rfl
    | succ k =>
      have e : (vsL (k + 1) ++ [32]).dropWhile ([9, 32].contains ·) = vsL (k + 1) ++ [32] := rfl
      rw [e, List.reverse_append, hr]
      exact hd (k + 1)
  · unfold trimB Lib.trimS Lib.trimLeftS Lib.trimRightS
    rw [hr, hd, hr, hd]
theorem val_vs (k : Nat) : isValueL (vsL k) = true := by
  unfold isValueL
  rw [(trim_vs k).2, beq_self_eq_true, Bool.and_true]
  exact List.all_eq_true.2 fun x hx => by rw [List.eq_of_mem_replicate hx]; decide
theorem field_vs (k : Nat) : fieldL (lin2 ++ vsL k) = some ⟨[120], vsL k⟩ := by
  have hc : cutL [58] (lin2 ++ vsL k) = ([120], some (32 :: vsL k)) := cut1_app (c := 58) (a := [120]) (by decide) (32 :: vsL k)
  unfold fieldL behindL
  rw [hc]
  simp only [Option.isSome_some, Option.getD_some, (trim_vs k).1, val_vs]
  rfl
theorem pre_is (t : Tx) : preL ++ t = lin0 ++ (crlf ++ (lin1 ++ (crlf ++ (lin2 ++ t)))) := rfl
theorem cut_long (t : Tx) : cutL (crlf ++ crlf) (preL ++ t) = (lin0 ++ (crlf ++ (lin1 ++ (crlf ++ (cutL (crlf ++ crlf) (lin2 ++ t)).1))), (cutL (crlf ++ crlf) (lin2 ++ t)).2) := by
  rw [pre_is]
  show cutL (crlf ++ crlf) (lin0 ++ (crlf ++ (104 :: _))) = _
  rw [cut4_step (by decide) 104 _ (by decide)]
  have h1 : cutL (crlf ++ crlf) (104 :: ([111, 115, 116, 58, 32, 97] ++ (crlf ++ (lin2 ++ t)))) = (lin1 ++ (crlf ++ (cutL (crlf ++ crlf) (lin2 ++ t)).1), (cutL (crlf ++ crlf) (lin2 ++ t)).2) := by
    show cutL (crlf ++ crlf) (lin1 ++ (crlf ++ (120 :: _))) = _
    rw [cut4_step (by decide) 120 _ (by decide)]
    rfl
  show (lin0 ++ (crlf ++ (cutL (crlf ++ crlf) (104 :: ([111, 115, 116, 58, 32, 97] ++ (crlf ++ (lin2 ++ t))))).1), (cutL (crlf ++ crlf) (104 :: ([111, 115, 116, 58, 32, 97] ++ (crlf ++ (lin2 ++ t))))).2) = _
  rw [h1]
theorem long_len (k : Nat) : (longIn k).length = 32 + k := by
  unfold longIn
  rw [List.length_append, List.length_append, show (vsL k).length = k from List.length_replicate, show preL.length = 28 from rfl, show (crlf ++ crlf).length = 4 from rfl]
  omega
theorem long_read (k : Nat) : readL (lin0 ++ (crlf ++ (lin1 ++ (crlf ++ (lin2 ++ vsL k)))) ++ crlf) = some ⟨[71, 69, 84], [47], [], [97], [⟨[104, 111, 115, 116], [97]⟩, ⟨[120], vsL k⟩]⟩ := by
  have e : lin0 ++ (crlf ++ (lin1 ++ (crlf ++ (lin2 ++ vsL k)))) ++ crlf = lin0 ++ (crlf ++ (lin1 ++ (crlf ++ ((lin2 ++ vsL k) ++ (crlf ++ []))))) := by simp [List.append_assoc]
  have hl : ∃ m, (lin0 ++ (crlf ++ (lin1 ++ (crlf ++ ((lin2 ++ vsL k) ++ (crlf ++ [])))))).length = m + 3 := ⟨27 + k, by simp [lin0, lin1, lin2, crlf, vsL]; omega⟩
  obtain ⟨m, hm⟩ := hl
  rw [e]
  have c0 : cutL crlf (lin0 ++ (crlf ++ (lin1 ++ (crlf ++ ((lin2 ++ vsL k) ++ (crlf ++ [])))))) = (lin0, some (lin1 ++ (crlf ++ ((lin2 ++ vsL k) ++ (crlf ++ []))))) := cut2_app (by decide) _
  have c1 : cutL crlf (lin1 ++ (crlf ++ ((lin2 ++ vsL k) ++ (crlf ++ [])))) = (lin1, some ((lin2 ++ vsL k) ++ (crlf ++ []))) := cut2_app (by decide) _
  have c2 : cutL crlf ((lin2 ++ vsL k) ++ (crlf ++ [])) = (lin2 ++ vsL k, some []) := cut2_app (lin2_not k) _
  have r0 : requestL lin0 = some ([71, 69, 84], [47], [], []) := by decide +kernel
  have f1 : fieldL lin1 = some ⟨[104, 111, 115, 116], [97]⟩ := by decide +kernel
  have ff : fieldsL (m + 3) (lin1 ++ (crlf ++ ((lin2 ++ vsL k) ++ (crlf ++ [])))) = some [⟨[104, 111, 115, 116], [97]⟩, ⟨[120], vsL k⟩] := by
    have n1 : ¬ lin1 ++ (crlf ++ ((lin2 ++ vsL k) ++ (crlf ++ []))) = [] := fun h => by cases h
    have n2 : ¬ (lin2 ++ vsL k) ++ (crlf ++ []) = [] := fun h => by cases h
    rw [fieldsL, if_neg n1, c1, f1]
    simp only [behindL, c1, Option.getD_some]
    rw [fieldsL, if_neg n2, c2, field_vs]
    simp only [behindL, c2, Option.getD_some]
    rfl
  have hh : hostOfL [⟨[104, 111, 115, 116], [97]⟩, ⟨[120], vsL k⟩] = some [97] := by
    have e1 : hostsOf [⟨[104, 111, 115, 116], [97]⟩, ⟨[120], vsL k⟩] = [⟨[104, 111, 115, 116], [97]⟩] := rfl
    unfold hostOfL
    rw [e1]
    decide +kernel
  unfold readL
  rw [c0, hm]
  simp only [r0, behindL, c0, Option.getD_some, ff, hh]
  rfl
theorem long_parse1 (k : Nat) (h : k ≤ 2016) : parseL (longIn k) = .ok ⟨[71, 69, 84], [47], [], [97], [⟨[104, 111, 115, 116], [97]⟩, ⟨[120], vsL k⟩]⟩ (32 + k) := by
  have ht : (longIn k).take 2048 = longIn k := List.take_of_length_le (by rw [long_len]; omega)
  have hc : cutL (crlf ++ crlf) (longIn k) = (lin0 ++ (crlf ++ (lin1 ++ (crlf ++ (lin2 ++ vsL k)))), some []) := by
    unfold longIn
    have := cut4_end (lin2_not k) []
    rw [List.append_nil, List.append_assoc] at this
    rw [List.append_assoc, cut_long, this]
  unfold parseL
  rw [ht, hc]
  simp only [long_read]
  have e : (lin0 ++ (crlf ++ (lin1 ++ (crlf ++ (lin2 ++ vsL k))))).length + 4 = 32 + k := by simp [lin0, lin1, lin2, crlf, vsL]; omega
  rw [e]
  rfl
theorem long_parse2 (k : Nat) (h : 2016 < k) : parseL (longIn k) = .bad 6 := by
  have ht : (longIn k).take 2048 = preL ++ ((vsL k).take 2020 ++ (crlf ++ crlf).take (2020 - k)) := by
    unfold longIn
    rw [List.append_assoc, List.take_append, show preL.length = 28 from rfl, List.take_of_length_le (by decide), show 2048 - 28 = 2020 from rfl, List.take_append, show (vsL k).length = k from List.length_replicate]
  have hn : (13 : UInt8) ∉ lin2 ++ (vsL k).take 2020 := fun e => lin2_not k (by
    rcases List.mem_append.1 e with e | e
    · exact List.mem_append_left _ e
    · exact List.mem_append_right _ (List.mem_of_mem_take e))
  have hc : (cutL (crlf ++ crlf) ((longIn k).take 2048)).2 = none := by
    rw [ht, cut_long]
    have := cut4_short (t := (crlf ++ crlf).take (2020 - k)) hn (by rw [List.length_take]; omega)
    rw [List.append_assoc] at this
    exact this
  unfold parseL
  rw [hc]
  simp only
  rw [if_neg (by rw [long_len]; omega)]
  rfl
end Go.Proofs.YtalacoebbbcboaaDoor
