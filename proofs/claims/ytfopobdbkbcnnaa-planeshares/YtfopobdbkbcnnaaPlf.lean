/- Plane: equal weights (plain mathematics). -/
import Derived.Test.YtfopobdbkbcnnaaPla
import Derived.Test.YtfopobdbkbcnnaaPlc
namespace Go.Proofs.Ytfopobdbkbcnnaa
open Go.ChangeShapes Go.WideShapes Go.ChangeAt Go.RowKit

def sA (W : Nat) : Tg := (⟨#[97]⟩, fl W 1074)
def sB : Tg := (⟨#[98]⟩, 0)
def sL (W : Nat) : Nat → List Tg
  | 0 => []
  | j + 1 => sL W j ++ [sA W, sB]
theorem sL_length (W : Nat) : ∀ j, (sL W j).length = 2 * j
  | 0 => rfl
  | j + 1 => by
    unfold sL
    rw [List.length_append, sL_length W j]
    simp
    omega
theorem p40 : pw 40 = 1099511627776 := by decide
theorem sA_wt (W : Nat) (hW : W ≤ 256) : wt fK1 (sA W).2 = fl W 1074 := by
  have h := fl_ok W 1074 40 (by rw [p40]; omega) (by omega) (by omega)
  unfold wt sA
  simp only
  split
  · exact mul_one h.1
  · rename_i hn
    have : ¬ 0 < fl W 1074 := fun q => hn ⟨q, h.1⟩
    omega
theorem sB_wt : wt fK1 sB.2 = 0 := by decide
theorem add_zero' {x : Nat} (hx : x < fI) : addN x 0 = x := by
  unfold addN
  rw [if_neg (by simp only [fI] at hx ⊢; omega), val_zero, Nat.add_zero, near_val x hx]
theorem sL_sum (W : Nat) (hW : W ≤ 256) : ∀ j, j ≤ 8 → sumN fK1 (sL W j) = fl (W * j) 1074
  | 0, _ => by
    show sumN fK1 [] = _
    unfold fl
    rw [Nat.mul_zero, Nat.zero_mul, near_zero]
    rfl
  | j + 1, hj => by
    have ih := sL_sum W hW j (by omega)
    have hlt : W * j ≤ 256 * 8 := Nat.mul_le_mul hW (by omega)
    have hlt2 : W * (j + 1) ≤ 256 * 8 := Nat.mul_le_mul hW hj
    unfold sL
    rw [show sL W j ++ [sA W, sB] = (sL W j ++ [sA W]) ++ [sB] by simp, sumN_snoc, sumN_snoc, ih, sA_wt W hW, sB_wt, add_fl (W * j) W 1074 40 (by rw [p40]; omega) (by rw [p40]; omega) (by omega) (by omega), ← Nat.mul_add_one]
    exact add_zero' (fl_ok _ _ 40 (by rw [p40]; omega) (by omega) (by omega)).1
theorem sL_take (W : Nat) : ∀ m j, j ≤ m → (sL W m).take (2 * j) = sL W j
  | 0, j, h => by
    have : j = 0 := by omega
    subst this
    rfl
  | m + 1, j, h => by
    by_cases he : j = m + 1
    · subst he
      rw [List.take_of_length_le (by rw [sL_length]; omega)]
    · show (sL W m ++ [sA W, sB]).take (2 * j) = _
      rw [List.take_append_of_le_length (by rw [sL_length]; omega)]
      exact sL_take W m j (by omega)
theorem sL_get (W m j : Nat) (hj : j < m) : (sL W m).getD (2 * j) (⟨#[]⟩, 0) = sA W ∧ (sL W m).getD (2 * j + 1) (⟨#[]⟩, 0) = sB := by
  have e := sL_take W m (j + 1) (by omega)
  have hl := sL_length W m
  have hlj := sL_length W j
  have get : ∀ k, k < 2 * (j + 1) → (sL W m).getD k (⟨#[]⟩, 0) = (sL W (j + 1)).getD k (⟨#[]⟩, 0) := by
    intro k hk
    rw [← e, List.getD_eq_getElem?_getD, List.getD_eq_getElem?_getD, List.getElem?_take, if_pos hk]
  refine ⟨?_, ?_⟩
  · rw [get _ (by omega)]
    show (sL W j ++ [sA W, sB]).getD (2 * j) _ = _
    rw [List.getD_eq_getElem?_getD, List.getElem?_append_right (by omega), hlj, Nat.sub_self]
    rfl
  · rw [get _ (by omega)]
    show (sL W j ++ [sA W, sB]).getD (2 * j + 1) _ = _
    rw [List.getD_eq_getElem?_getD, List.getElem?_append_right (by omega), hlj, show 2 * j + 1 - 2 * j = 1 by omega]
    rfl
theorem shares (t W i far : Nat) (ht : t ≤ 3) (hW : 1 ≤ W) (hW2 : W ≤ 256) (hi : i < 2 ^ t) (hf : far < 256) : weighN (sL W (2 ^ t)) (fl (i * 256 + far) (1066 - t)) = some (2 * i) := by
  have h8 : 2 ^ t ≤ 2 ^ 3 := Nat.pow_le_pow_right (by omega) ht
  have h8' : (2 : Nat) ^ 3 = 8 := by decide
  have m1 : 1 ≤ 2 ^ t := Nat.two_pow_pos t
  have hlen := sL_length W (2 ^ t)
  have hsum := sL_sum W hW2 (2 ^ t) (by omega)
  have hWm : W * 2 ^ t ≤ 256 * 8 := Nat.mul_le_mul hW2 (by omega)
  have hWm1 : 1 * 1 ≤ W * 2 ^ t := Nat.mul_le_mul hW m1
  have hs := fl_ok (W * 2 ^ t) 1074 40 (by rw [p40]; omega) (by omega) (by omega)
  have hsc : scaleN (sL W (2 ^ t)) = fK1 := by
    unfold scaleN
    rw [hsum, if_neg (by have := hs.1; omega)]
  have hpos : ∀ x, 1 ≤ x → x ≤ 2048 → 0 < fl x 1074 := fun x h1 h2 => by
    have hv := fl_ok x 1074 40 (by rw [p40]; omega) (by omega) (by omega)
    rcases Nat.eq_zero_or_pos (fl x 1074) with h0 | h0
    · rw [h0, val_zero] at hv
      have := Nat.mul_pos (show 0 < x by omega) (pw_pos 1074)
      omega
    · exact h0
  unfold weighN
  rw [hsc, hsum, if_neg (by have := hpos (W * 2 ^ t) (by omega) (by omega); omega)]
  congr 1
  have hd := fl_ok (i * 256 + far) (1066 - t) 40 (by rw [p40]; omega) (by omega) (by omega)
  have e74 : ∀ z, z * pw 1074 = z * (256 * 2 ^ t) * pw (1066 - t) := fun z => by
    rw [show pw 1074 = 256 * 2 ^ t * pw (1066 - t) from by
      rw [show (1074 : Nat) = 8 + (t + (1066 - t)) by omega, pw_add, pw_add, ← Nat.mul_assoc]
      rfl, ← Nat.mul_assoc]
  have hone : fl 1 1074 = fK1 := by
    have h := near_val fK1 (by decide)
    rw [val_K1] at h
    unfold fl
    rw [Nat.one_mul]
    exact h
  have hlt1 : fl (i * 256 + far) (1066 - t) < fK1 := by
    rw [← hone, fl_lt (k := 40) (by rw [p40]; omega) (by rw [p40]; omega) (by omega) (by omega) (by omega), e74 1]
    exact Nat.mul_lt_mul_of_pos_right (by omega) (pw_pos _)
  unfold takeN drawN
  rw [hsc, if_neg (by omega), if_pos (by have := hd.1; omega), hlen, hsum]
  rw [mul_fl (i * 256 + far) (W * 2 ^ t) (1066 - t) 1074 (1066 - t) 40 (by rw [p40]; omega) (by rw [p40]; omega) (by omega) (by omega) (by omega) (by omega)]
  have hprod : (i * 256 + far) * (W * 2 ^ t) ≤ 2048 * 2048 := Nat.mul_le_mul (by omega) hWm
  have cmp : ∀ j, j < 2 ^ t → (fl ((i * 256 + far) * (W * 2 ^ t)) (1066 - t) < fl (W * (j + 1)) 1074 ↔ i ≤ j) := fun j hj => by
    have hw1 : W * (j + 1) ≤ 256 * 8 := Nat.mul_le_mul hW2 (by omega)
    rw [fl_lt (k := 40) (by rw [p40]; omega) (by rw [p40]; omega) (by omega) (by omega) (by omega), e74 (W * (j + 1)), Nat.mul_lt_mul_right (pw_pos _)]
    rw [show (i * 256 + far) * (W * 2 ^ t) = (i * 256 + far) * (W * 2 ^ t) from rfl, show W * (j + 1) * (256 * 2 ^ t) = (256 * (j + 1)) * (W * 2 ^ t) by
      rw [Nat.mul_comm W (j + 1), Nat.mul_assoc, Nat.mul_left_comm W, Nat.mul_comm 256 (j + 1), Nat.mul_assoc]]
    rw [Nat.mul_lt_mul_right (by omega)]
    omega
  generalize fl ((i * 256 + far) * (W * 2 ^ t)) (1066 - t) = x at *
  have htk : ∀ j, j < 2 ^ t → sumN fK1 ((sL W (2 ^ t)).take (2 * j + 1)) = fl (W * (j + 1)) 1074 := fun j hj => by
    have hw1 : W * j ≤ 256 * 8 := Nat.mul_le_mul hW2 (by omega)
    rw [sumN_take fK1 _ (2 * j) (by rw [hlen]; omega), sL_take W _ j (by omega), ← getD_at _ (2 * j) (by rw [hlen]; omega), (sL_get W (2 ^ t) j hj).1, sL_sum W hW2 j (by omega), sA_wt W hW2, add_fl (W * j) W 1074 40 (by rw [p40]; omega) (by rw [p40]; omega) (by omega) (by omega), ← Nat.mul_add_one]
  have hit : ∀ j, j < 2 ^ t → (hitN fK1 x (sL W (2 ^ t)) (2 * j) = true ↔ i ≤ j) := fun j hj => by
    unfold hitN
    rw [(sL_get W (2 ^ t) j hj).1, sA_wt W hW2, htk j hj, decide_eq_true_eq, cmp j hj]
    exact ⟨fun h => h.2, fun h => ⟨hpos W hW (by omega), h⟩⟩
  obtain ⟨y, e, hy⟩ := firstN_least fK1 x (sL W (2 ^ t)) (2 * 2 ^ t) (2 * i) (by omega) ((hit i hi).2 (Nat.le_refl _))
  rw [e]
  show y = 2 * i
  obtain ⟨hy1, hy2⟩ := firstN_hit _ _ _ _ _ e
  rcases (by omega : y = 2 * (y / 2) ∨ y = 2 * (y / 2) + 1) with hev | hod
  · rw [hev] at hy2
    have := (hit (y / 2) (by omega)).1 hy2
    omega
  · exfalso
    unfold hitN at hy2
    rw [hod, (sL_get W (2 ^ t) (y / 2) (by omega)).2, sB_wt] at hy2
    have := (of_decide_eq_true hy2).1
    omega
theorem share_draw (t i far : Nat) (ht : t ≤ 3) (hi : i < 2 ^ t) (hf : far < 256) :
    Ieee.double.div (fl far 1074) 4643211215818981376 = some (fl far 1066) ∧ Ieee.double.add (fl i 1074) (fl far 1066) = some (fl (i * 256 + far) 1066) ∧ Ieee.double.div (fl (i * 256 + far) 1066) (fl (2 ^ t) 1074) = some (fl (i * 256 + far) (1066 - t)) := by
  have h8 : 2 ^ t ≤ 2 ^ 3 := Nat.pow_le_pow_right (by omega) ht
  have h8' : (2 : Nat) ^ 3 = 8 := by decide
  have e2 : (4643211215818981376 : Nat) = fl 1 (1074 + 8) := by decide +kernel
  have e3 : fl i 1074 = fl (i * 256) 1066 := by
    have := fl_scale i 1066 8
    rw [show pw 8 = 256 from by decide] at this
    exact this.symm
  have e4 : fl (2 ^ t) 1074 = fl 1 (1074 + t) := by
    have := fl_scale 1 1074 t
    rw [Nat.one_mul] at this
    exact this
  refine ⟨?_, ?_, ?_⟩
  · rw [e2]
    exact div_fl far 1074 1066 8 40 (by rw [p40]; omega) (by omega) (by omega) (by omega) rfl
  · rw [e3, add_is (Nat.le_of_lt (fl_ok (i * 256) 1066 40 (by rw [p40]; omega) (by omega) (by omega)).1) (Nat.le_of_lt (fl_ok far 1066 40 (by rw [p40]; omega) (by omega) (by omega)).1), add_fl (i * 256) far 1066 40 (by rw [p40]; omega) (by rw [p40]; omega) (by omega) (by omega)]
  · rw [e4]
    exact div_fl (i * 256 + far) 1066 (1066 - t) t 40 (by rw [p40]; omega) (by omega) (by omega) (by omega) (by omega)
end Go.Proofs.Ytfopobdbkbcnnaa
