/- Plane: weights whose sum is too great for a float (plain mathematics). -/
import Derived.Test.YtfopobdbkbcnnaaPla
import Derived.Test.YtfopobdbkbcnnaaPlc
namespace Go.Proofs.Ytfopobdbkbcnnaa
open Go.ChangeShapes Go.WideShapes Go.ChangeAt Go.RowKit

def gT : Tg := (⟨#[97]⟩, 9218868437227405311)
def gS (j : Nat) : Nat := sumN fK2 (List.replicate j gT)
theorem fl_one : fl 1 1074 = fK1 := by
  have h := near_val fK1 (by decide)
  rw [val_K1] at h
  unfold fl
  rw [Nat.one_mul]
  exact h
def gOk (t : Nat) : Bool := decide (sumN fK1 (List.replicate (2 ^ t) gT) = fI) && decide (gS (2 ^ t) ≠ 0) && decide (lastN fK2 (List.replicate (2 ^ t) gT) (2 ^ t) = 2 ^ t - 1) && (List.range (2 ^ t)).all (fun i => decide (gS i ≤ mulN (fl (i * 512 + 1) (1065 - t)) (gS (2 ^ t)) ∧ mulN (fl (i * 512 + 256) (1065 - t)) (gS (2 ^ t)) < gS (i + 1)))
theorem gOk1 : gOk 1 = true := by decide +kernel
theorem gOk2 : gOk 2 = true := by decide +kernel
theorem gOk3 : gOk 3 = true := by decide +kernel
theorem gOk4 : gOk 4 = true := by decide +kernel
theorem gS_mono (i j : Nat) (h : i ≤ j) : gS i ≤ gS j := by
  induction j with
  | zero =>
    have h0 : i = 0 := by omega
    rw [h0]
    exact Nat.le_refl _
  | succ j ih =>
    by_cases he : i = j + 1
    · rw [he]; exact Nat.le_refl _
    · refine Nat.le_trans (ih (by omega)) ?_
      unfold gS
      rw [List.replicate_succ', sumN_snoc]
      exact addN_left (sumN_le _ _) (wt_le _ _)
theorem fl_mono {m n e : Nat} (h : m ≤ n) : fl m e ≤ fl n e := by
  unfold fl
  exact near_mono _ (Nat.mul_le_mul_right _ h)
theorem great (t i far : Nat) (ht : t ≤ 4) (h : gOk t = true) (hi : i < 2 ^ t) (hf : far < 256) : weighN (List.replicate (2 ^ t) gT) (fl (i * 512 + (1 + far)) (1065 - t)) = some i ∧ weighN (List.replicate (2 ^ t) gT) fI = some (2 ^ t - 1) := by
  unfold gOk at h
  simp only [Bool.and_eq_true, decide_eq_true_eq, List.all_eq_true, List.mem_range] at h
  obtain ⟨⟨⟨h1, h2⟩, h3⟩, h4⟩ := h
  obtain ⟨h5, h6⟩ := h4 i hi
  have h16 : 2 ^ t ≤ 2 ^ 4 := Nat.pow_le_pow_right (by omega) ht
  have h16' : (2 : Nat) ^ 4 = 16 := by decide
  have p14 : pw 14 = 16384 := by decide
  have hlen : (List.replicate (2 ^ t) gT).length = 2 ^ t := List.length_replicate
  have hsc : scaleN (List.replicate (2 ^ t) gT) = fK2 := by unfold scaleN; rw [if_pos h1]
  have hs : sumN (scaleN (List.replicate (2 ^ t) gT)) (List.replicate (2 ^ t) gT) = gS (2 ^ t) := by rw [hsc]; rfl
  have hw : ∀ d, weighN (List.replicate (2 ^ t) gT) d = some (takeN (List.replicate (2 ^ t) gT) d) := fun d => by
    unfold weighN
    rw [hs, if_neg h2]
  refine ⟨?_, ?_⟩
  · rw [hw]
    congr 1
    have hd := fl_ok (i * 512 + (1 + far)) (1065 - t) 14 (by omega) (by omega) (by omega)
    have hlt1 : fl (i * 512 + (1 + far)) (1065 - t) < fK1 := by
      rw [← fl_one, fl_lt (k := 14) (by omega) (by omega) (by omega) (by omega) (by omega), Nat.one_mul]
      have e : pw 1074 = 512 * 2 ^ t * pw (1065 - t) := by
        rw [show (1074 : Nat) = 9 + (t + (1065 - t)) by omega, pw_add, pw_add, ← Nat.mul_assoc]
        rfl
      rw [e]
      exact Nat.mul_lt_mul_of_pos_right (by omega) (pw_pos _)
    unfold takeN drawN
    rw [hsc, if_neg (by omega), if_pos (by omega), hlen, show sumN fK2 (List.replicate (2 ^ t) gT) = gS (2 ^ t) from rfl]
    have x0 : mulN (fl (i * 512 + 1) (1065 - t)) (gS (2 ^ t)) ≤ mulN (fl (i * 512 + (1 + far)) (1065 - t)) (gS (2 ^ t)) := mulN_mono (fl_mono (by omega)) hd.1
    have hd2 := fl_ok (i * 512 + 256) (1065 - t) 14 (by omega) (by omega) (by omega)
    have x1 : mulN (fl (i * 512 + (1 + far)) (1065 - t)) (gS (2 ^ t)) ≤ mulN (fl (i * 512 + 256) (1065 - t)) (gS (2 ^ t)) := mulN_mono (fl_mono (by omega)) hd2.1
    generalize mulN (fl (i * 512 + (1 + far)) (1065 - t)) (gS (2 ^ t)) = x at *
    have htk : ∀ j, j < 2 ^ t → (List.replicate (2 ^ t) gT).take (j + 1) = List.replicate (j + 1) gT := fun j hj => by rw [List.take_replicate, Nat.min_eq_left (by omega)]
    have hg : ∀ j, j < 2 ^ t → (List.replicate (2 ^ t) gT).getD j (⟨#[]⟩, 0) = gT := fun j hj => by rw [getD_at _ j (by rw [hlen]; exact hj), List.getElem_replicate]
    have wpos : 0 < wt fK2 gT.2 := by decide +kernel
    have hit : hitN fK2 x (List.replicate (2 ^ t) gT) i = true := by
      unfold hitN
      rw [hg i hi, htk i hi]
      exact decide_eq_true ⟨wpos, Nat.lt_of_le_of_lt x1 h6⟩
    obtain ⟨j, e, hj⟩ := firstN_least fK2 x (List.replicate (2 ^ t) gT) (2 ^ t) i hi hit
    rw [e]
    show j = i
    obtain ⟨hj1, hj2⟩ := firstN_hit _ _ _ _ _ e
    unfold hitN at hj2
    rw [hg j hj1, htk j hj1] at hj2
    have hx := (of_decide_eq_true hj2).2
    rcases Nat.lt_or_ge j i with hlt | hge
    · exfalso
      have := gS_mono (j + 1) i (by omega)
      have hx' : x < gS (j + 1) := hx
      omega
    · omega
  · rw [hw]
    congr 1
    unfold takeN
    rw [if_pos (by decide), hsc, hlen, h3]
/-- The draw. -/
theorem great_draw (t i far : Nat) (ht : t ≤ 4) (hi : i < 2 ^ t) (hf : far < 256) :
    Ieee.double.add 4607182418800017408 (fl far 1074) = some (fl (1 + far) 1074) ∧ Ieee.double.div (fl (1 + far) 1074) 4647714815446351872 = some (fl (1 + far) 1065) ∧ Ieee.double.add (fl i 1074) (fl (1 + far) 1065) = some (fl (i * 512 + (1 + far)) 1065) ∧ Ieee.double.div (fl (i * 512 + (1 + far)) 1065) (fl (2 ^ t) 1074) = some (fl (i * 512 + (1 + far)) (1065 - t)) := by
  have h16 : 2 ^ t ≤ 2 ^ 4 := Nat.pow_le_pow_right (by omega) ht
  have h16' : (2 : Nat) ^ 4 = 16 := by decide
  have p14 : pw 14 = 16384 := by decide
  have e1 : (4607182418800017408 : Nat) = fl 1 1074 := fl_one.symm
  have e2 : (4647714815446351872 : Nat) = fl 1 (1074 + 9) := by decide +kernel
  have e3 : fl i 1074 = fl (i * 512) 1065 := by
    have := fl_scale i 1065 9
    rw [show pw 9 = 512 from by decide] at this
    exact this.symm
  have e4 : fl (2 ^ t) 1074 = fl 1 (1074 + t) := by
    have := fl_scale 1 1074 t
    rw [Nat.one_mul] at this
    exact this
  refine ⟨?_, ?_, ?_, ?_⟩
  · rw [e1, add_is (Nat.le_of_lt (fl_ok 1 1074 14 (by omega) (by omega) (by omega)).1) (Nat.le_of_lt (fl_ok far 1074 14 (by omega) (by omega) (by omega)).1), add_fl 1 far 1074 14 (by omega) (by omega) (by omega) (by omega)]
  · rw [e2]
    exact div_fl (1 + far) 1074 1065 9 14 (by omega) (by omega) (by omega) (by omega) rfl
  · rw [e3, add_is (Nat.le_of_lt (fl_ok (i * 512) 1065 14 (by omega) (by omega) (by omega)).1) (Nat.le_of_lt (fl_ok (1 + far) 1065 14 (by omega) (by omega) (by omega)).1), add_fl (i * 512) (1 + far) 1065 14 (by omega) (by omega) (by omega) (by omega)]
  · rw [e4]
    exact div_fl (i * 512 + (1 + far)) 1065 (1065 - t) t 14 (by omega) (by omega) (by omega) (by omega) (by omega)
end Go.Proofs.Ytfopobdbkbcnnaa
