/- Plane: with a greater draw no earlier target is taken (plain mathematics); NaN, infinities. -/
import Derived.Test.YtfopobdbkbcnnaaPl3
import Derived.Test.YtfopobdbkbcnnaaPl9
namespace Go.Proofs.Ytfopobdbkbcnnaa
open Go.ChangeShapes Go.WideShapes Go.ChangeAt Go.RowKit

theorem lastN_ge (k : Nat) (l : List Tg) : ∀ n i, i < n → 0 < wt k (l.getD i (⟨#[]⟩, 0)).2 → i ≤ lastN k l n
  | 0, i, h, _ => by omega
  | n + 1, i, h, hp => by
    unfold lastN
    by_cases hq : 0 < wt k (l.getD n (⟨#[]⟩, 0)).2
    · rw [if_pos hq]; omega
    · rw [if_neg hq]
      refine lastN_ge k l n i ?_ hp
      rcases Nat.lt_or_ge i n with h1 | h1
      · exact h1
      · have : i = n := by omega
        subst this
        exact absurd hp hq
theorem first_le_last (k x : Nat) (l : List Tg) (n : Nat) : (firstN k x l n).getD (lastN k l n) ≤ lastN k l n := by
  cases hf : firstN k x l n with
  | none => exact Nat.le_refl _
  | some i =>
    obtain ⟨a, b⟩ := firstN_hit _ _ _ _ _ hf
    exact lastN_ge k l n i a (of_decide_eq_true b).1
theorem hit_mono {k x y : Nat} (h : x ≤ y) (l : List Tg) (j : Nat) (hh : hitN k y l j = true) : hitN k x l j = true := by
  have := of_decide_eq_true hh
  exact decide_eq_true ⟨this.1, by omega⟩
theorem firstN_least (k x : Nat) (l : List Tg) : ∀ n i, i < n → hitN k x l i = true → ∃ j, firstN k x l n = some j ∧ j ≤ i
  | 0, i, h, _ => by omega
  | n + 1, i, h, hh => by
    unfold firstN
    cases hf : firstN k x l n with
    | some j =>
      refine ⟨j, rfl, ?_⟩
      rcases Nat.lt_or_ge i n with h1 | h1
      · obtain ⟨j', e, hl⟩ := firstN_least k x l n i h1 hh
        rw [hf] at e
        cases e
        exact hl
      · obtain ⟨a, _⟩ := firstN_hit _ _ _ _ _ hf
        omega
    | none =>
      rcases Nat.lt_or_ge i n with h1 | h1
      · obtain ⟨j', e, _⟩ := firstN_least k x l n i h1 hh
        rw [hf] at e
        cases e
      · have : i = n := by omega
        subst this
        simp only
        rw [if_pos hh]
        exact ⟨i, rfl, Nat.le_refl _⟩
theorem first_mono {k x y : Nat} (h : x ≤ y) (l : List Tg) (n : Nat) : (firstN k x l n).getD (lastN k l n) ≤ (firstN k y l n).getD (lastN k l n) := by
  cases hf : firstN k y l n with
  | none => exact first_le_last k x l n
  | some i =>
    obtain ⟨a, b⟩ := firstN_hit _ _ _ _ _ hf
    obtain ⟨j, e, hj⟩ := firstN_least k x l n i a (hit_mono h l i b)
    rw [e]
    exact hj
theorem mulN_mono {a b s : Nat} (h : a ≤ b) (hb : b < fI) : mulN a s ≤ mulN b s := by
  unfold mulN
  exact near_mono _ (Nat.mul_le_mul_right _ ((val_le (by omega) hb).2 h))
theorem take_odd (l : List Tg) (a : Nat) (h : fI < a) : takeN l a = takeN l 0 := by
  unfold takeN drawN
  rw [if_neg (by omega), if_neg (show ¬ (fK1 ≤ 0 ∧ 0 ≤ fI) by decide), if_neg (by omega), if_pos (Nat.zero_le _)]
theorem take_mono (l : List Tg) (a b : Nat) (h : drawN a ≤ drawN b) : takeN l a ≤ takeN l b := by
  have h1 : a ≤ fI ∨ fI < a := by omega
  have h2 : b ≤ fI ∨ fI < b := by omega
  have key : ∀ u v, u ≤ fI → v ≤ fI → u ≤ v → takeN l u ≤ takeN l v := by
    intro u v hu hv huv
    unfold takeN drawN
    rw [if_pos hu, if_pos hv]
    by_cases hv1 : fK1 ≤ v ∧ v ≤ fI
    · rw [if_pos hv1]
      split
      · exact Nat.le_refl _
      · exact first_le_last _ _ _ _
    · rw [if_neg hv1, if_neg (by omega)]
      refine first_mono (mulN_mono huv ?_) _ _
      simp only [fK1, fI] at *
      omega
  unfold drawN at h
  rcases h1 with h1 | h1 <;> rcases h2 with h2 | h2
  · rw [if_pos h1, if_pos h2] at h
    exact key a b h1 h2 h
  · rw [if_pos h1, if_neg (by omega)] at h
    have : a = 0 := by omega
    rw [this, take_odd l b h2]
    exact Nat.le_refl _
  · rw [take_odd l a h1]
    exact key 0 b (Nat.zero_le _) h2 (Nat.zero_le _)
  · rw [take_odd l a h1, take_odd l b h2]
    exact Nat.le_refl _
/-- What is not greater draws no more. -/
theorem le_draw (a b : Nat) (ha : a < 18446744073709551616) (hb : b < 18446744073709551616) (h : (FloatKind.f64.format.order a b == some Ordering.lt || FloatKind.f64.format.order a b == some Ordering.eq) = true) : drawN a ≤ drawN b := by
  unfold drawN
  by_cases h1 : a ≤ fI
  · rw [if_pos h1]
    by_cases h2 : b ≤ fI
    · rw [if_pos h2]
      rw [show FloatKind.f64.format.order a b = _ from order_is h1 h2] at h
      rcases Nat.lt_or_ge b a with h3 | h3
      · rw [Nat.compare_eq_gt.2 h3] at h
        exact absurd h (by decide)
      · exact h3
    · rw [if_neg h2]
      rcases Nat.eq_zero_or_pos a with h0 | h0
      · omega
      · exfalso
        have hsym : ∀ D E : Ieee.Datum, Ieee.Datum.order D E = (Ieee.Datum.order E D).map Ordering.swap := by
          intro D E
          cases D with
          | nan s f => cases E <;> rfl
          | infinity s => cases E with
            | nan s f => rfl
            | infinity t => cases s <;> cases t <;> rfl
            | number t n j => cases s <;> rfl
          | number s m i => cases E with
            | nan s f => rfl
            | infinity t => cases t <;> rfl
            | number t n j =>
              simp only [Ieee.Datum.order, Option.map_some]
              rw [Int.min_comm i j]
              congr 1
              generalize Ieee.signed s m (i - min j i).toNat = A
              generalize Ieee.signed t n (j - min j i).toNat = B
              rcases Int.lt_trichotomy A B with q | q | q
              · rw [Int.compare_eq_lt.2 q, Int.compare_eq_gt.2 q]; rfl
              · rw [Int.compare_eq_eq.2 q, Int.compare_eq_eq.2 q.symm]; rfl
              · rw [Int.compare_eq_gt.2 q, Int.compare_eq_lt.2 q]; rfl
        obtain ⟨c1, c2⟩ := order_big b a (by omega) hb h1
        rw [decide_eq_false (fun q => by omega)] at c2
        have hs := hsym (Ieee.double.read a) (Ieee.double.read b)
        have h' : (Ieee.Datum.order (Ieee.double.read a) (Ieee.double.read b) == some Ordering.lt || Ieee.Datum.order (Ieee.double.read a) (Ieee.double.read b) == some Ordering.eq) = true := h
        have c1' : (Ieee.Datum.order (Ieee.double.read b) (Ieee.double.read a) == some Ordering.gt) = false := c1
        have c2' : (Ieee.Datum.order (Ieee.double.read b) (Ieee.double.read a) == some Ordering.eq) = false := c2
        rw [hs] at h'
        generalize Ieee.Datum.order (Ieee.double.read b) (Ieee.double.read a) = o at *
        cases o with
        | none => cases h'
        | some o =>
          cases o with
          | lt => exact absurd h' (by decide)
          | eq => exact absurd c2' (by decide)
          | gt => exact absurd c1' (by decide)
  · rw [if_neg h1]; exact Nat.zero_le _
theorem lt0_big (a : Nat) (_ha : a < 18446744073709551616) (h : (FloatKind.f64.format.order a 0 == some Ordering.lt) = true) : fI < a := by
  rcases Nat.lt_or_ge fI a with h1 | h1
  · exact h1
  · rw [lt_is h1 (by decide)] at h
    have := of_decide_eq_true h
    omega
theorem run_frombits (x : Nat) (w : World) : (Extern.MathFloatBits.float64frombits #[.int .u64 (x : Int)]).run Try.prog w = .ok (.float .f64 x) w := rfl
set_option maxHeartbeats 2000000 in
theorem nan_calls (w : World) : Calls Try.prog 22 #[] w fun e w' => e = .returned (.float .f64 9221120237041090561) ∧ w' = w := by
  go_enter Try.func22, Try.ntmps22
  go_wp2_with fail
  rw [run_callFunc_extern Try.func33 (by kernel_rfl) (by kernel_rfl) (by kernel_rfl) (e := Extern.MathFloatBits.float64frombits) (by kernel_rfl)]
  rw [show (Extern.MathFloatBits.float64frombits #[.int .u64 9221120237041090561]).run Try.prog w = .ok (.float .f64 9221120237041090561) w from run_frombits 9221120237041090561 w]
  simp only [Result.andThen]
  rw [Oper.upon_value]
  go_wp2
  go_ret
  exact ⟨rfl, rfl⟩
set_option maxHeartbeats 2000000 in
theorem ninf_calls (w : World) : Calls Try.prog 23 #[.int .i64 (-1)] w fun e w' => e = .returned (.float .f64 18442240474082181120) ∧ w' = w := by
  go_enter Try.func23, Try.ntmps23
  go_wp2_with fail
  rw [run_callFunc_extern Try.func33 (by kernel_rfl) (by kernel_rfl) (by kernel_rfl) (e := Extern.MathFloatBits.float64frombits) (by kernel_rfl)]
  rw [show (Extern.MathFloatBits.float64frombits #[.int .u64 18442240474082181120]).run Try.prog w = .ok (.float .f64 18442240474082181120) w from run_frombits 18442240474082181120 w]
  simp only [Result.andThen]
  rw [Oper.upon_value]
  go_wp2
  go_ret
  exact ⟨rfl, rfl⟩
set_option maxHeartbeats 2000000 in
theorem pinf_calls (w : World) : Calls Try.prog 23 #[.int .i64 1] w fun e w' => e = .returned (.float .f64 9218868437227405312) ∧ w' = w := by
  go_enter Try.func23, Try.ntmps23
  go_wp2_with fail
  rw [run_callFunc_extern Try.func33 (by kernel_rfl) (by kernel_rfl) (by kernel_rfl) (e := Extern.MathFloatBits.float64frombits) (by kernel_rfl)]
  rw [show (Extern.MathFloatBits.float64frombits #[.int .u64 9218868437227405312]).run Try.prog w = .ok (.float .f64 9218868437227405312) w from run_frombits 9218868437227405312 w]
  simp only [Result.andThen]
  rw [Oper.upon_value]
  go_wp2
  go_ret
  exact ⟨rfl, rfl⟩
end Go.Proofs.Ytfopobdbkbcnnaa
