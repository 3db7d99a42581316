/- Plane: the target that a draw takes. -/
import Derived.Test.YtcmiappiocfbiaaGreatDoorPl1
import Derived.Test.YtcmiappiocfbiaaGreatDoorFlo3
namespace Go.Proofs.YtcmiappiocfbiaaGreatDoor
open Go.ChangeShapes Go.WideShapes Go.ChangeAt Go.RowKit

abbrev fK1 : Nat := 4607182418800017408
abbrev fK2 : Nat := 4562146422526312448
theorem val_K1 : val fK1 = pw 1074 := by
  rw [val_pw _ (by decide), show fK1 / fB - 1 = 1022 from by decide, show fB + fK1 % fB = pw 52 from by decide]
  exact (pw_add 52 1022).symm
theorem val_K2 : val fK2 = pw 1064 := by
  rw [val_pw _ (by decide), show fK2 / fB - 1 = 1012 from by decide, show fB + fK2 % fB = pw 52 from by decide]
  exact (pw_add 52 1012).symm
theorem val_top : val 9218868437227405311 < pw 2098 := by
  rw [val_pw _ (by decide), show 9218868437227405311 / fB - 1 = 2045 from by decide, show (2098 : Nat) = 53 + 2045 from rfl, pw_add]
  exact Nat.mul_lt_mul_of_pos_right (by decide) (pw_pos _)
theorem val_bound {x : Nat} (hx : x < fI) : val x < pw 2098 := by
  have h1 : val x ≤ val 9218868437227405311 := (val_le hx (by decide)).2 (by simp only [fI] at hx; omega)
  exact Nat.lt_of_le_of_lt h1 val_top
/-- The rung of n times 2^1014. -/
def rungN (n : Nat) : Nat := near 1074 (n * pw 2088)
theorem rungN_val (n : Nat) (hn : n ≤ 1000) : rungN n < fI ∧ val (rungN n) = n * pw 2088 := by
  have h53 : n < 2 ^ 53 := Nat.lt_of_le_of_lt hn (by decide)
  have hlt : n * pw 2088 < pw 2098 := by
    rw [show (2098 : Nat) = 10 + 2088 from rfl, pw_add]
    exact Nat.mul_lt_mul_of_pos_right (Nat.lt_of_le_of_lt hn (by decide)) (pw_pos _)
  obtain ⟨x, h1, h2, h3⟩ := exact_val n 2088 2098 (pw 2088) rfl (Nat.le_refl _) h53 hlt
  unfold rungN
  rw [h3]
  exact ⟨h1, h2⟩
theorem wt_K2 (x : Nat) : wt fK2 x ≤ rungN 1 := by
  unfold wt
  split
  · rename_i h
    unfold mulN rungN
    have h1 : val x * val fK2 ≤ pw 2098 * pw 1064 := by
      rw [val_K2]
      exact Nat.mul_le_mul_right _ (Nat.le_of_lt (val_bound h.2))
    refine Nat.le_trans (near_mono 2148 h1) ?_
    have e : pw 2098 * pw 1064 = pw 2088 * pw 1074 := by rw [← pw_add, ← pw_add]
    rw [e, Nat.one_mul]
    exact Nat.le_of_eq (near_pw 1074 (pw 2088) 1074)
  · exact Nat.zero_le _
theorem addN_mono {a b c d : Nat} (ha : a ≤ c) (hb : b ≤ d) (hc : c < fI) (hd : d < fI) : addN a b ≤ addN c d := by
  unfold addN
  rw [if_neg (by omega), if_neg (by omega)]
  exact near_mono _ (Nat.add_le_add ((val_le (by omega) hc).2 ha) ((val_le (by omega) hd).2 hb))
theorem sumN_K2 (l : List Tg) (h : l.length ≤ 1000) : sumN fK2 l ≤ rungN l.length := by
  induction hn : l.length generalizing l with
  | zero =>
    have : l = [] := List.eq_nil_of_length_eq_zero hn
    subst this
    exact Nat.zero_le _
  | succ n ih =>
    rcases List.eq_nil_or_concat l with rfl | ⟨l', t, rfl⟩
    · simp at hn
    · rw [List.concat_eq_append] at hn h ⊢
      rw [List.length_append, List.length_singleton] at hn h
      have hl : l'.length = n := by omega
      rw [sumN_snoc]
      have h1 := ih l' (by omega) hl
      obtain ⟨a1, a2⟩ := rungN_val n (by omega)
      obtain ⟨b1, b2⟩ := rungN_val 1 (by omega)
      refine Nat.le_trans (addN_mono h1 (wt_K2 t.2) a1 b1) ?_
      unfold addN
      rw [if_neg (by omega), a2, b2, ← Nat.add_mul]
      exact Nat.le_refl _
def scaleN (l : List Tg) : Nat := if sumN fK1 l = fI then fK2 else fK1
theorem scaleN_lt (l : List Tg) : scaleN l < fI := by unfold scaleN; split <;> decide
theorem sum_lt (l : List Tg) (h : l.length ≤ 1000) : sumN (scaleN l) l < fI := by
  unfold scaleN
  split
  · exact Nat.lt_of_le_of_lt (sumN_K2 l h) (rungN_val _ h).1
  · rename_i h1
    have := sumN_le fK1 l
    omega
def drawN (d : Nat) : Nat := if d ≤ fI then d else 0
def takeN (l : List Tg) (d : Nat) : Nat := if fK1 ≤ d ∧ d ≤ fI then lastN (scaleN l) l l.length else (firstN (scaleN l) (mulN (drawN d) (sumN (scaleN l) l)) l l.length).getD (lastN (scaleN l) l l.length)
def weighN (l : List Tg) (d : Nat) : Option Nat := if sumN (scaleN l) l = 0 then none else some (takeN l d)
theorem sumN_nil (k : Nat) : sumN k [] = 0 := rfl
section
variable {w : World} {a : Option Addr} {l : List Tg}
/-- The call with the draw made right, as far as the steps behind it go. -/
theorem drawn (d : Nat) (hd : d < 18446744073709551616) (h1 : ¬ (fK1 ≤ d ∧ d ≤ fI)) (s : Nat) (hs : s < fI) : ∃ d2 x, ((FloatKind.f64.format.order d 0 == some Ordering.gt || FloatKind.f64.format.order d 0 == some Ordering.eq) = true ∧ d2 = d ∨ (FloatKind.f64.format.order d 0 == some Ordering.gt || FloatKind.f64.format.order d 0 == some Ordering.eq) = false ∧ d2 = 0) ∧ (∀ t w, (binOp .mul t (.float .f64 d2) (.float .f64 s)).run Tryz.prog w = .ok (.float .f64 x) w) ∧ ∀ y, y ≤ fI → (FloatKind.f64.format.order x y == some Ordering.lt) = decide (mulN (drawN d) s < y) := by
  rw [show (FloatKind.f64.format.order d 0 == some Ordering.gt || FloatKind.f64.format.order d 0 == some Ordering.eq) = _ from ge0_is d hd]
  by_cases hI : d ≤ fI
  · have hdI : d < fI := by simp only [fK1, fI] at h1 hI ⊢; omega
    refine ⟨d, mulN d s, .inl ⟨decide_eq_true (.inl hI), rfl⟩, run_mulF hdI hs, fun y hy => ?_⟩
    rw [lt_is (mulN_le _ _) hy]
    unfold drawN
    rw [if_pos hI]
  · have hz : mulN (drawN d) s = 0 := by
      unfold drawN mulN
      rw [if_neg hI, show val 0 = 0 from by decide, Nat.zero_mul, near_zero]
    rw [hz]
    by_cases hn : d = 9223372036854775808
    · exact ⟨d, 9223372036854775808, .inl ⟨decide_eq_true (.inr hn), rfl⟩, fun t w => by rw [hn]; exact run_float_arith w .mul t .f64 _ s _ (mul_neg0 s hs), fun y hy => lt_neg0 y hy⟩
    · refine ⟨0, mulN 0 s, .inr ⟨decide_eq_false (by omega), rfl⟩, run_mulF (by decide) hs, fun y hy => ?_⟩
      rw [lt_is (mulN_le _ _) hy]
      have : mulN 0 s = 0 := by
        unfold mulN
        rw [show val 0 = 0 from by decide, Nat.zero_mul, near_zero]
      rw [this]
set_option maxRecDepth 20000 in
set_option maxHeartbeats 4000000 in
theorem weigh_calls (h : TgsAt w a l) (n c : Nat) (hn : l.length = n) (hx : n ≤ 1000) (d : Nat) (hd : d < 18446744073709551616) :
    Calls Tryz.prog 25 #[.slice a n c, .float .f64 d] w fun e w' => e = .returned (firstV (weighN l d)) ∧ Below w.heap.size w w' := by
  have hml : n ≤ maxLen := by simp only [maxLen]; omega
  have SC1 := hide (sum_calls (w := w) 4607182418800017408 (by decide) h n c hn hml)
  have SCW := hide (fun W (hb : Below w.heap.size w W) => sum_calls (w := W) 4562146422526312448 (by decide) (h.later hb) n c hn hml)
  have IC := hide (fun W => isInf_calls (sumN 4607182418800017408 l) W (sumN_le _ _))
  have hsl := sum_lt l (by omega)
  have TK := hide (show takeN l d = if fK1 ≤ d ∧ d ≤ fI then lastN (scaleN l) l n else (firstN (scaleN l) (mulN (drawN d) (sumN (scaleN l) l)) l n).getD (lastN (scaleN l) l n) by unfold takeN; rw [hn])
  have WN := hide (show weighN l d = if sumN (scaleN l) l = 0 then none else some (takeN l d) from rfl)
  have N0 := hide (show ¬ sumN (scaleN l) l = 0 → 0 < n from fun q => by
    rcases Nat.eq_zero_or_pos n with h0 | h0
    · have : l = [] := List.eq_nil_of_length_eq_zero (by omega)
      rw [this] at q
      exact absurd (sumN_nil _) q
    · exact h0)
  have FC := hide (fun W (hb : Below w.heap.size w W) x x' hlt => first_calls (w := W) (scaleN l) (scaleN_lt l) x x' hlt (h.later hb) n c hn hml)
  have LC := hide (fun W (hb : Below w.heap.size w W) q => last_calls (w := W) (scaleN l) (scaleN_lt l) (h.later hb) n c hn hml q)
  have DR := hide (fun (h1 : ¬ (fK1 ≤ d ∧ d ≤ fI)) => drawn d hd h1 (sumN (scaleN l) l) hsl)
  have hge : (FloatKind.f64.format.order d 4607182418800017408 == some Ordering.gt || FloatKind.f64.format.order d 4607182418800017408 == some Ordering.eq) = decide (fK1 ≤ d ∧ d ≤ fI) := ge_is d fK1 hd (by decide) (by decide)
  have hg := gt0_is (sumN (scaleN l) l) (by simp only [fI] at hsl; omega)
  have hsI := Nat.le_of_lt hsl
  clear h hn hml
  by_cases hI : sumN 4607182418800017408 l = fI
  · have hsc : scaleN l = fK2 := by unfold scaleN; rw [if_pos hI]
    rw [hsc] at hsl hsI WN TK N0 FC LC DR hg
    rw [show decide (sumN 4607182418800017408 l = fI) = true from decide_eq_true hI] at IC
    clear hsc hI
    generalize sumN 4607182418800017408 l = s1 at *
    generalize sumN fK2 l = s at *
    by_cases hs0 : s = 0
    · have E := hide (show weighN l d = none by rw [unhide WN, if_pos hs0])
      rw [decide_eq_false (by omega)] at hg
      clear hs0 hge
      go_enter Tryz.func25, Tryz.ntmps25
      go_wp2_with (first
          | (have hV : B1 = B1 := rfl
             clear hV
             go_at_call 45
             refine (unhide SCW _ (unhide B1)).mono ?_
             rintro e W2 ⟨rfl, b2⟩
             have B2 := hide ((unhide B1).trans (b2.mono (unhide B1).size))
             clear b2)
          | (go_at_call 46
             refine (unhide IC _).mono ?_
             rintro e W1 ⟨rfl, rfl⟩)
          | (go_at_call 45
             refine (unhide SC1).mono ?_
             rintro e W1 ⟨rfl, b1⟩
             have B1 := hide b1
             clear b1))
      go_ret2
      exact ⟨by rw [unhide E]; rfl, unhide B2⟩
    · rw [decide_eq_true (by omega)] at hg
      have hn0 := unhide N0 hs0
      by_cases h1 : fK1 ≤ d ∧ d ≤ fI
      · have E := hide (show weighN l d = some (lastN fK2 l n) by rw [unhide WN, if_neg hs0, unhide TK, if_pos h1])
        rw [decide_eq_true h1] at hge
        clear h1 hs0
        go_enter Tryz.func25, Tryz.ntmps25
        go_wp2_with (first
            | (have hV : B1 = B1 := rfl
               clear hV
               go_at_call 45
               refine (unhide SCW _ (unhide B1)).mono ?_
               rintro e W2 ⟨rfl, b2⟩
               have B2 := hide ((unhide B1).trans (b2.mono (unhide B1).size))
               clear b2)
            | (go_at_call 46
               refine (unhide IC _).mono ?_
               rintro e W1 ⟨rfl, rfl⟩)
            | (go_at_call 45
               refine (unhide SC1).mono ?_
               rintro e W1 ⟨rfl, b1⟩
               have B1 := hide b1
               clear b1)
            | (go_at_call 47
               refine (unhide LC _ (unhide B2) (by assumption)).mono ?_
               rintro e W5 ⟨rfl, b5⟩
               have B5 := hide ((unhide B2).trans (b5.mono (unhide B2).size))
               clear b5))
        go_ret2
        exact ⟨by rw [unhide E]; rfl, unhide B5⟩
      · have E := hide (show weighN l d = some ((firstN fK2 (mulN (drawN d) s) l n).getD (lastN fK2 l n)) by rw [unhide WN, if_neg hs0, unhide TK, if_neg h1])
        obtain ⟨d2, x, hdd, hmul, hlt⟩ := unhide DR h1
        have FX := hide (fun W hb => unhide FC W hb x (mulN (drawN d) s) hlt)
        rw [decide_eq_false h1] at hge
        clear h1 hs0 hlt
        generalize mulN (drawN d) s = y at *
        rcases hdd with ⟨hz, rfl⟩ | ⟨hz, rfl⟩
        · cases hf : firstN fK2 y l n with
          | some i =>
            rw [hf] at FX E
            unfold firstV at FX
            go_enter Tryz.func25, Tryz.ntmps25
            go_wp2_with (first
                | (have hV : B1 = B1 := rfl
                   clear hV
                   go_at_call 45
                   refine (unhide SCW _ (unhide B1)).mono ?_
                   rintro e W2 ⟨rfl, b2⟩
                   have B2 := hide ((unhide B1).trans (b2.mono (unhide B1).size))
                   clear b2)
                | (go_at_call 46
                   refine (unhide IC _).mono ?_
                   rintro e W1 ⟨rfl, rfl⟩)
                | (go_at_call 45
                   refine (unhide SC1).mono ?_
                   rintro e W1 ⟨rfl, b1⟩
                   have B1 := hide b1
                   clear b1)
                | (go_at_call 48
                   refine (unhide FX _ (unhide B2)).mono ?_
                   rintro e W4 ⟨rfl, b4⟩
                   have B4 := hide ((unhide B2).trans (b4.mono (unhide B2).size))
                   clear b4))
            go_ret2
            exact ⟨by rw [unhide E]; rfl, unhide B4⟩
          | none =>
            rw [hf] at FX E
            unfold firstV at FX
            go_enter Tryz.func25, Tryz.ntmps25
            go_wp2_with (first
                | (have hV : B1 = B1 := rfl
                   clear hV
                   go_at_call 45
                   refine (unhide SCW _ (unhide B1)).mono ?_
                   rintro e W2 ⟨rfl, b2⟩
                   have B2 := hide ((unhide B1).trans (b2.mono (unhide B1).size))
                   clear b2)
                | (go_at_call 46
                   refine (unhide IC _).mono ?_
                   rintro e W1 ⟨rfl, rfl⟩)
                | (go_at_call 45
                   refine (unhide SC1).mono ?_
                   rintro e W1 ⟨rfl, b1⟩
                   have B1 := hide b1
                   clear b1)
                | (go_at_call 48
                   refine (unhide FX _ (unhide B2)).mono ?_
                   rintro e W4 ⟨rfl, b4⟩
                   have B4 := hide ((unhide B2).trans (b4.mono (unhide B2).size))
                   clear b4)
                | (go_at_call 47
                   refine (unhide LC _ (unhide B4) (by assumption)).mono ?_
                   rintro e W5 ⟨rfl, b5⟩
                   have B5 := hide ((unhide B4).trans (b5.mono (unhide B4).size))
                   clear b5))
            go_ret2
            exact ⟨by rw [unhide E]; rfl, unhide B5⟩
        · cases hf : firstN fK2 y l n with
          | some i =>
            rw [hf] at FX E
            unfold firstV at FX
            go_enter Tryz.func25, Tryz.ntmps25
            go_wp2_with (first
                | (have hV : B1 = B1 := rfl
                   clear hV
                   go_at_call 45
                   refine (unhide SCW _ (unhide B1)).mono ?_
                   rintro e W2 ⟨rfl, b2⟩
                   have B2 := hide ((unhide B1).trans (b2.mono (unhide B1).size))
                   clear b2)
                | (go_at_call 46
                   refine (unhide IC _).mono ?_
                   rintro e W1 ⟨rfl, rfl⟩)
                | (go_at_call 45
                   refine (unhide SC1).mono ?_
                   rintro e W1 ⟨rfl, b1⟩
                   have B1 := hide b1
                   clear b1)
                | (go_at_call 48
                   refine (unhide FX _ (unhide B2)).mono ?_
                   rintro e W4 ⟨rfl, b4⟩
                   have B4 := hide ((unhide B2).trans (b4.mono (unhide B2).size))
                   clear b4))
            go_ret2
            exact ⟨by rw [unhide E]; rfl, unhide B4⟩
          | none =>
            rw [hf] at FX E
            unfold firstV at FX
            go_enter Tryz.func25, Tryz.ntmps25
            go_wp2_with (first
                | (have hV : B1 = B1 := rfl
                   clear hV
                   go_at_call 45
                   refine (unhide SCW _ (unhide B1)).mono ?_
                   rintro e W2 ⟨rfl, b2⟩
                   have B2 := hide ((unhide B1).trans (b2.mono (unhide B1).size))
                   clear b2)
                | (go_at_call 46
                   refine (unhide IC _).mono ?_
                   rintro e W1 ⟨rfl, rfl⟩)
                | (go_at_call 45
                   refine (unhide SC1).mono ?_
                   rintro e W1 ⟨rfl, b1⟩
                   have B1 := hide b1
                   clear b1)
                | (go_at_call 48
                   refine (unhide FX _ (unhide B2)).mono ?_
                   rintro e W4 ⟨rfl, b4⟩
                   have B4 := hide ((unhide B2).trans (b4.mono (unhide B2).size))
                   clear b4)
                | (go_at_call 47
                   refine (unhide LC _ (unhide B4) (by assumption)).mono ?_
                   rintro e W5 ⟨rfl, b5⟩
                   have B5 := hide ((unhide B4).trans (b5.mono (unhide B4).size))
                   clear b5))
            go_ret2
            exact ⟨by rw [unhide E]; rfl, unhide B5⟩
  · have hsc : scaleN l = fK1 := by unfold scaleN; rw [if_neg hI]
    rw [hsc] at hsl hsI WN TK N0 FC LC DR hg
    rw [show decide (sumN 4607182418800017408 l = fI) = false from decide_eq_false hI] at IC
    clear hsc hI
    generalize sumN fK1 l = s at *
    by_cases hs0 : s = 0
    · have E := hide (show weighN l d = none by rw [unhide WN, if_pos hs0])
      rw [decide_eq_false (by omega)] at hg
      clear hs0 hge
      go_enter Tryz.func25, Tryz.ntmps25
      go_wp2_with (first
          | (go_at_call 46
             refine (unhide IC _).mono ?_
             rintro e W1 ⟨rfl, rfl⟩)
          | (go_at_call 45
             refine (unhide SC1).mono ?_
             rintro e W1 ⟨rfl, b1⟩
             have B1 := hide b1
             clear b1))
      go_ret2
      exact ⟨by rw [unhide E]; rfl, unhide B1⟩
    · rw [decide_eq_true (by omega)] at hg
      have hn0 := unhide N0 hs0
      by_cases h1 : fK1 ≤ d ∧ d ≤ fI
      · have E := hide (show weighN l d = some (lastN fK1 l n) by rw [unhide WN, if_neg hs0, unhide TK, if_pos h1])
        rw [decide_eq_true h1] at hge
        clear h1 hs0
        go_enter Tryz.func25, Tryz.ntmps25
        go_wp2_with (first
            | (go_at_call 46
               refine (unhide IC _).mono ?_
               rintro e W1 ⟨rfl, rfl⟩)
            | (go_at_call 45
               refine (unhide SC1).mono ?_
               rintro e W1 ⟨rfl, b1⟩
               have B1 := hide b1
               clear b1)
            | (go_at_call 47
               refine (unhide LC _ (unhide B1) (by assumption)).mono ?_
               rintro e W5 ⟨rfl, b5⟩
               have B5 := hide ((unhide B1).trans (b5.mono (unhide B1).size))
               clear b5))
        go_ret2
        exact ⟨by rw [unhide E]; rfl, unhide B5⟩
      · have E := hide (show weighN l d = some ((firstN fK1 (mulN (drawN d) s) l n).getD (lastN fK1 l n)) by rw [unhide WN, if_neg hs0, unhide TK, if_neg h1])
        obtain ⟨d2, x, hdd, hmul, hlt⟩ := unhide DR h1
        have FX := hide (fun W hb => unhide FC W hb x (mulN (drawN d) s) hlt)
        rw [decide_eq_false h1] at hge
        clear h1 hs0 hlt
        generalize mulN (drawN d) s = y at *
        rcases hdd with ⟨hz, rfl⟩ | ⟨hz, rfl⟩
        · cases hf : firstN fK1 y l n with
          | some i =>
            rw [hf] at FX E
            unfold firstV at FX
            go_enter Tryz.func25, Tryz.ntmps25
            go_wp2_with (first
                | (go_at_call 46
                   refine (unhide IC _).mono ?_
                   rintro e W1 ⟨rfl, rfl⟩)
                | (go_at_call 45
                   refine (unhide SC1).mono ?_
                   rintro e W1 ⟨rfl, b1⟩
                   have B1 := hide b1
                   clear b1)
                | (go_at_call 48
                   refine (unhide FX _ (unhide B1)).mono ?_
                   rintro e W4 ⟨rfl, b4⟩
                   have B4 := hide ((unhide B1).trans (b4.mono (unhide B1).size))
                   clear b4))
            go_ret2
            exact ⟨by rw [unhide E]; rfl, unhide B4⟩
          | none =>
            rw [hf] at FX E
            unfold firstV at FX
            go_enter Tryz.func25, Tryz.ntmps25
            go_wp2_with (first
                | (go_at_call 46
                   refine (unhide IC _).mono ?_
                   rintro e W1 ⟨rfl, rfl⟩)
                | (go_at_call 45
                   refine (unhide SC1).mono ?_
                   rintro e W1 ⟨rfl, b1⟩
                   have B1 := hide b1
                   clear b1)
                | (go_at_call 48
                   refine (unhide FX _ (unhide B1)).mono ?_
                   rintro e W4 ⟨rfl, b4⟩
                   have B4 := hide ((unhide B1).trans (b4.mono (unhide B1).size))
                   clear b4)
                | (go_at_call 47
                   refine (unhide LC _ (unhide B4) (by assumption)).mono ?_
                   rintro e W5 ⟨rfl, b5⟩
                   have B5 := hide ((unhide B4).trans (b5.mono (unhide B4).size))
                   clear b5))
            go_ret2
            exact ⟨by rw [unhide E]; rfl, unhide B5⟩
        · cases hf : firstN fK1 y l n with
          | some i =>
            rw [hf] at FX E
            unfold firstV at FX
            go_enter Tryz.func25, Tryz.ntmps25
            go_wp2_with (first
                | (go_at_call 46
                   refine (unhide IC _).mono ?_
                   rintro e W1 ⟨rfl, rfl⟩)
                | (go_at_call 45
                   refine (unhide SC1).mono ?_
                   rintro e W1 ⟨rfl, b1⟩
                   have B1 := hide b1
                   clear b1)
                | (go_at_call 48
                   refine (unhide FX _ (unhide B1)).mono ?_
                   rintro e W4 ⟨rfl, b4⟩
                   have B4 := hide ((unhide B1).trans (b4.mono (unhide B1).size))
                   clear b4))
            go_ret2
            exact ⟨by rw [unhide E]; rfl, unhide B4⟩
          | none =>
            rw [hf] at FX E
            unfold firstV at FX
            go_enter Tryz.func25, Tryz.ntmps25
            go_wp2_with (first
                | (go_at_call 46
                   refine (unhide IC _).mono ?_
                   rintro e W1 ⟨rfl, rfl⟩)
                | (go_at_call 45
                   refine (unhide SC1).mono ?_
                   rintro e W1 ⟨rfl, b1⟩
                   have B1 := hide b1
                   clear b1)
                | (go_at_call 48
                   refine (unhide FX _ (unhide B1)).mono ?_
                   rintro e W4 ⟨rfl, b4⟩
                   have B4 := hide ((unhide B1).trans (b4.mono (unhide B1).size))
                   clear b4)
                | (go_at_call 47
                   refine (unhide LC _ (unhide B4) (by assumption)).mono ?_
                   rintro e W5 ⟨rfl, b5⟩
                   have B5 := hide ((unhide B4).trans (b5.mono (unhide B4).size))
                   clear b5))
            go_ret2
            exact ⟨by rw [unhide E]; rfl, unhide B5⟩
end
end Go.Proofs.YtcmiappiocfbiaaGreatDoor
