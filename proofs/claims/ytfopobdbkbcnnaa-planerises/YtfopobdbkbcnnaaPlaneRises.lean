/- Proved: with a greater draw no earlier target is taken, and NaN and what is below 0 take what 0 takes; for all targets (the first 40 are weighed) and two draws; no condition. -/
import Derived.Test.YtfopobdbkbcnnaaParg
import Derived.Test.YtfopobdbkbcnnaaPla
namespace Go.Proofs.Ytfopobdbkbcnnaa.planeRises
open Go.ChangeShapes Go.WideShapes Go.ChangeAt Go.RowKit
set_option linter.unusedVariables false

theorem own : ownKnob Try.prog.godebug = none := by kernel_rfl
theorem laidOut : laidOutB Try.prog = true := by kernel_rfl

set_option maxRecDepth 20000 in
set_option maxHeartbeats 8000000 in
theorem walk (a : Option Addr) (c : Nat) (l0 : List Tg) (p q : Nat) (w : World) (hx : l0.length ≤ maxLen ∧ l0.length ≤ c) (hb : TgsAt w a l0) (hp : p < 18446744073709551616) (hq : q < 18446744073709551616) :
    Calls Try.prog 8 #[.slice a l0.length c, .float .f64 p, .float .f64 q] w fun e w' => e = .returned (.bool true) ∧ Below w.heap.size w w' := by
  have F1 := hide (few_calls (w := w) (a := a) l0.length c hx.2)
  have hlen : (l0.take 40).length = min l0.length 40 := by rw [List.length_take, Nat.min_comm]
  have hb4 := hb.take 40
  have hk40 : min l0.length 40 ≤ 40 := Nat.min_le_right _ _
  clear hb hx
  generalize l0.take 40 = l at *
  generalize l0.length = n0 at *
  generalize min n0 40 = n at *
  have WC := hide (fun W (hb2 : Below w.heap.size w W) d (hd : d < 18446744073709551616) => weigh_calls (hb4.later hb2) n c hlen (by omega) d hd)
  have WN := hide (show ∀ d, weighN l d = if sumN (scaleN l) l = 0 then none else some (takeN l d) from fun d => rfl)
  have TM := hide (fun x y hx hy h => take_mono l x y (le_draw x y hx hy h))
  have TO := hide (fun x h => take_odd l x h)
  have T1 := hide (take_odd l 9221120237041090561 (by decide))
  have T2 := hide (take_odd l 18442240474082181120 (by decide))
  have LB := hide (fun x hx h => lt0_big x hx h)
  clear hb4 hlen hk40
  cases hgt : (FloatKind.f64.format.order p q == some Ordering.gt) with
  | true =>
    have W1 := hide (fun W hb => unhide WC W hb q hq)
    have W2 := hide (fun W hb => unhide WC W hb p hp)
    have W3 := hide (fun W hb => unhide WC W hb 0 (by decide))
    have W4 := hide (fun W hb => unhide WC W hb 9221120237041090561 (by decide))
    have W5 := hide (fun W hb => unhide WC W hb 18442240474082181120 (by decide))
    rw [unhide WN] at W1 W2 W3 W4 W5
    rw [unhide T1] at W4
    rw [unhide T2] at W5
    by_cases hs : sumN (scaleN l) l = 0
    · rw [if_pos hs] at W1 W2 W3 W4 W5
      unfold firstV at W1 W2 W3 W4 W5
      clear WC WN TM TO T1 T2 LB hs
      cases hab : (FloatKind.f64.format.order q p == some Ordering.lt || FloatKind.f64.format.order q p == some Ordering.eq) with
      | true =>
        cases h0 : (FloatKind.f64.format.order q 0 == some Ordering.lt) with
        | true =>
          go_enter Try.func8, Try.ntmps8
          go_wp2_with (first
            | (go_at_call 19; refine (unhide F1).mono ?_; rintro e V ⟨rfl, rfl⟩)
            | (go_at_call 22; refine (nan_calls _).mono ?_; rintro e V3 ⟨rfl, rfl⟩)
            | (go_at_call 23; refine (ninf_calls _).mono ?_; rintro e V4 ⟨rfl, rfl⟩)
            | (have hV : B4 = B4 := rfl
               clear hV
               go_at_call 18; refine (unhide W5 _ (unhide B4)).mono ?_; rintro e V5 ⟨rfl, b5⟩; have B5 := hide ((unhide B4).trans (b5.mono (unhide B4).size)); clear b5)
            | (have hV : B3 = B3 := rfl
               clear hV
               go_at_call 18; refine (unhide W4 _ (unhide B3)).mono ?_; rintro e V4 ⟨rfl, b4⟩; have B4 := hide ((unhide B3).trans (b4.mono (unhide B3).size)); clear b4)
            | (have hV : B2 = B2 := rfl
               clear hV
               go_at_call 18; refine (unhide W3 _ (unhide B2)).mono ?_; rintro e V3 ⟨rfl, b3⟩; have B3 := hide ((unhide B2).trans (b3.mono (unhide B2).size)); clear b3)
            | (have hV : B1 = B1 := rfl
               clear hV
               go_at_call 18; refine (unhide W2 _ (unhide B1)).mono ?_; rintro e V2 ⟨rfl, b2⟩; have B2 := hide ((unhide B1).trans (b2.mono (unhide B1).size)); clear b2)
            | (go_at_call 18; refine (unhide W1 _ (Below.refl _ _)).mono ?_; rintro e V1 ⟨rfl, b1⟩; have B1 := hide b1; clear b1)
            | (go_at_call 12; refine (live10_calls _).mono ?_; rintro e V6 ⟨rfl, b6⟩; have B6 := hide ((unhide B5).trans (b6.mono (unhide B5).size)); clear b6))
          go_ret
          exact ⟨rfl, unhide B6⟩
        | false =>
          go_enter Try.func8, Try.ntmps8
          go_wp2_with (first
            | (go_at_call 19; refine (unhide F1).mono ?_; rintro e V ⟨rfl, rfl⟩)
            | (go_at_call 22; refine (nan_calls _).mono ?_; rintro e V3 ⟨rfl, rfl⟩)
            | (go_at_call 23; refine (ninf_calls _).mono ?_; rintro e V4 ⟨rfl, rfl⟩)
            | (have hV : B4 = B4 := rfl
               clear hV
               go_at_call 18; refine (unhide W5 _ (unhide B4)).mono ?_; rintro e V5 ⟨rfl, b5⟩; have B5 := hide ((unhide B4).trans (b5.mono (unhide B4).size)); clear b5)
            | (have hV : B3 = B3 := rfl
               clear hV
               go_at_call 18; refine (unhide W4 _ (unhide B3)).mono ?_; rintro e V4 ⟨rfl, b4⟩; have B4 := hide ((unhide B3).trans (b4.mono (unhide B3).size)); clear b4)
            | (have hV : B2 = B2 := rfl
               clear hV
               go_at_call 18; refine (unhide W3 _ (unhide B2)).mono ?_; rintro e V3 ⟨rfl, b3⟩; have B3 := hide ((unhide B2).trans (b3.mono (unhide B2).size)); clear b3)
            | (have hV : B1 = B1 := rfl
               clear hV
               go_at_call 18; refine (unhide W2 _ (unhide B1)).mono ?_; rintro e V2 ⟨rfl, b2⟩; have B2 := hide ((unhide B1).trans (b2.mono (unhide B1).size)); clear b2)
            | (go_at_call 18; refine (unhide W1 _ (Below.refl _ _)).mono ?_; rintro e V1 ⟨rfl, b1⟩; have B1 := hide b1; clear b1)
            | (go_at_call 12; refine (live10_calls _).mono ?_; rintro e V6 ⟨rfl, b6⟩; have B6 := hide ((unhide B5).trans (b6.mono (unhide B5).size)); clear b6))
          go_ret
          exact ⟨rfl, unhide B6⟩
      | false =>
        cases h0 : (FloatKind.f64.format.order q 0 == some Ordering.lt) with
        | true =>
          go_enter Try.func8, Try.ntmps8
          go_wp2_with (first
            | (go_at_call 19; refine (unhide F1).mono ?_; rintro e V ⟨rfl, rfl⟩)
            | (go_at_call 22; refine (nan_calls _).mono ?_; rintro e V3 ⟨rfl, rfl⟩)
            | (go_at_call 23; refine (ninf_calls _).mono ?_; rintro e V4 ⟨rfl, rfl⟩)
            | (have hV : B4 = B4 := rfl
               clear hV
               go_at_call 18; refine (unhide W5 _ (unhide B4)).mono ?_; rintro e V5 ⟨rfl, b5⟩; have B5 := hide ((unhide B4).trans (b5.mono (unhide B4).size)); clear b5)
            | (have hV : B3 = B3 := rfl
               clear hV
               go_at_call 18; refine (unhide W4 _ (unhide B3)).mono ?_; rintro e V4 ⟨rfl, b4⟩; have B4 := hide ((unhide B3).trans (b4.mono (unhide B3).size)); clear b4)
            | (have hV : B2 = B2 := rfl
               clear hV
               go_at_call 18; refine (unhide W3 _ (unhide B2)).mono ?_; rintro e V3 ⟨rfl, b3⟩; have B3 := hide ((unhide B2).trans (b3.mono (unhide B2).size)); clear b3)
            | (have hV : B1 = B1 := rfl
               clear hV
               go_at_call 18; refine (unhide W2 _ (unhide B1)).mono ?_; rintro e V2 ⟨rfl, b2⟩; have B2 := hide ((unhide B1).trans (b2.mono (unhide B1).size)); clear b2)
            | (go_at_call 18; refine (unhide W1 _ (Below.refl _ _)).mono ?_; rintro e V1 ⟨rfl, b1⟩; have B1 := hide b1; clear b1)
            | (go_at_call 12; refine (live10_calls _).mono ?_; rintro e V6 ⟨rfl, b6⟩; have B6 := hide ((unhide B5).trans (b6.mono (unhide B5).size)); clear b6))
          go_ret
          exact ⟨rfl, unhide B6⟩
        | false =>
          go_enter Try.func8, Try.ntmps8
          go_wp2_with (first
            | (go_at_call 19; refine (unhide F1).mono ?_; rintro e V ⟨rfl, rfl⟩)
            | (go_at_call 22; refine (nan_calls _).mono ?_; rintro e V3 ⟨rfl, rfl⟩)
            | (go_at_call 23; refine (ninf_calls _).mono ?_; rintro e V4 ⟨rfl, rfl⟩)
            | (have hV : B4 = B4 := rfl
               clear hV
               go_at_call 18; refine (unhide W5 _ (unhide B4)).mono ?_; rintro e V5 ⟨rfl, b5⟩; have B5 := hide ((unhide B4).trans (b5.mono (unhide B4).size)); clear b5)
            | (have hV : B3 = B3 := rfl
               clear hV
               go_at_call 18; refine (unhide W4 _ (unhide B3)).mono ?_; rintro e V4 ⟨rfl, b4⟩; have B4 := hide ((unhide B3).trans (b4.mono (unhide B3).size)); clear b4)
            | (have hV : B2 = B2 := rfl
               clear hV
               go_at_call 18; refine (unhide W3 _ (unhide B2)).mono ?_; rintro e V3 ⟨rfl, b3⟩; have B3 := hide ((unhide B2).trans (b3.mono (unhide B2).size)); clear b3)
            | (have hV : B1 = B1 := rfl
               clear hV
               go_at_call 18; refine (unhide W2 _ (unhide B1)).mono ?_; rintro e V2 ⟨rfl, b2⟩; have B2 := hide ((unhide B1).trans (b2.mono (unhide B1).size)); clear b2)
            | (go_at_call 18; refine (unhide W1 _ (Below.refl _ _)).mono ?_; rintro e V1 ⟨rfl, b1⟩; have B1 := hide b1; clear b1)
            | (go_at_call 12; refine (live10_calls _).mono ?_; rintro e V6 ⟨rfl, b6⟩; have B6 := hide ((unhide B5).trans (b6.mono (unhide B5).size)); clear b6))
          go_ret
          exact ⟨rfl, unhide B6⟩
    · rw [if_neg hs] at W1 W2 W3 W4 W5
      have M1 := hide (fun h => unhide TM q p hq hp h)
      have M0 := hide (fun h => unhide TO q (unhide LB q hq h))
      unfold firstV at W1 W2 W3 W4 W5
      clear WC WN TM TO T1 T2 LB hs
      generalize takeN l 0 = z at *
      generalize takeN l q = i at *
      generalize takeN l p = k at *
      cases hab : (FloatKind.f64.format.order q p == some Ordering.lt || FloatKind.f64.format.order q p == some Ordering.eq) with
      | true =>
        have m1 := unhide M1 hab
        have m2 : (i : Int) ≤ (k : Int) := by omega
        cases h0 : (FloatKind.f64.format.order q 0 == some Ordering.lt) with
        | true =>
          have m3 : (i : Int) = (z : Int) := by have := unhide M0 h0; omega
          clear m1
          go_enter Try.func8, Try.ntmps8
          go_wp2_with (first
            | (go_at_call 19; refine (unhide F1).mono ?_; rintro e V ⟨rfl, rfl⟩)
            | (go_at_call 22; refine (nan_calls _).mono ?_; rintro e V3 ⟨rfl, rfl⟩)
            | (go_at_call 23; refine (ninf_calls _).mono ?_; rintro e V4 ⟨rfl, rfl⟩)
            | (have hV : B4 = B4 := rfl
               clear hV
               go_at_call 18; refine (unhide W5 _ (unhide B4)).mono ?_; rintro e V5 ⟨rfl, b5⟩; have B5 := hide ((unhide B4).trans (b5.mono (unhide B4).size)); clear b5)
            | (have hV : B3 = B3 := rfl
               clear hV
               go_at_call 18; refine (unhide W4 _ (unhide B3)).mono ?_; rintro e V4 ⟨rfl, b4⟩; have B4 := hide ((unhide B3).trans (b4.mono (unhide B3).size)); clear b4)
            | (have hV : B2 = B2 := rfl
               clear hV
               go_at_call 18; refine (unhide W3 _ (unhide B2)).mono ?_; rintro e V3 ⟨rfl, b3⟩; have B3 := hide ((unhide B2).trans (b3.mono (unhide B2).size)); clear b3)
            | (have hV : B1 = B1 := rfl
               clear hV
               go_at_call 18; refine (unhide W2 _ (unhide B1)).mono ?_; rintro e V2 ⟨rfl, b2⟩; have B2 := hide ((unhide B1).trans (b2.mono (unhide B1).size)); clear b2)
            | (go_at_call 18; refine (unhide W1 _ (Below.refl _ _)).mono ?_; rintro e V1 ⟨rfl, b1⟩; have B1 := hide b1; clear b1)
            | (go_at_call 12; refine (live10_calls _).mono ?_; rintro e V6 ⟨rfl, b6⟩; have B6 := hide ((unhide B5).trans (b6.mono (unhide B5).size)); clear b6))
          go_ret
          exact ⟨rfl, unhide B6⟩
        | false =>
          clear m1
          go_enter Try.func8, Try.ntmps8
          go_wp2_with (first
            | (go_at_call 19; refine (unhide F1).mono ?_; rintro e V ⟨rfl, rfl⟩)
            | (go_at_call 22; refine (nan_calls _).mono ?_; rintro e V3 ⟨rfl, rfl⟩)
            | (go_at_call 23; refine (ninf_calls _).mono ?_; rintro e V4 ⟨rfl, rfl⟩)
            | (have hV : B4 = B4 := rfl
               clear hV
               go_at_call 18; refine (unhide W5 _ (unhide B4)).mono ?_; rintro e V5 ⟨rfl, b5⟩; have B5 := hide ((unhide B4).trans (b5.mono (unhide B4).size)); clear b5)
            | (have hV : B3 = B3 := rfl
               clear hV
               go_at_call 18; refine (unhide W4 _ (unhide B3)).mono ?_; rintro e V4 ⟨rfl, b4⟩; have B4 := hide ((unhide B3).trans (b4.mono (unhide B3).size)); clear b4)
            | (have hV : B2 = B2 := rfl
               clear hV
               go_at_call 18; refine (unhide W3 _ (unhide B2)).mono ?_; rintro e V3 ⟨rfl, b3⟩; have B3 := hide ((unhide B2).trans (b3.mono (unhide B2).size)); clear b3)
            | (have hV : B1 = B1 := rfl
               clear hV
               go_at_call 18; refine (unhide W2 _ (unhide B1)).mono ?_; rintro e V2 ⟨rfl, b2⟩; have B2 := hide ((unhide B1).trans (b2.mono (unhide B1).size)); clear b2)
            | (go_at_call 18; refine (unhide W1 _ (Below.refl _ _)).mono ?_; rintro e V1 ⟨rfl, b1⟩; have B1 := hide b1; clear b1)
            | (go_at_call 12; refine (live10_calls _).mono ?_; rintro e V6 ⟨rfl, b6⟩; have B6 := hide ((unhide B5).trans (b6.mono (unhide B5).size)); clear b6))
          go_ret
          exact ⟨rfl, unhide B6⟩
      | false =>
        cases h0 : (FloatKind.f64.format.order q 0 == some Ordering.lt) with
        | true =>
          have m3 : (i : Int) = (z : Int) := by have := unhide M0 h0; omega
          go_enter Try.func8, Try.ntmps8
          go_wp2_with (first
            | (go_at_call 19; refine (unhide F1).mono ?_; rintro e V ⟨rfl, rfl⟩)
            | (go_at_call 22; refine (nan_calls _).mono ?_; rintro e V3 ⟨rfl, rfl⟩)
            | (go_at_call 23; refine (ninf_calls _).mono ?_; rintro e V4 ⟨rfl, rfl⟩)
            | (have hV : B4 = B4 := rfl
               clear hV
               go_at_call 18; refine (unhide W5 _ (unhide B4)).mono ?_; rintro e V5 ⟨rfl, b5⟩; have B5 := hide ((unhide B4).trans (b5.mono (unhide B4).size)); clear b5)
            | (have hV : B3 = B3 := rfl
               clear hV
               go_at_call 18; refine (unhide W4 _ (unhide B3)).mono ?_; rintro e V4 ⟨rfl, b4⟩; have B4 := hide ((unhide B3).trans (b4.mono (unhide B3).size)); clear b4)
            | (have hV : B2 = B2 := rfl
               clear hV
               go_at_call 18; refine (unhide W3 _ (unhide B2)).mono ?_; rintro e V3 ⟨rfl, b3⟩; have B3 := hide ((unhide B2).trans (b3.mono (unhide B2).size)); clear b3)
            | (have hV : B1 = B1 := rfl
               clear hV
               go_at_call 18; refine (unhide W2 _ (unhide B1)).mono ?_; rintro e V2 ⟨rfl, b2⟩; have B2 := hide ((unhide B1).trans (b2.mono (unhide B1).size)); clear b2)
            | (go_at_call 18; refine (unhide W1 _ (Below.refl _ _)).mono ?_; rintro e V1 ⟨rfl, b1⟩; have B1 := hide b1; clear b1)
            | (go_at_call 12; refine (live10_calls _).mono ?_; rintro e V6 ⟨rfl, b6⟩; have B6 := hide ((unhide B5).trans (b6.mono (unhide B5).size)); clear b6))
          go_ret
          exact ⟨rfl, unhide B6⟩
        | false =>
          go_enter Try.func8, Try.ntmps8
          go_wp2_with (first
            | (go_at_call 19; refine (unhide F1).mono ?_; rintro e V ⟨rfl, rfl⟩)
            | (go_at_call 22; refine (nan_calls _).mono ?_; rintro e V3 ⟨rfl, rfl⟩)
            | (go_at_call 23; refine (ninf_calls _).mono ?_; rintro e V4 ⟨rfl, rfl⟩)
            | (have hV : B4 = B4 := rfl
               clear hV
               go_at_call 18; refine (unhide W5 _ (unhide B4)).mono ?_; rintro e V5 ⟨rfl, b5⟩; have B5 := hide ((unhide B4).trans (b5.mono (unhide B4).size)); clear b5)
            | (have hV : B3 = B3 := rfl
               clear hV
               go_at_call 18; refine (unhide W4 _ (unhide B3)).mono ?_; rintro e V4 ⟨rfl, b4⟩; have B4 := hide ((unhide B3).trans (b4.mono (unhide B3).size)); clear b4)
            | (have hV : B2 = B2 := rfl
               clear hV
               go_at_call 18; refine (unhide W3 _ (unhide B2)).mono ?_; rintro e V3 ⟨rfl, b3⟩; have B3 := hide ((unhide B2).trans (b3.mono (unhide B2).size)); clear b3)
            | (have hV : B1 = B1 := rfl
               clear hV
               go_at_call 18; refine (unhide W2 _ (unhide B1)).mono ?_; rintro e V2 ⟨rfl, b2⟩; have B2 := hide ((unhide B1).trans (b2.mono (unhide B1).size)); clear b2)
            | (go_at_call 18; refine (unhide W1 _ (Below.refl _ _)).mono ?_; rintro e V1 ⟨rfl, b1⟩; have B1 := hide b1; clear b1)
            | (go_at_call 12; refine (live10_calls _).mono ?_; rintro e V6 ⟨rfl, b6⟩; have B6 := hide ((unhide B5).trans (b6.mono (unhide B5).size)); clear b6))
          go_ret
          exact ⟨rfl, unhide B6⟩
  | false =>
    have W1 := hide (fun W hb => unhide WC W hb p hp)
    have W2 := hide (fun W hb => unhide WC W hb q hq)
    have W3 := hide (fun W hb => unhide WC W hb 0 (by decide))
    have W4 := hide (fun W hb => unhide WC W hb 9221120237041090561 (by decide))
    have W5 := hide (fun W hb => unhide WC W hb 18442240474082181120 (by decide))
    rw [unhide WN] at W1 W2 W3 W4 W5
    rw [unhide T1] at W4
    rw [unhide T2] at W5
    by_cases hs : sumN (scaleN l) l = 0
    · rw [if_pos hs] at W1 W2 W3 W4 W5
      unfold firstV at W1 W2 W3 W4 W5
      clear WC WN TM TO T1 T2 LB hs
      cases hab : (FloatKind.f64.format.order p q == some Ordering.lt || FloatKind.f64.format.order p q == some Ordering.eq) with
      | true =>
        cases h0 : (FloatKind.f64.format.order p 0 == some Ordering.lt) with
        | true =>
          go_enter Try.func8, Try.ntmps8
          go_wp2_with (first
            | (go_at_call 19; refine (unhide F1).mono ?_; rintro e V ⟨rfl, rfl⟩)
            | (go_at_call 22; refine (nan_calls _).mono ?_; rintro e V3 ⟨rfl, rfl⟩)
            | (go_at_call 23; refine (ninf_calls _).mono ?_; rintro e V4 ⟨rfl, rfl⟩)
            | (have hV : B4 = B4 := rfl
               clear hV
               go_at_call 18; refine (unhide W5 _ (unhide B4)).mono ?_; rintro e V5 ⟨rfl, b5⟩; have B5 := hide ((unhide B4).trans (b5.mono (unhide B4).size)); clear b5)
            | (have hV : B3 = B3 := rfl
               clear hV
               go_at_call 18; refine (unhide W4 _ (unhide B3)).mono ?_; rintro e V4 ⟨rfl, b4⟩; have B4 := hide ((unhide B3).trans (b4.mono (unhide B3).size)); clear b4)
            | (have hV : B2 = B2 := rfl
               clear hV
               go_at_call 18; refine (unhide W3 _ (unhide B2)).mono ?_; rintro e V3 ⟨rfl, b3⟩; have B3 := hide ((unhide B2).trans (b3.mono (unhide B2).size)); clear b3)
            | (have hV : B1 = B1 := rfl
               clear hV
               go_at_call 18; refine (unhide W2 _ (unhide B1)).mono ?_; rintro e V2 ⟨rfl, b2⟩; have B2 := hide ((unhide B1).trans (b2.mono (unhide B1).size)); clear b2)
            | (go_at_call 18; refine (unhide W1 _ (Below.refl _ _)).mono ?_; rintro e V1 ⟨rfl, b1⟩; have B1 := hide b1; clear b1)
            | (go_at_call 12; refine (live10_calls _).mono ?_; rintro e V6 ⟨rfl, b6⟩; have B6 := hide ((unhide B5).trans (b6.mono (unhide B5).size)); clear b6))
          go_ret
          exact ⟨rfl, unhide B6⟩
        | false =>
          go_enter Try.func8, Try.ntmps8
          go_wp2_with (first
            | (go_at_call 19; refine (unhide F1).mono ?_; rintro e V ⟨rfl, rfl⟩)
            | (go_at_call 22; refine (nan_calls _).mono ?_; rintro e V3 ⟨rfl, rfl⟩)
            | (go_at_call 23; refine (ninf_calls _).mono ?_; rintro e V4 ⟨rfl, rfl⟩)
            | (have hV : B4 = B4 := rfl
               clear hV
               go_at_call 18; refine (unhide W5 _ (unhide B4)).mono ?_; rintro e V5 ⟨rfl, b5⟩; have B5 := hide ((unhide B4).trans (b5.mono (unhide B4).size)); clear b5)
            | (have hV : B3 = B3 := rfl
               clear hV
               go_at_call 18; refine (unhide W4 _ (unhide B3)).mono ?_; rintro e V4 ⟨rfl, b4⟩; have B4 := hide ((unhide B3).trans (b4.mono (unhide B3).size)); clear b4)
            | (have hV : B2 = B2 := rfl
               clear hV
               go_at_call 18; refine (unhide W3 _ (unhide B2)).mono ?_; rintro e V3 ⟨rfl, b3⟩; have B3 := hide ((unhide B2).trans (b3.mono (unhide B2).size)); clear b3)
            | (have hV : B1 = B1 := rfl
               clear hV
               go_at_call 18; refine (unhide W2 _ (unhide B1)).mono ?_; rintro e V2 ⟨rfl, b2⟩; have B2 := hide ((unhide B1).trans (b2.mono (unhide B1).size)); clear b2)
            | (go_at_call 18; refine (unhide W1 _ (Below.refl _ _)).mono ?_; rintro e V1 ⟨rfl, b1⟩; have B1 := hide b1; clear b1)
            | (go_at_call 12; refine (live10_calls _).mono ?_; rintro e V6 ⟨rfl, b6⟩; have B6 := hide ((unhide B5).trans (b6.mono (unhide B5).size)); clear b6))
          go_ret
          exact ⟨rfl, unhide B6⟩
      | false =>
        cases h0 : (FloatKind.f64.format.order p 0 == some Ordering.lt) with
        | true =>
          go_enter Try.func8, Try.ntmps8
          go_wp2_with (first
            | (go_at_call 19; refine (unhide F1).mono ?_; rintro e V ⟨rfl, rfl⟩)
            | (go_at_call 22; refine (nan_calls _).mono ?_; rintro e V3 ⟨rfl, rfl⟩)
            | (go_at_call 23; refine (ninf_calls _).mono ?_; rintro e V4 ⟨rfl, rfl⟩)
            | (have hV : B4 = B4 := rfl
               clear hV
               go_at_call 18; refine (unhide W5 _ (unhide B4)).mono ?_; rintro e V5 ⟨rfl, b5⟩; have B5 := hide ((unhide B4).trans (b5.mono (unhide B4).size)); clear b5)
            | (have hV : B3 = B3 := rfl
               clear hV
               go_at_call 18; refine (unhide W4 _ (unhide B3)).mono ?_; rintro e V4 ⟨rfl, b4⟩; have B4 := hide ((unhide B3).trans (b4.mono (unhide B3).size)); clear b4)
            | (have hV : B2 = B2 := rfl
               clear hV
               go_at_call 18; refine (unhide W3 _ (unhide B2)).mono ?_; rintro e V3 ⟨rfl, b3⟩; have B3 := hide ((unhide B2).trans (b3.mono (unhide B2).size)); clear b3)
            | (have hV : B1 = B1 := rfl
               clear hV
               go_at_call 18; refine (unhide W2 _ (unhide B1)).mono ?_; rintro e V2 ⟨rfl, b2⟩; have B2 := hide ((unhide B1).trans (b2.mono (unhide B1).size)); clear b2)
            | (go_at_call 18; refine (unhide W1 _ (Below.refl _ _)).mono ?_; rintro e V1 ⟨rfl, b1⟩; have B1 := hide b1; clear b1)
            | (go_at_call 12; refine (live10_calls _).mono ?_; rintro e V6 ⟨rfl, b6⟩; have B6 := hide ((unhide B5).trans (b6.mono (unhide B5).size)); clear b6))
          go_ret
          exact ⟨rfl, unhide B6⟩
        | false =>
          go_enter Try.func8, Try.ntmps8
          go_wp2_with (first
            | (go_at_call 19; refine (unhide F1).mono ?_; rintro e V ⟨rfl, rfl⟩)
            | (go_at_call 22; refine (nan_calls _).mono ?_; rintro e V3 ⟨rfl, rfl⟩)
            | (go_at_call 23; refine (ninf_calls _).mono ?_; rintro e V4 ⟨rfl, rfl⟩)
            | (have hV : B4 = B4 := rfl
               clear hV
               go_at_call 18; refine (unhide W5 _ (unhide B4)).mono ?_; rintro e V5 ⟨rfl, b5⟩; have B5 := hide ((unhide B4).trans (b5.mono (unhide B4).size)); clear b5)
            | (have hV : B3 = B3 := rfl
               clear hV
               go_at_call 18; refine (unhide W4 _ (unhide B3)).mono ?_; rintro e V4 ⟨rfl, b4⟩; have B4 := hide ((unhide B3).trans (b4.mono (unhide B3).size)); clear b4)
            | (have hV : B2 = B2 := rfl
               clear hV
               go_at_call 18; refine (unhide W3 _ (unhide B2)).mono ?_; rintro e V3 ⟨rfl, b3⟩; have B3 := hide ((unhide B2).trans (b3.mono (unhide B2).size)); clear b3)
            | (have hV : B1 = B1 := rfl
               clear hV
               go_at_call 18; refine (unhide W2 _ (unhide B1)).mono ?_; rintro e V2 ⟨rfl, b2⟩; have B2 := hide ((unhide B1).trans (b2.mono (unhide B1).size)); clear b2)
            | (go_at_call 18; refine (unhide W1 _ (Below.refl _ _)).mono ?_; rintro e V1 ⟨rfl, b1⟩; have B1 := hide b1; clear b1)
            | (go_at_call 12; refine (live10_calls _).mono ?_; rintro e V6 ⟨rfl, b6⟩; have B6 := hide ((unhide B5).trans (b6.mono (unhide B5).size)); clear b6))
          go_ret
          exact ⟨rfl, unhide B6⟩
    · rw [if_neg hs] at W1 W2 W3 W4 W5
      have M1 := hide (fun h => unhide TM p q hp hq h)
      have M0 := hide (fun h => unhide TO p (unhide LB p hp h))
      unfold firstV at W1 W2 W3 W4 W5
      clear WC WN TM TO T1 T2 LB hs
      generalize takeN l 0 = z at *
      generalize takeN l p = i at *
      generalize takeN l q = k at *
      cases hab : (FloatKind.f64.format.order p q == some Ordering.lt || FloatKind.f64.format.order p q == some Ordering.eq) with
      | true =>
        have m1 := unhide M1 hab
        have m2 : (i : Int) ≤ (k : Int) := by omega
        cases h0 : (FloatKind.f64.format.order p 0 == some Ordering.lt) with
        | true =>
          have m3 : (i : Int) = (z : Int) := by have := unhide M0 h0; omega
          clear m1
          go_enter Try.func8, Try.ntmps8
          go_wp2_with (first
            | (go_at_call 19; refine (unhide F1).mono ?_; rintro e V ⟨rfl, rfl⟩)
            | (go_at_call 22; refine (nan_calls _).mono ?_; rintro e V3 ⟨rfl, rfl⟩)
            | (go_at_call 23; refine (ninf_calls _).mono ?_; rintro e V4 ⟨rfl, rfl⟩)
            | (have hV : B4 = B4 := rfl
               clear hV
               go_at_call 18; refine (unhide W5 _ (unhide B4)).mono ?_; rintro e V5 ⟨rfl, b5⟩; have B5 := hide ((unhide B4).trans (b5.mono (unhide B4).size)); clear b5)
            | (have hV : B3 = B3 := rfl
               clear hV
               go_at_call 18; refine (unhide W4 _ (unhide B3)).mono ?_; rintro e V4 ⟨rfl, b4⟩; have B4 := hide ((unhide B3).trans (b4.mono (unhide B3).size)); clear b4)
            | (have hV : B2 = B2 := rfl
               clear hV
               go_at_call 18; refine (unhide W3 _ (unhide B2)).mono ?_; rintro e V3 ⟨rfl, b3⟩; have B3 := hide ((unhide B2).trans (b3.mono (unhide B2).size)); clear b3)
            | (have hV : B1 = B1 := rfl
               clear hV
               go_at_call 18; refine (unhide W2 _ (unhide B1)).mono ?_; rintro e V2 ⟨rfl, b2⟩; have B2 := hide ((unhide B1).trans (b2.mono (unhide B1).size)); clear b2)
            | (go_at_call 18; refine (unhide W1 _ (Below.refl _ _)).mono ?_; rintro e V1 ⟨rfl, b1⟩; have B1 := hide b1; clear b1)
            | (go_at_call 12; refine (live10_calls _).mono ?_; rintro e V6 ⟨rfl, b6⟩; have B6 := hide ((unhide B5).trans (b6.mono (unhide B5).size)); clear b6))
          go_ret
          exact ⟨rfl, unhide B6⟩
        | false =>
          clear m1
          go_enter Try.func8, Try.ntmps8
          go_wp2_with (first
            | (go_at_call 19; refine (unhide F1).mono ?_; rintro e V ⟨rfl, rfl⟩)
            | (go_at_call 22; refine (nan_calls _).mono ?_; rintro e V3 ⟨rfl, rfl⟩)
            | (go_at_call 23; refine (ninf_calls _).mono ?_; rintro e V4 ⟨rfl, rfl⟩)
            | (have hV : B4 = B4 := rfl
               clear hV
               go_at_call 18; refine (unhide W5 _ (unhide B4)).mono ?_; rintro e V5 ⟨rfl, b5⟩; have B5 := hide ((unhide B4).trans (b5.mono (unhide B4).size)); clear b5)
            | (have hV : B3 = B3 := rfl
               clear hV
               go_at_call 18; refine (unhide W4 _ (unhide B3)).mono ?_; rintro e V4 ⟨rfl, b4⟩; have B4 := hide ((unhide B3).trans (b4.mono (unhide B3).size)); clear b4)
            | (have hV : B2 = B2 := rfl
               clear hV
               go_at_call 18; refine (unhide W3 _ (unhide B2)).mono ?_; rintro e V3 ⟨rfl, b3⟩; have B3 := hide ((unhide B2).trans (b3.mono (unhide B2).size)); clear b3)
            | (have hV : B1 = B1 := rfl
               clear hV
               go_at_call 18; refine (unhide W2 _ (unhide B1)).mono ?_; rintro e V2 ⟨rfl, b2⟩; have B2 := hide ((unhide B1).trans (b2.mono (unhide B1).size)); clear b2)
            | (go_at_call 18; refine (unhide W1 _ (Below.refl _ _)).mono ?_; rintro e V1 ⟨rfl, b1⟩; have B1 := hide b1; clear b1)
            | (go_at_call 12; refine (live10_calls _).mono ?_; rintro e V6 ⟨rfl, b6⟩; have B6 := hide ((unhide B5).trans (b6.mono (unhide B5).size)); clear b6))
          go_ret
          exact ⟨rfl, unhide B6⟩
      | false =>
        cases h0 : (FloatKind.f64.format.order p 0 == some Ordering.lt) with
        | true =>
          have m3 : (i : Int) = (z : Int) := by have := unhide M0 h0; omega
          go_enter Try.func8, Try.ntmps8
          go_wp2_with (first
            | (go_at_call 19; refine (unhide F1).mono ?_; rintro e V ⟨rfl, rfl⟩)
            | (go_at_call 22; refine (nan_calls _).mono ?_; rintro e V3 ⟨rfl, rfl⟩)
            | (go_at_call 23; refine (ninf_calls _).mono ?_; rintro e V4 ⟨rfl, rfl⟩)
            | (have hV : B4 = B4 := rfl
               clear hV
               go_at_call 18; refine (unhide W5 _ (unhide B4)).mono ?_; rintro e V5 ⟨rfl, b5⟩; have B5 := hide ((unhide B4).trans (b5.mono (unhide B4).size)); clear b5)
            | (have hV : B3 = B3 := rfl
               clear hV
               go_at_call 18; refine (unhide W4 _ (unhide B3)).mono ?_; rintro e V4 ⟨rfl, b4⟩; have B4 := hide ((unhide B3).trans (b4.mono (unhide B3).size)); clear b4)
            | (have hV : B2 = B2 := rfl
               clear hV
               go_at_call 18; refine (unhide W3 _ (unhide B2)).mono ?_; rintro e V3 ⟨rfl, b3⟩; have B3 := hide ((unhide B2).trans (b3.mono (unhide B2).size)); clear b3)
            | (have hV : B1 = B1 := rfl
               clear hV
               go_at_call 18; refine (unhide W2 _ (unhide B1)).mono ?_; rintro e V2 ⟨rfl, b2⟩; have B2 := hide ((unhide B1).trans (b2.mono (unhide B1).size)); clear b2)
            | (go_at_call 18; refine (unhide W1 _ (Below.refl _ _)).mono ?_; rintro e V1 ⟨rfl, b1⟩; have B1 := hide b1; clear b1)
            | (go_at_call 12; refine (live10_calls _).mono ?_; rintro e V6 ⟨rfl, b6⟩; have B6 := hide ((unhide B5).trans (b6.mono (unhide B5).size)); clear b6))
          go_ret
          exact ⟨rfl, unhide B6⟩
        | false =>
          go_enter Try.func8, Try.ntmps8
          go_wp2_with (first
            | (go_at_call 19; refine (unhide F1).mono ?_; rintro e V ⟨rfl, rfl⟩)
            | (go_at_call 22; refine (nan_calls _).mono ?_; rintro e V3 ⟨rfl, rfl⟩)
            | (go_at_call 23; refine (ninf_calls _).mono ?_; rintro e V4 ⟨rfl, rfl⟩)
            | (have hV : B4 = B4 := rfl
               clear hV
               go_at_call 18; refine (unhide W5 _ (unhide B4)).mono ?_; rintro e V5 ⟨rfl, b5⟩; have B5 := hide ((unhide B4).trans (b5.mono (unhide B4).size)); clear b5)
            | (have hV : B3 = B3 := rfl
               clear hV
               go_at_call 18; refine (unhide W4 _ (unhide B3)).mono ?_; rintro e V4 ⟨rfl, b4⟩; have B4 := hide ((unhide B3).trans (b4.mono (unhide B3).size)); clear b4)
            | (have hV : B2 = B2 := rfl
               clear hV
               go_at_call 18; refine (unhide W3 _ (unhide B2)).mono ?_; rintro e V3 ⟨rfl, b3⟩; have B3 := hide ((unhide B2).trans (b3.mono (unhide B2).size)); clear b3)
            | (have hV : B1 = B1 := rfl
               clear hV
               go_at_call 18; refine (unhide W2 _ (unhide B1)).mono ?_; rintro e V2 ⟨rfl, b2⟩; have B2 := hide ((unhide B1).trans (b2.mono (unhide B1).size)); clear b2)
            | (go_at_call 18; refine (unhide W1 _ (Below.refl _ _)).mono ?_; rintro e V1 ⟨rfl, b1⟩; have B1 := hide b1; clear b1)
            | (go_at_call 12; refine (live10_calls _).mono ?_; rintro e V6 ⟨rfl, b6⟩; have B6 := hide ((unhide B5).trans (b6.mono (unhide B5).size)); clear b6))
          go_ret
          exact ⟨rfl, unhide B6⟩

set_option maxRecDepth 100000 in
theorem lifted (os : Os) (started : os.Started) (H : Type) (enc : TypeId × Value → H) :
    ReturnsInHanded {} Try.checked os 8 .any (Rows.planeRisesSpec.pre6 enc Try.prog Try.f8 Rows.planeRisesRow.domain false) (Rows.planeRisesSpec.post enc Try.prog Try.f8 false true false false) := by
  refine returnsInHanded_of_change_sized (C := Try.checked) own started (by kernel_rfl) Try.func8
    (ChangeSpec.witness6 (enc := enc) (C := Try.checked) false ⟨#[], #[.slice none 0 0, .float .f64 0, .float .f64 0], []⟩ 8 (by kernel_rfl) (by kernel_rfl) (by kernel_rfl) (by kernel_rfl)) ?_
  intro W base args ds gs before hval0 hW hcnd hsz _
  have hval : ∀ (j : Nat) t v, Try.f8.params[j]? = some t → args[j]? = some v → Value.okWide Try.prog W .any base t v := hval0
  have hW' := hW
  obtain ⟨p, q, hA0, hV, rfl, hfz, hnd⟩ := hW
  have hA : DataW.TrodAll enc Try.prog W 0 (fun _ => true) true Try.f8.params.toList args.toList ds p := hA0
  rw [Try.params8] at hA hval
  obtain ⟨v0, vs0, d0, ds0, p0, q0, hargs, rfl, rfl, h0, r0⟩ := trodAll_cons hA
  obtain ⟨v1, vs1, d1, ds1, p1, q1, rfl, rfl, rfl, h1, r1⟩ := trodAll_cons r0
  obtain ⟨v2, vs2, d2, ds2, p2, q2, rfl, rfl, rfl, h2, r2⟩ := trodAll_cons r1
  obtain ⟨rfl, rfl, rfl⟩ := trodAll_nil r2
  obtain rfl : args = #[v0, v1, v2] := by cases args; simp_all
  obtain ⟨rfl, rfl⟩ := trodVars_none hV
  obtain ⟨a0, len0, c0, rfl⟩ := okWide_slice Try.underlying37 (hval 0 37 v0 rfl rfl)
  have k0 := h0
  have lt0 : ∀ x ∈ p0, x.block < W.heap.size := by obtain ⟨m, hm⟩ := k0; exact DataW.trod_lt m _ _ _ hm
  obtain ⟨l0, rfl, hx0, hb0⟩ := targets_arg h0
  obtain ⟨n1, rfl, rfl, rfl, w1⟩ := open_float Try.underlying38 (hval 1 38 v1 rfl rfl) h1
  have hn1 := f64_lt w1
  obtain ⟨n2, rfl, rfl, rfl, w2⟩ := open_float Try.underlying38 (hval 2 38 v2 rfl rfl) h2
  have hn2 := f64_lt w2
  clear hA0 hval0
  refine (walk a0 c0 l0 n1 n2 W hx0 hb0 hn1 hn2).mono fun e W' ⟨he, bel⟩ => ?_
  subst he
  exact ⟨_, rfl, _, _, _, [], _, [], hW', trodAll_mk1 (shut_bool Try.underlying4 _), (trodAll_cons_mk (Below.trod laidOut (by kernel_rfl) (of_decide_eq_true (by kernel_rfl)) k0 bel lt0) (trodAll_cons_mk (shut_float Try.underlying38 w1) (trodAll_cons_mk (shut_float Try.underlying38 w2) trodAll_mk0))), rfl, bel.frame _, fun h => by cases h⟩

theorem proved : Rows.PlaneRisesSaid :=
  OpenClaim.holds_of_wide 8 Try.f8 rfl rfl rfl rfl rfl rfl rfl ⟨rfl, rfl, rfl, rfl, rfl⟩ rfl rfl rfl rfl rfl (by kernel_rfl) Try.func8 (by kernel_rfl)
    (of_decide_eq_true (by kernel_rfl)) (by unfold Func.isWrapper; first | (rw [if_pos (by decide +kernel)]; kernel_rfl) | (rw [if_neg (by decide +kernel)]; exact ⟨rfl, rfl⟩))
    (fun os started H enc _ => lifted os started H enc)
end Go.Proofs.Ytfopobdbkbcnnaa.planeRises
namespace Go.Proofs.Ytfopobdbkbcnnaa
theorem planeRises_holds : Rows.PlaneRisesSaid := planeRises.proved
#print axioms planeRises_holds
end Go.Proofs.Ytfopobdbkbcnnaa
