/- Plane: the target that a draw takes, by the document. -/
import Derived.Test.YtcmiappiocfbiaaGreatDoorB16
import Derived.Test.YtcmiappiocfbiaaGreatDoorB01
section
namespace Go.Proofs.YtcmiappiocfbiaaGreatDoor
open Go.ChangeShapes Go.WideShapes Go.ChangeAt Go.RowKit

theorem sub_self_is (x : Nat) (hx : x < fI) : Ieee.double.sub x x = some 0 := by
  obtain ⟨m, i, e, _⟩ := read_val x hx
  unfold Ieee.Format.sub
  rw [e]
  simp only [Ieee.Datum.opposite, Ieee.Datum.sum, signed_pos, signed_neg, Option.map_some, Bool.not_false]
  have hz : ((m * 2 ^ (-1074 + (i : Int) - min (-1074 + (i : Int)) (-1074 + (i : Int))).toNat : Nat) : Int) + -((m * 2 ^ (-1074 + (i : Int) - min (-1074 + (i : Int)) (-1074 + (i : Int))).toNat : Nat) : Int) = 0 := by omega
  rw [hz]
  simp only [if_true, Bool.false_and, Int.natAbs_zero]
  unfold Ieee.Format.write Ieee.Format.nearest
  simp only [if_true]
  rw [word_is]
theorem run_subF (x : Nat) (hx : x < fI) (t : TypeId) (w : World) : (binOp .sub t (.float .f64 x) (.float .f64 x)).run Tryz.prog w = .ok (.float .f64 0) w := run_float_arith w .sub t .f64 x x _ (sub_self_is x hx)
theorem sub_inf : Ieee.double.sub fI fI = none := by
  unfold Ieee.Format.sub
  rw [read_inf]
  rfl
theorem run_subI (w : World) : ∃ r, (∀ t, (binOp .sub t (.float .f64 fI) (.float .f64 fI)).run Tryz.prog w = .ok (.float .f64 r) w.drew) ∧ (FloatKind.f64.format.order r 0 != some Ordering.eq) = true := by
  refine ⟨Question.cut (.nanBits .f64 fI fI) (w.tape w.drawn (.nanBits .f64 fI fI)), fun t => ?_, ?_⟩
  · have hs : FloatKind.f64.format.sub fI fI = none := sub_inf
    simp only [binOp, Op.floatArith]
    simp [hs, Question.forced]
  · generalize w.tape w.drawn (.nanBits .f64 fI fI) = q
    have hr : Question.cut (.nanBits .f64 fI fI) q = (q % 2) * 2 ^ 63 + 0x7ff0000000000000 + 1 + (q / 2) % (2 ^ 52 - 1) := rfl
    rw [hr]
    have h1 : (q / 2) % (2 ^ 52 - 1) < 2 ^ 52 - 1 := Nat.mod_lt _ (by decide)
    have h2 : q % 2 < 2 := Nat.mod_lt _ (by decide)
    generalize (q / 2) % (2 ^ 52 - 1) = f at *
    have hn : ∀ d, (∃ s g, Ieee.double.read d = .nan s g) → (FloatKind.f64.format.order d 0 != some Ordering.eq) = true := by
      rintro d ⟨s, g, e⟩
      show (Ieee.Datum.order (Ieee.double.read d) (Ieee.double.read 0) != some Ordering.eq) = true
      rw [e]
      rfl
    apply hn
    rcases (by omega : q % 2 = 0 ∨ q % 2 = 1) with h0 | h0
    · rw [h0]
      obtain ⟨g, e⟩ := read_nan (0 * 2 ^ 63 + 0x7ff0000000000000 + 1 + f) (by simp only [fI]; omega) (by omega)
      exact ⟨_, _, e⟩
    · rw [h0]
      rcases read_neg (1 * 2 ^ 63 + 0x7ff0000000000000 + 1 + f) (by omega) (by omega) with ⟨m, p, e, _⟩ | e | ⟨g, e⟩
      · exfalso
        unfold Ieee.Format.read at e
        simp only [sign_is, binade_is, infRung_is, leastPlace_is] at e
        have hm : (1 * 2 ^ 63 + 0x7ff0000000000000 + 1 + f) % 9223372036854775808 = 9218868437227405312 + 1 + f := by omega
        rw [hm, if_neg (by simp only [fB]; omega), if_neg (by simp only [fI]; omega), if_neg (by simp only [fI]; omega)] at e
        cases e
      · exfalso
        unfold Ieee.Format.read at e
        simp only [sign_is, binade_is, infRung_is, leastPlace_is] at e
        have hm : (1 * 2 ^ 63 + 0x7ff0000000000000 + 1 + f) % 9223372036854775808 = 9218868437227405312 + 1 + f := by omega
        rw [hm, if_neg (by simp only [fB]; omega), if_neg (by simp only [fI]; omega), if_neg (by simp only [fI]; omega)] at e
        cases e
      · exact ⟨_, _, e⟩
theorem self_is (s : Bool) (m : Nat) (p : Int) : Ieee.Datum.order (.number s m p) (.number s m p) = some Ordering.eq := by
  simp only [Ieee.Datum.order]
  rw [Int.compare_eq_eq.2 rfl]
/-- Draws that count as 0 by the document. -/
theorem odd_is (d : Nat) : ∃ b1 b2 : Bool, (FloatKind.f64.format.order d d != some Ordering.eq) = b1 ∧ (FloatKind.f64.format.order d 0 == some Ordering.lt) = b2 ∧ (b1 || b2) = !(FloatKind.f64.format.order d 0 == some Ordering.gt || FloatKind.f64.format.order d 0 == some Ordering.eq) := by
  refine ⟨_, _, rfl, rfl, ?_⟩
  show ((Ieee.Datum.order (Ieee.double.read d) (Ieee.double.read d) != some Ordering.eq) || (Ieee.Datum.order (Ieee.double.read d) (Ieee.double.read 0) == some Ordering.lt)) = !(Ieee.Datum.order (Ieee.double.read d) (Ieee.double.read 0) == some Ordering.gt || Ieee.Datum.order (Ieee.double.read d) (Ieee.double.read 0) == some Ordering.eq)
  have r0 : Ieee.double.read 0 = .number false 0 (-1074) := by decide
  rw [r0]
  generalize Ieee.double.read d = D
  cases D with
  | nan s f => rfl
  | infinity s => cases s <;> rfl
  | number s m p =>
    rw [self_is]
    simp only [Ieee.Datum.order]
    generalize compare (Ieee.signed s m (p - min p (-1074)).toNat) (Ieee.signed false 0 (-1074 - min p (-1074)).toNat) = o
    cases o <;> rfl
section
variable {w : World} {a : Option Addr} {l : List Tg}
set_option maxRecDepth 20000 in
set_option maxHeartbeats 8000000 in
theorem rweigh_calls (h : TgsAt w a l) (n c : Nat) (hn : l.length = n) (hx : n ≤ 1000) (d : Nat) (hd : d < 18446744073709551616) :
    Calls Tryz.prog 23 #[.slice a n c, .float .f64 d] w fun e w' => e = .returned (firstV (weighN l d)) ∧ Below w.heap.size w w' := by
  have hml : n ≤ maxLen := by simp only [maxLen]; omega
  have SC := hide (fun W (hb : Below w.heap.size w W) k (hk : k < fI) m hm => rsum_calls (w := W) k hk (h.later hb) n c m hn hml hm)
  have TA := hide (show l.take n = l from List.take_of_length_le (by omega))
  have hsl := sum_lt l (by omega)
  have TK := hide (show takeN l d = if fK1 ≤ d ∧ d ≤ fI then lastN (scaleN l) l n else (firstN (scaleN l) (mulN (drawN d) (sumN (scaleN l) l)) l n).getD (lastN (scaleN l) l n) by unfold takeN; rw [hn])
  have WN := hide (show weighN l d = if sumN (scaleN l) l = 0 then none else some (takeN l d) from rfl)
  have DR := hide (fun (h1 : ¬ (fK1 ≤ d ∧ d ≤ fI)) => drawn d hd h1 (sumN (scaleN l) l) hsl)
  have OD := hide (odd_is d)
  have hge : (FloatKind.f64.format.order d 4607182418800017408 == some Ordering.gt || FloatKind.f64.format.order d 4607182418800017408 == some Ordering.eq) = decide (fK1 ≤ d ∧ d ≤ fI) := ge_is d fK1 hd (by decide) (by decide)
  have hg := gt0_is (sumN (scaleN l) l) (by simp only [fI] at hsl; omega)
  have hsI := Nat.le_of_lt hsl
  have H := hide h
  have HN := hide hn
  have S1 := hide (sumN_le 4607182418800017408 l)
  clear h hn hml
  by_cases hI : sumN 4607182418800017408 l = fI
  · have hsc : scaleN l = fK2 := by unfold scaleN; rw [if_pos hI]
    rw [hsc] at hsl hsI WN TK DR hg
    clear hsc
    by_cases hs0 : sumN fK2 l = 0
    · have E := hide (show weighN l d = none by rw [unhide WN, if_pos hs0])
      rw [decide_eq_false (by omega)] at hg
      clear hs0
      go_enter Tryz.func23, Tryz.ntmps23
      go_wp2_with (first
          | (have hV : B1 = B1 := rfl
             clear hV
             go_at_call 42
             refine (unhide SC _ (unhide D1) 4562146422526312448 (by decide) n (Nat.le_refl _)).mono ?_
             rw [unhide TA]
             rintro e W2 ⟨rfl, b2⟩
             have B := hide ((unhide D1).trans (b2.mono (unhide D1).size))
             clear b2)
          | (go_at_call 42
             refine (unhide SC _ (Below.refl _ _) 4607182418800017408 (by decide) n (Nat.le_refl _)).mono ?_
             rw [unhide TA, hI]
             rintro e W1 ⟨rfl, b1⟩
             have B1 := hide b1
             have D1 := hide (show Below w.heap.size w W1.drew from b1.drew)
             obtain ⟨r, hr1, hr2⟩ := run_subI W1
             clear b1))
      go_ret2
      exact ⟨by rw [unhide E]; rfl, unhide B⟩
    · rw [decide_eq_true (by omega)] at hg
      go_enter Tryz.func23, Tryz.ntmps23
      go_wp2_with (first
          | (have hV : B1 = B1 := rfl
             clear hV
             go_at_call 42
             refine (unhide SC _ (unhide D1) 4562146422526312448 (by decide) n (Nat.le_refl _)).mono ?_
             rw [unhide TA]
             rintro e W2 ⟨rfl, b2⟩
             have B := hide ((unhide D1).trans (b2.mono (unhide D1).size))
             clear b2)
          | (go_at_call 42
             refine (unhide SC _ (Below.refl _ _) 4607182418800017408 (by decide) n (Nat.le_refl _)).mono ?_
             rw [unhide TA, hI]
             rintro e W1 ⟨rfl, b1⟩
             have B1 := hide b1
             have D1 := hide (show Below w.heap.size w W1.drew from b1.drew)
             obtain ⟨r, hr1, hr2⟩ := run_subI W1
             clear b1))
      obtain ⟨WB, hWB⟩ : ∃ W, W = W2 := ⟨_, rfl⟩
      rw [← hWB] at B ⊢
      clear hWB
      go_loopw [8, 9] (fun u i wr => ∃ j : Nat, j ≤ n ∧ i = .int .i64 (j : Int) ∧ u = .int .i64 (lastN fK2 l j : Int) ∧ Hid (Below w.heap.size w wr)) (fun _ i _ => n - (intOf i).toNat)
      case atStart => exact ⟨0, by omega, rfl, rfl, B⟩
      case round =>
        clear B
        obtain ⟨j, hj, rfl, rfl, B⟩ := hrel
        by_cases hjn : j < n
        · have y0 : (0 : Int) ≤ (j : Int) := by omega
          have y1 : (j : Int) < (n : Int) := by omega
          have hjl : j < l.length := by rw [unhide HN]; exact hjn
          obtain ⟨b, off, rfl, q0, q1⟩ := (unhide H).cell j hjl
          have p1 := cell_later (unhide B) q1
          have ht := (unhide H).lt _ (List.getElem_mem hjl)
          have hmu := run_mulF (cntN_lt l[j].2) (show fK2 < fI by decide)
          rw [cnt_wt] at hmu
          have wl := wt_le fK2 l[j].2
          have HL := hide (show lastN fK2 l (j + 1) = if 0 < wt fK2 l[j].2 then j else lastN fK2 l j by simp only [lastN, getD_at l j hjl])
          generalize l[j] = t at *
          obtain ⟨s, x⟩ := t
          simp only at p1 ht hmu HL wl
          have CC := hide (counts_calls x wr ht)
          generalize wt fK2 x = y at *
          generalize cntN x = z at *
          have z1 : (FloatKind.f64.format.order y 0 == some Ordering.gt) = decide (0 < y) := by rw [gt0_is y (by simp only [fI] at wl; omega)]; exact decide_eq_decide.2 (by omega)
          clear q0 q1 ht wl
          by_cases c1 : 0 < y
          · rw [decide_eq_true c1] at z1
            rw [if_pos c1] at HL
            clear c1
            go_wp2_with (go_at_call 43; refine (unhide CC).mono ?_; rintro e wr' ⟨rfl, rfl⟩)
            exact ⟨⟨j + 1, by omega, by go_num, by rw [unhide HL], unhide B⟩, by simp [intOf]; omega⟩
          · rw [decide_eq_false c1] at z1
            rw [if_neg c1] at HL
            clear c1
            go_wp2_with (go_at_call 43; refine (unhide CC).mono ?_; rintro e wr' ⟨rfl, rfl⟩)
            exact ⟨⟨j + 1, by omega, by go_num, by rw [unhide HL], unhide B⟩, by simp [intOf]; omega⟩
        · have hjj : ¬ (j : Int) < (n : Int) := by omega
          obtain rfl : j = n := by omega
          by_cases h1 : fK1 ≤ d ∧ d ≤ fI
          · have E := hide (show weighN l d = some (lastN fK2 l j) by rw [unhide WN, if_neg hs0, unhide TK, if_pos h1])
            rw [decide_eq_true h1] at hge
            clear h1 hs0
            go_wp2
            go_ret2
            exact ⟨by rw [unhide E]; rfl, unhide B⟩
          · have E := hide (show weighN l d = some ((firstN fK2 (mulN (drawN d) (sumN fK2 l)) l j).getD (lastN fK2 l j)) by rw [unhide WN, if_neg hs0, unhide TK, if_neg h1])
            obtain ⟨d2, x, hdd, hmul, hlt⟩ := unhide DR h1
            obtain ⟨b1, b2, o1, o2, o3⟩ := unhide OD
            rw [decide_eq_false h1] at hge
            have HLT := hide hlt
            clear h1 hs0 hlt DR OD TK WN
            generalize mulN (drawN d) (sumN fK2 l) = yy at *
            have LOOP : True := trivial
            cases b1 with
            | true =>
              rcases hdd with ⟨hz, rfl⟩ | ⟨hz, rfl⟩
              · rw [hz] at o3; cases o3
              · go_wp2_with fail
                go_loopw [11] (fun i wr => ∃ j2 : Nat, j2 ≤ j ∧ i = .int .i64 (j2 : Int) ∧ Hid (firstN fK2 yy l j2 = none) ∧ Hid (Below w.heap.size w wr)) (fun i _ => j - (intOf i).toNat)
                case atStart => exact ⟨0, by omega, rfl, hide rfl, B⟩
                case round =>
                  clear B
                  obtain ⟨j2, hj2, rfl, FN, B⟩ := hrel
                  by_cases hjn2 : j2 < j
                  · have y0 : (0 : Int) ≤ (j2 : Int) := by omega
                    have y1 : (j2 : Int) < (j : Int) := by omega
                    have hjl : j2 < l.length := by rw [unhide HN]; exact hjn2
                    obtain ⟨b, off, rfl, q0, q1⟩ := (unhide H).cell j2 hjl
                    have p1 := cell_later (unhide B) q1
                    have ht := (unhide H).lt _ (List.getElem_mem hjl)
                    have hmu := run_mulF (cntN_lt l[j2].2) (show fK2 < fI by decide)
                    rw [cnt_wt] at hmu
                    have wl := wt_le fK2 l[j2].2
                    have HH := hide (show hitN fK2 yy l j2 = decide (0 < wt fK2 l[j2].2 ∧ yy < sumN fK2 (l.take (j2 + 1))) by unfold hitN; rw [getD_at l j2 hjl])
                    generalize l[j2] = t at *
                    obtain ⟨s, u⟩ := t
                    simp only at p1 ht hmu HH wl
                    have CC := hide (counts_calls u wr ht)
                    have SS := hide (unhide SC wr (unhide B) fK2 (by decide) (j2 + 1) (by omega))
                    rw [show ((j2 + 1 : Nat) : Int) = (j2 : Int) + 1 by omega] at SS
                    have z2 := unhide HLT (sumN fK2 (l.take (j2 + 1))) (sumN_le _ _)
                    generalize wt fK2 u = y at *
                    generalize cntN u = z at *
                    generalize sumN fK2 (l.take (j2 + 1)) = sn at *
                    have z1 : (FloatKind.f64.format.order y 0 == some Ordering.gt) = decide (0 < y) := by rw [gt0_is y (by simp only [fI] at wl; omega)]; exact decide_eq_decide.2 (by omega)
                    clear q0 q1 ht wl
                    by_cases c1 : 0 < y
                    · rw [decide_eq_true c1] at z1
                      by_cases c2 : yy < sn
                      · rw [decide_eq_true c2] at z2
                        have FF := hide (show firstN fK2 yy l j = some j2 from firstN_stays fK2 yy l (j2 + 1) j2 (by simp only [firstN, unhide FN]; rw [if_pos (by rw [unhide HH]; exact decide_eq_true ⟨c1, c2⟩)]) j (by omega))
                        clear c1 c2
                        go_wp2_with (first
                          | (go_at_call 43; refine (unhide CC).mono ?_; rintro e wr' ⟨rfl, rfl⟩)
                          | (go_at_call 42; refine (unhide SS).mono ?_; rintro e W8 ⟨rfl, b8⟩; have B8 := hide ((unhide B).trans (b8.mono (unhide B).size)); clear b8))
                        go_ret2
                        exact ⟨by rw [unhide E, unhide FF]; rfl, unhide B8⟩
                      · rw [decide_eq_false c2] at z2
                        have FF := hide (show firstN fK2 yy l (j2 + 1) = none by simp only [firstN, unhide FN]; rw [if_neg (by rw [unhide HH, decide_eq_false (fun q => c2 q.2)]; decide)])
                        clear c1 c2
                        go_wp2_with (first
                          | (go_at_call 43; refine (unhide CC).mono ?_; rintro e wr' ⟨rfl, rfl⟩)
                          | (go_at_call 42; refine (unhide SS).mono ?_; rintro e W8 ⟨rfl, b8⟩; have B8 := hide ((unhide B).trans (b8.mono (unhide B).size)); clear b8))
                        exact ⟨⟨j2 + 1, by omega, by go_num, unhide FF, unhide B8⟩, by simp [intOf]; omega⟩
                    · rw [decide_eq_false c1] at z1
                      have FF := hide (show firstN fK2 yy l (j2 + 1) = none by simp only [firstN, unhide FN]; rw [if_neg (by rw [unhide HH, decide_eq_false (fun q => c1 q.1)]; decide)])
                      clear c1 z2
                      go_wp2_with (go_at_call 43; refine (unhide CC).mono ?_; rintro e wr' ⟨rfl, rfl⟩)
                      exact ⟨⟨j2 + 1, by omega, by go_num, unhide FF, unhide B⟩, by simp [intOf]; omega⟩
                  · have hjj2 : ¬ (j2 : Int) < (j : Int) := by omega
                    obtain rfl : j2 = j := by omega
                    go_wp2
                    go_ret2
                    exact ⟨by rw [unhide E, unhide FN]; rfl, unhide B⟩
            | false =>
              cases b2 with
              | true =>
                rcases hdd with ⟨hz, rfl⟩ | ⟨hz, rfl⟩
                · rw [hz] at o3; cases o3
                · go_wp2_with fail
                  go_loopw [11] (fun i wr => ∃ j2 : Nat, j2 ≤ j ∧ i = .int .i64 (j2 : Int) ∧ Hid (firstN fK2 yy l j2 = none) ∧ Hid (Below w.heap.size w wr)) (fun i _ => j - (intOf i).toNat)
                  case atStart => exact ⟨0, by omega, rfl, hide rfl, B⟩
                  case round =>
                    clear B
                    obtain ⟨j2, hj2, rfl, FN, B⟩ := hrel
                    by_cases hjn2 : j2 < j
                    · have y0 : (0 : Int) ≤ (j2 : Int) := by omega
                      have y1 : (j2 : Int) < (j : Int) := by omega
                      have hjl : j2 < l.length := by rw [unhide HN]; exact hjn2
                      obtain ⟨b, off, rfl, q0, q1⟩ := (unhide H).cell j2 hjl
                      have p1 := cell_later (unhide B) q1
                      have ht := (unhide H).lt _ (List.getElem_mem hjl)
                      have hmu := run_mulF (cntN_lt l[j2].2) (show fK2 < fI by decide)
                      rw [cnt_wt] at hmu
                      have wl := wt_le fK2 l[j2].2
                      have HH := hide (show hitN fK2 yy l j2 = decide (0 < wt fK2 l[j2].2 ∧ yy < sumN fK2 (l.take (j2 + 1))) by unfold hitN; rw [getD_at l j2 hjl])
                      generalize l[j2] = t at *
                      obtain ⟨s, u⟩ := t
                      simp only at p1 ht hmu HH wl
                      have CC := hide (counts_calls u wr ht)
                      have SS := hide (unhide SC wr (unhide B) fK2 (by decide) (j2 + 1) (by omega))
                      rw [show ((j2 + 1 : Nat) : Int) = (j2 : Int) + 1 by omega] at SS
                      have z2 := unhide HLT (sumN fK2 (l.take (j2 + 1))) (sumN_le _ _)
                      generalize wt fK2 u = y at *
                      generalize cntN u = z at *
                      generalize sumN fK2 (l.take (j2 + 1)) = sn at *
                      have z1 : (FloatKind.f64.format.order y 0 == some Ordering.gt) = decide (0 < y) := by rw [gt0_is y (by simp only [fI] at wl; omega)]; exact decide_eq_decide.2 (by omega)
                      clear q0 q1 ht wl
                      by_cases c1 : 0 < y
                      · rw [decide_eq_true c1] at z1
                        by_cases c2 : yy < sn
                        · rw [decide_eq_true c2] at z2
                          have FF := hide (show firstN fK2 yy l j = some j2 from firstN_stays fK2 yy l (j2 + 1) j2 (by simp only [firstN, unhide FN]; rw [if_pos (by rw [unhide HH]; exact decide_eq_true ⟨c1, c2⟩)]) j (by omega))
                          clear c1 c2
                          go_wp2_with (first
                            | (go_at_call 43; refine (unhide CC).mono ?_; rintro e wr' ⟨rfl, rfl⟩)
                            | (go_at_call 42; refine (unhide SS).mono ?_; rintro e W8 ⟨rfl, b8⟩; have B8 := hide ((unhide B).trans (b8.mono (unhide B).size)); clear b8))
                          go_ret2
                          exact ⟨by rw [unhide E, unhide FF]; rfl, unhide B8⟩
                        · rw [decide_eq_false c2] at z2
                          have FF := hide (show firstN fK2 yy l (j2 + 1) = none by simp only [firstN, unhide FN]; rw [if_neg (by rw [unhide HH, decide_eq_false (fun q => c2 q.2)]; decide)])
                          clear c1 c2
                          go_wp2_with (first
                            | (go_at_call 43; refine (unhide CC).mono ?_; rintro e wr' ⟨rfl, rfl⟩)
                            | (go_at_call 42; refine (unhide SS).mono ?_; rintro e W8 ⟨rfl, b8⟩; have B8 := hide ((unhide B).trans (b8.mono (unhide B).size)); clear b8))
                          exact ⟨⟨j2 + 1, by omega, by go_num, unhide FF, unhide B8⟩, by simp [intOf]; omega⟩
                      · rw [decide_eq_false c1] at z1
                        have FF := hide (show firstN fK2 yy l (j2 + 1) = none by simp only [firstN, unhide FN]; rw [if_neg (by rw [unhide HH, decide_eq_false (fun q => c1 q.1)]; decide)])
                        clear c1 z2
                        go_wp2_with (go_at_call 43; refine (unhide CC).mono ?_; rintro e wr' ⟨rfl, rfl⟩)
                        exact ⟨⟨j2 + 1, by omega, by go_num, unhide FF, unhide B⟩, by simp [intOf]; omega⟩
                    · have hjj2 : ¬ (j2 : Int) < (j : Int) := by omega
                      obtain rfl : j2 = j := by omega
                      go_wp2
                      go_ret2
                      exact ⟨by rw [unhide E, unhide FN]; rfl, unhide B⟩
              | false =>
                rcases hdd with ⟨hz, rfl⟩ | ⟨hz, rfl⟩
                · go_wp2_with fail
                  go_loopw [11] (fun i wr => ∃ j2 : Nat, j2 ≤ j ∧ i = .int .i64 (j2 : Int) ∧ Hid (firstN fK2 yy l j2 = none) ∧ Hid (Below w.heap.size w wr)) (fun i _ => j - (intOf i).toNat)
                  case atStart => exact ⟨0, by omega, rfl, hide rfl, B⟩
                  case round =>
                    clear B
                    obtain ⟨j2, hj2, rfl, FN, B⟩ := hrel
                    by_cases hjn2 : j2 < j
                    · have y0 : (0 : Int) ≤ (j2 : Int) := by omega
                      have y1 : (j2 : Int) < (j : Int) := by omega
                      have hjl : j2 < l.length := by rw [unhide HN]; exact hjn2
                      obtain ⟨b, off, rfl, q0, q1⟩ := (unhide H).cell j2 hjl
                      have p1 := cell_later (unhide B) q1
                      have ht := (unhide H).lt _ (List.getElem_mem hjl)
                      have hmu := run_mulF (cntN_lt l[j2].2) (show fK2 < fI by decide)
                      rw [cnt_wt] at hmu
                      have wl := wt_le fK2 l[j2].2
                      have HH := hide (show hitN fK2 yy l j2 = decide (0 < wt fK2 l[j2].2 ∧ yy < sumN fK2 (l.take (j2 + 1))) by unfold hitN; rw [getD_at l j2 hjl])
                      generalize l[j2] = t at *
                      obtain ⟨s, u⟩ := t
                      simp only at p1 ht hmu HH wl
                      have CC := hide (counts_calls u wr ht)
                      have SS := hide (unhide SC wr (unhide B) fK2 (by decide) (j2 + 1) (by omega))
                      rw [show ((j2 + 1 : Nat) : Int) = (j2 : Int) + 1 by omega] at SS
                      have z2 := unhide HLT (sumN fK2 (l.take (j2 + 1))) (sumN_le _ _)
                      generalize wt fK2 u = y at *
                      generalize cntN u = z at *
                      generalize sumN fK2 (l.take (j2 + 1)) = sn at *
                      have z1 : (FloatKind.f64.format.order y 0 == some Ordering.gt) = decide (0 < y) := by rw [gt0_is y (by simp only [fI] at wl; omega)]; exact decide_eq_decide.2 (by omega)
                      clear q0 q1 ht wl
                      by_cases c1 : 0 < y
                      · rw [decide_eq_true c1] at z1
                        by_cases c2 : yy < sn
                        · rw [decide_eq_true c2] at z2
                          have FF := hide (show firstN fK2 yy l j = some j2 from firstN_stays fK2 yy l (j2 + 1) j2 (by simp only [firstN, unhide FN]; rw [if_pos (by rw [unhide HH]; exact decide_eq_true ⟨c1, c2⟩)]) j (by omega))
                          clear c1 c2
                          go_wp2_with (first
                            | (go_at_call 43; refine (unhide CC).mono ?_; rintro e wr' ⟨rfl, rfl⟩)
                            | (go_at_call 42; refine (unhide SS).mono ?_; rintro e W8 ⟨rfl, b8⟩; have B8 := hide ((unhide B).trans (b8.mono (unhide B).size)); clear b8))
                          go_ret2
                          exact ⟨by rw [unhide E, unhide FF]; rfl, unhide B8⟩
                        · rw [decide_eq_false c2] at z2
                          have FF := hide (show firstN fK2 yy l (j2 + 1) = none by simp only [firstN, unhide FN]; rw [if_neg (by rw [unhide HH, decide_eq_false (fun q => c2 q.2)]; decide)])
                          clear c1 c2
                          go_wp2_with (first
                            | (go_at_call 43; refine (unhide CC).mono ?_; rintro e wr' ⟨rfl, rfl⟩)
                            | (go_at_call 42; refine (unhide SS).mono ?_; rintro e W8 ⟨rfl, b8⟩; have B8 := hide ((unhide B).trans (b8.mono (unhide B).size)); clear b8))
                          exact ⟨⟨j2 + 1, by omega, by go_num, unhide FF, unhide B8⟩, by simp [intOf]; omega⟩
                      · rw [decide_eq_false c1] at z1
                        have FF := hide (show firstN fK2 yy l (j2 + 1) = none by simp only [firstN, unhide FN]; rw [if_neg (by rw [unhide HH, decide_eq_false (fun q => c1 q.1)]; decide)])
                        clear c1 z2
                        go_wp2_with (go_at_call 43; refine (unhide CC).mono ?_; rintro e wr' ⟨rfl, rfl⟩)
                        exact ⟨⟨j2 + 1, by omega, by go_num, unhide FF, unhide B⟩, by simp [intOf]; omega⟩
                    · have hjj2 : ¬ (j2 : Int) < (j : Int) := by omega
                      obtain rfl : j2 = j := by omega
                      go_wp2
                      go_ret2
                      exact ⟨by rw [unhide E, unhide FN]; rfl, unhide B⟩
                · rw [hz] at o3; cases o3
  · have hsc : scaleN l = fK1 := by unfold scaleN; rw [if_neg hI]
    rw [hsc] at hsl hsI WN TK DR hg
    clear hsc
    have hsub := run_subF (sumN fK1 l) (by have := unhide S1; omega)
    have hne : (FloatKind.f64.format.order 0 0 != some Ordering.eq) = false := by decide
    by_cases hs0 : sumN fK1 l = 0
    · have E := hide (show weighN l d = none by rw [unhide WN, if_pos hs0])
      rw [decide_eq_false (by omega)] at hg
      clear hs0
      go_enter Tryz.func23, Tryz.ntmps23
      go_wp2_with (first
          | (go_at_call 42
             refine (unhide SC _ (Below.refl _ _) 4607182418800017408 (by decide) n (Nat.le_refl _)).mono ?_
             rw [unhide TA]
             rintro e W1 ⟨rfl, b1⟩
             have B := hide b1
             clear b1))
      go_ret2
      exact ⟨by rw [unhide E]; rfl, unhide B⟩
    · rw [decide_eq_true (by omega)] at hg
      go_enter Tryz.func23, Tryz.ntmps23
      go_wp2_with (first
          | (go_at_call 42
             refine (unhide SC _ (Below.refl _ _) 4607182418800017408 (by decide) n (Nat.le_refl _)).mono ?_
             rw [unhide TA]
             rintro e W1 ⟨rfl, b1⟩
             have B := hide b1
             clear b1))
      obtain ⟨WB, hWB⟩ : ∃ W, W = W1 := ⟨_, rfl⟩
      rw [← hWB] at B ⊢
      clear hWB
      go_loopw [8, 9] (fun u i wr => ∃ j : Nat, j ≤ n ∧ i = .int .i64 (j : Int) ∧ u = .int .i64 (lastN fK1 l j : Int) ∧ Hid (Below w.heap.size w wr)) (fun _ i _ => n - (intOf i).toNat)
      case atStart => exact ⟨0, by omega, rfl, rfl, B⟩
      case round =>
        clear B
        obtain ⟨j, hj, rfl, rfl, B⟩ := hrel
        by_cases hjn : j < n
        · have y0 : (0 : Int) ≤ (j : Int) := by omega
          have y1 : (j : Int) < (n : Int) := by omega
          have hjl : j < l.length := by rw [unhide HN]; exact hjn
          obtain ⟨b, off, rfl, q0, q1⟩ := (unhide H).cell j hjl
          have p1 := cell_later (unhide B) q1
          have ht := (unhide H).lt _ (List.getElem_mem hjl)
          have hmu := run_mulF (cntN_lt l[j].2) (show fK1 < fI by decide)
          rw [cnt_wt] at hmu
          have wl := wt_le fK1 l[j].2
          have HL := hide (show lastN fK1 l (j + 1) = if 0 < wt fK1 l[j].2 then j else lastN fK1 l j by simp only [lastN, getD_at l j hjl])
          generalize l[j] = t at *
          obtain ⟨s, x⟩ := t
          simp only at p1 ht hmu HL wl
          have CC := hide (counts_calls x wr ht)
          generalize wt fK1 x = y at *
          generalize cntN x = z at *
          have z1 : (FloatKind.f64.format.order y 0 == some Ordering.gt) = decide (0 < y) := by rw [gt0_is y (by simp only [fI] at wl; omega)]; exact decide_eq_decide.2 (by omega)
          clear q0 q1 ht wl
          by_cases c1 : 0 < y
          · rw [decide_eq_true c1] at z1
            rw [if_pos c1] at HL
            clear c1
            go_wp2_with (go_at_call 43; refine (unhide CC).mono ?_; rintro e wr' ⟨rfl, rfl⟩)
            exact ⟨⟨j + 1, by omega, by go_num, by rw [unhide HL], unhide B⟩, by simp [intOf]; omega⟩
          · rw [decide_eq_false c1] at z1
            rw [if_neg c1] at HL
            clear c1
            go_wp2_with (go_at_call 43; refine (unhide CC).mono ?_; rintro e wr' ⟨rfl, rfl⟩)
            exact ⟨⟨j + 1, by omega, by go_num, by rw [unhide HL], unhide B⟩, by simp [intOf]; omega⟩
        · have hjj : ¬ (j : Int) < (n : Int) := by omega
          obtain rfl : j = n := by omega
          by_cases h1 : fK1 ≤ d ∧ d ≤ fI
          · have E := hide (show weighN l d = some (lastN fK1 l j) by rw [unhide WN, if_neg hs0, unhide TK, if_pos h1])
            rw [decide_eq_true h1] at hge
            clear h1 hs0
            go_wp2
            go_ret2
            exact ⟨by rw [unhide E]; rfl, unhide B⟩
          · have E := hide (show weighN l d = some ((firstN fK1 (mulN (drawN d) (sumN fK1 l)) l j).getD (lastN fK1 l j)) by rw [unhide WN, if_neg hs0, unhide TK, if_neg h1])
            obtain ⟨d2, x, hdd, hmul, hlt⟩ := unhide DR h1
            obtain ⟨b1, b2, o1, o2, o3⟩ := unhide OD
            rw [decide_eq_false h1] at hge
            have HLT := hide hlt
            clear h1 hs0 hlt DR OD TK WN
            generalize mulN (drawN d) (sumN fK1 l) = yy at *
            have LOOP : True := trivial
            cases b1 with
            | true =>
              rcases hdd with ⟨hz, rfl⟩ | ⟨hz, rfl⟩
              · rw [hz] at o3; cases o3
              · go_wp2_with fail
                go_loopw [11] (fun i wr => ∃ j2 : Nat, j2 ≤ j ∧ i = .int .i64 (j2 : Int) ∧ Hid (firstN fK1 yy l j2 = none) ∧ Hid (Below w.heap.size w wr)) (fun i _ => j - (intOf i).toNat)
                case atStart => exact ⟨0, by omega, rfl, hide rfl, B⟩
                case round =>
                  clear B
                  obtain ⟨j2, hj2, rfl, FN, B⟩ := hrel
                  by_cases hjn2 : j2 < j
                  · have y0 : (0 : Int) ≤ (j2 : Int) := by omega
                    have y1 : (j2 : Int) < (j : Int) := by omega
                    have hjl : j2 < l.length := by rw [unhide HN]; exact hjn2
                    obtain ⟨b, off, rfl, q0, q1⟩ := (unhide H).cell j2 hjl
                    have p1 := cell_later (unhide B) q1
                    have ht := (unhide H).lt _ (List.getElem_mem hjl)
                    have hmu := run_mulF (cntN_lt l[j2].2) (show fK1 < fI by decide)
                    rw [cnt_wt] at hmu
                    have wl := wt_le fK1 l[j2].2
                    have HH := hide (show hitN fK1 yy l j2 = decide (0 < wt fK1 l[j2].2 ∧ yy < sumN fK1 (l.take (j2 + 1))) by unfold hitN; rw [getD_at l j2 hjl])
                    generalize l[j2] = t at *
                    obtain ⟨s, u⟩ := t
                    simp only at p1 ht hmu HH wl
                    have CC := hide (counts_calls u wr ht)
                    have SS := hide (unhide SC wr (unhide B) fK1 (by decide) (j2 + 1) (by omega))
                    rw [show ((j2 + 1 : Nat) : Int) = (j2 : Int) + 1 by omega] at SS
                    have z2 := unhide HLT (sumN fK1 (l.take (j2 + 1))) (sumN_le _ _)
                    generalize wt fK1 u = y at *
                    generalize cntN u = z at *
                    generalize sumN fK1 (l.take (j2 + 1)) = sn at *
                    have z1 : (FloatKind.f64.format.order y 0 == some Ordering.gt) = decide (0 < y) := by rw [gt0_is y (by simp only [fI] at wl; omega)]; exact decide_eq_decide.2 (by omega)
                    clear q0 q1 ht wl
                    by_cases c1 : 0 < y
                    · rw [decide_eq_true c1] at z1
                      by_cases c2 : yy < sn
                      · rw [decide_eq_true c2] at z2
                        have FF := hide (show firstN fK1 yy l j = some j2 from firstN_stays fK1 yy l (j2 + 1) j2 (by simp only [firstN, unhide FN]; rw [if_pos (by rw [unhide HH]; exact decide_eq_true ⟨c1, c2⟩)]) j (by omega))
                        clear c1 c2
                        go_wp2_with (first
                          | (go_at_call 43; refine (unhide CC).mono ?_; rintro e wr' ⟨rfl, rfl⟩)
                          | (go_at_call 42; refine (unhide SS).mono ?_; rintro e W8 ⟨rfl, b8⟩; have B8 := hide ((unhide B).trans (b8.mono (unhide B).size)); clear b8))
                        go_ret2
                        exact ⟨by rw [unhide E, unhide FF]; rfl, unhide B8⟩
                      · rw [decide_eq_false c2] at z2
                        have FF := hide (show firstN fK1 yy l (j2 + 1) = none by simp only [firstN, unhide FN]; rw [if_neg (by rw [unhide HH, decide_eq_false (fun q => c2 q.2)]; decide)])
                        clear c1 c2
                        go_wp2_with (first
                          | (go_at_call 43; refine (unhide CC).mono ?_; rintro e wr' ⟨rfl, rfl⟩)
                          | (go_at_call 42; refine (unhide SS).mono ?_; rintro e W8 ⟨rfl, b8⟩; have B8 := hide ((unhide B).trans (b8.mono (unhide B).size)); clear b8))
                        exact ⟨⟨j2 + 1, by omega, by go_num, unhide FF, unhide B8⟩, by simp [intOf]; omega⟩
                    · rw [decide_eq_false c1] at z1
                      have FF := hide (show firstN fK1 yy l (j2 + 1) = none by simp only [firstN, unhide FN]; rw [if_neg (by rw [unhide HH, decide_eq_false (fun q => c1 q.1)]; decide)])
                      clear c1 z2
                      go_wp2_with (go_at_call 43; refine (unhide CC).mono ?_; rintro e wr' ⟨rfl, rfl⟩)
                      exact ⟨⟨j2 + 1, by omega, by go_num, unhide FF, unhide B⟩, by simp [intOf]; omega⟩
                  · have hjj2 : ¬ (j2 : Int) < (j : Int) := by omega
                    obtain rfl : j2 = j := by omega
                    go_wp2
                    go_ret2
                    exact ⟨by rw [unhide E, unhide FN]; rfl, unhide B⟩
            | false =>
              cases b2 with
              | true =>
                rcases hdd with ⟨hz, rfl⟩ | ⟨hz, rfl⟩
                · rw [hz] at o3; cases o3
                · go_wp2_with fail
                  go_loopw [11] (fun i wr => ∃ j2 : Nat, j2 ≤ j ∧ i = .int .i64 (j2 : Int) ∧ Hid (firstN fK1 yy l j2 = none) ∧ Hid (Below w.heap.size w wr)) (fun i _ => j - (intOf i).toNat)
                  case atStart => exact ⟨0, by omega, rfl, hide rfl, B⟩
                  case round =>
                    clear B
                    obtain ⟨j2, hj2, rfl, FN, B⟩ := hrel
                    by_cases hjn2 : j2 < j
                    · have y0 : (0 : Int) ≤ (j2 : Int) := by omega
                      have y1 : (j2 : Int) < (j : Int) := by omega
                      have hjl : j2 < l.length := by rw [unhide HN]; exact hjn2
                      obtain ⟨b, off, rfl, q0, q1⟩ := (unhide H).cell j2 hjl
                      have p1 := cell_later (unhide B) q1
                      have ht := (unhide H).lt _ (List.getElem_mem hjl)
                      have hmu := run_mulF (cntN_lt l[j2].2) (show fK1 < fI by decide)
                      rw [cnt_wt] at hmu
                      have wl := wt_le fK1 l[j2].2
                      have HH := hide (show hitN fK1 yy l j2 = decide (0 < wt fK1 l[j2].2 ∧ yy < sumN fK1 (l.take (j2 + 1))) by unfold hitN; rw [getD_at l j2 hjl])
                      generalize l[j2] = t at *
                      obtain ⟨s, u⟩ := t
                      simp only at p1 ht hmu HH wl
                      have CC := hide (counts_calls u wr ht)
                      have SS := hide (unhide SC wr (unhide B) fK1 (by decide) (j2 + 1) (by omega))
                      rw [show ((j2 + 1 : Nat) : Int) = (j2 : Int) + 1 by omega] at SS
                      have z2 := unhide HLT (sumN fK1 (l.take (j2 + 1))) (sumN_le _ _)
                      generalize wt fK1 u = y at *
                      generalize cntN u = z at *
                      generalize sumN fK1 (l.take (j2 + 1)) = sn at *
                      have z1 : (FloatKind.f64.format.order y 0 == some Ordering.gt) = decide (0 < y) := by rw [gt0_is y (by simp only [fI] at wl; omega)]; exact decide_eq_decide.2 (by omega)
                      clear q0 q1 ht wl
                      by_cases c1 : 0 < y
                      · rw [decide_eq_true c1] at z1
                        by_cases c2 : yy < sn
                        · rw [decide_eq_true c2] at z2
                          have FF := hide (show firstN fK1 yy l j = some j2 from firstN_stays fK1 yy l (j2 + 1) j2 (by simp only [firstN, unhide FN]; rw [if_pos (by rw [unhide HH]; exact decide_eq_true ⟨c1, c2⟩)]) j (by omega))
                          clear c1 c2
                          go_wp2_with (first
                            | (go_at_call 43; refine (unhide CC).mono ?_; rintro e wr' ⟨rfl, rfl⟩)
                            | (go_at_call 42; refine (unhide SS).mono ?_; rintro e W8 ⟨rfl, b8⟩; have B8 := hide ((unhide B).trans (b8.mono (unhide B).size)); clear b8))
                          go_ret2
                          exact ⟨by rw [unhide E, unhide FF]; rfl, unhide B8⟩
                        · rw [decide_eq_false c2] at z2
                          have FF := hide (show firstN fK1 yy l (j2 + 1) = none by simp only [firstN, unhide FN]; rw [if_neg (by rw [unhide HH, decide_eq_false (fun q => c2 q.2)]; decide)])
                          clear c1 c2
                          go_wp2_with (first
                            | (go_at_call 43; refine (unhide CC).mono ?_; rintro e wr' ⟨rfl, rfl⟩)
                            | (go_at_call 42; refine (unhide SS).mono ?_; rintro e W8 ⟨rfl, b8⟩; have B8 := hide ((unhide B).trans (b8.mono (unhide B).size)); clear b8))
                          exact ⟨⟨j2 + 1, by omega, by go_num, unhide FF, unhide B8⟩, by simp [intOf]; omega⟩
                      · rw [decide_eq_false c1] at z1
                        have FF := hide (show firstN fK1 yy l (j2 + 1) = none by simp only [firstN, unhide FN]; rw [if_neg (by rw [unhide HH, decide_eq_false (fun q => c1 q.1)]; decide)])
                        clear c1 z2
                        go_wp2_with (go_at_call 43; refine (unhide CC).mono ?_; rintro e wr' ⟨rfl, rfl⟩)
                        exact ⟨⟨j2 + 1, by omega, by go_num, unhide FF, unhide B⟩, by simp [intOf]; omega⟩
                    · have hjj2 : ¬ (j2 : Int) < (j : Int) := by omega
                      obtain rfl : j2 = j := by omega
                      go_wp2
                      go_ret2
                      exact ⟨by rw [unhide E, unhide FN]; rfl, unhide B⟩
              | false =>
                rcases hdd with ⟨hz, rfl⟩ | ⟨hz, rfl⟩
                · go_wp2_with fail
                  go_loopw [11] (fun i wr => ∃ j2 : Nat, j2 ≤ j ∧ i = .int .i64 (j2 : Int) ∧ Hid (firstN fK1 yy l j2 = none) ∧ Hid (Below w.heap.size w wr)) (fun i _ => j - (intOf i).toNat)
                  case atStart => exact ⟨0, by omega, rfl, hide rfl, B⟩
                  case round =>
                    clear B
                    obtain ⟨j2, hj2, rfl, FN, B⟩ := hrel
                    by_cases hjn2 : j2 < j
                    · have y0 : (0 : Int) ≤ (j2 : Int) := by omega
                      have y1 : (j2 : Int) < (j : Int) := by omega
                      have hjl : j2 < l.length := by rw [unhide HN]; exact hjn2
                      obtain ⟨b, off, rfl, q0, q1⟩ := (unhide H).cell j2 hjl
                      have p1 := cell_later (unhide B) q1
                      have ht := (unhide H).lt _ (List.getElem_mem hjl)
                      have hmu := run_mulF (cntN_lt l[j2].2) (show fK1 < fI by decide)
                      rw [cnt_wt] at hmu
                      have wl := wt_le fK1 l[j2].2
                      have HH := hide (show hitN fK1 yy l j2 = decide (0 < wt fK1 l[j2].2 ∧ yy < sumN fK1 (l.take (j2 + 1))) by unfold hitN; rw [getD_at l j2 hjl])
                      generalize l[j2] = t at *
                      obtain ⟨s, u⟩ := t
                      simp only at p1 ht hmu HH wl
                      have CC := hide (counts_calls u wr ht)
                      have SS := hide (unhide SC wr (unhide B) fK1 (by decide) (j2 + 1) (by omega))
                      rw [show ((j2 + 1 : Nat) : Int) = (j2 : Int) + 1 by omega] at SS
                      have z2 := unhide HLT (sumN fK1 (l.take (j2 + 1))) (sumN_le _ _)
                      generalize wt fK1 u = y at *
                      generalize cntN u = z at *
                      generalize sumN fK1 (l.take (j2 + 1)) = sn at *
                      have z1 : (FloatKind.f64.format.order y 0 == some Ordering.gt) = decide (0 < y) := by rw [gt0_is y (by simp only [fI] at wl; omega)]; exact decide_eq_decide.2 (by omega)
                      clear q0 q1 ht wl
                      by_cases c1 : 0 < y
                      · rw [decide_eq_true c1] at z1
                        by_cases c2 : yy < sn
                        · rw [decide_eq_true c2] at z2
                          have FF := hide (show firstN fK1 yy l j = some j2 from firstN_stays fK1 yy l (j2 + 1) j2 (by simp only [firstN, unhide FN]; rw [if_pos (by rw [unhide HH]; exact decide_eq_true ⟨c1, c2⟩)]) j (by omega))
                          clear c1 c2
                          go_wp2_with (first
                            | (go_at_call 43; refine (unhide CC).mono ?_; rintro e wr' ⟨rfl, rfl⟩)
                            | (go_at_call 42; refine (unhide SS).mono ?_; rintro e W8 ⟨rfl, b8⟩; have B8 := hide ((unhide B).trans (b8.mono (unhide B).size)); clear b8))
                          go_ret2
                          exact ⟨by rw [unhide E, unhide FF]; rfl, unhide B8⟩
                        · rw [decide_eq_false c2] at z2
                          have FF := hide (show firstN fK1 yy l (j2 + 1) = none by simp only [firstN, unhide FN]; rw [if_neg (by rw [unhide HH, decide_eq_false (fun q => c2 q.2)]; decide)])
                          clear c1 c2
                          go_wp2_with (first
                            | (go_at_call 43; refine (unhide CC).mono ?_; rintro e wr' ⟨rfl, rfl⟩)
                            | (go_at_call 42; refine (unhide SS).mono ?_; rintro e W8 ⟨rfl, b8⟩; have B8 := hide ((unhide B).trans (b8.mono (unhide B).size)); clear b8))
                          exact ⟨⟨j2 + 1, by omega, by go_num, unhide FF, unhide B8⟩, by simp [intOf]; omega⟩
                      · rw [decide_eq_false c1] at z1
                        have FF := hide (show firstN fK1 yy l (j2 + 1) = none by simp only [firstN, unhide FN]; rw [if_neg (by rw [unhide HH, decide_eq_false (fun q => c1 q.1)]; decide)])
                        clear c1 z2
                        go_wp2_with (go_at_call 43; refine (unhide CC).mono ?_; rintro e wr' ⟨rfl, rfl⟩)
                        exact ⟨⟨j2 + 1, by omega, by go_num, unhide FF, unhide B⟩, by simp [intOf]; omega⟩
                    · have hjj2 : ¬ (j2 : Int) < (j : Int) := by omega
                      obtain rfl : j2 = j := by omega
                      go_wp2
                      go_ret2
                      exact ⟨by rw [unhide E, unhide FN]; rfl, unhide B⟩
                · rw [hz] at o3; cases o3
end
end Go.Proofs.YtcmiappiocfbiaaGreatDoor
end
/- Heads, in plain words: where texts are cut. -/
section
namespace Go.Proofs.YtcmiappiocfbiaaGreatDoor
set_option linter.unusedVariables false

theorem cut1_app {c : UInt8} {a : Tx} (h : c ∉ a) (b : Tx) : cutL [c] (a ++ c :: b) = (a, some b) := by
  induction a with
  | nil => simp [cutL, List.isPrefixOf]
  | cons x t ih =>
    have hx : ¬ c = x := fun e => h (by simp [e])
    rw [List.cons_append, cutL, if_neg (by simp [List.isPrefixOf, hx]), ih (fun e => h (List.mem_cons_of_mem _ e))]
theorem cut1_no {c : UInt8} {a : Tx} (h : c ∉ a) : cutL [c] a = (a, none) := by
  induction a with
  | nil => rfl
  | cons x t ih =>
    have hx : ¬ c = x := fun e => h (by simp [e])
    rw [cutL, if_neg (by simp [List.isPrefixOf, hx]), ih (fun e => h (List.mem_cons_of_mem _ e))]
theorem cut2_app {a : Tx} (h : (13 : UInt8) ∉ a) (b : Tx) : cutL crlf (a ++ (crlf ++ b)) = (a, some b) := by
  induction a with
  | nil => simp [cutL, crlf, List.isPrefixOf]
  | cons x t ih =>
    have hx : ¬ (13 : UInt8) = x := fun e => h (by simp [e])
    rw [List.cons_append, cutL, if_neg (by simp [crlf, List.isPrefixOf, hx]), ih (fun e => h (List.mem_cons_of_mem _ e))]
theorem cut4_end {a : Tx} (h : (13 : UInt8) ∉ a) (b : Tx) : cutL (crlf ++ crlf) (a ++ (crlf ++ (crlf ++ b))) = (a, some b) := by
  induction a with
  | nil => simp [cutL, crlf, List.isPrefixOf]
  | cons x t ih =>
    have hx : ¬ (13 : UInt8) = x := fun e => h (by simp [e])
    rw [List.cons_append, cutL, if_neg (by simp [crlf, List.isPrefixOf, hx]), ih (fun e => h (List.mem_cons_of_mem _ e))]
theorem cut4_step {a : Tx} (h : (13 : UInt8) ∉ a) (x : UInt8) (r : Tx) (hx0 : x ≠ 13) : cutL (crlf ++ crlf) (a ++ (crlf ++ (x :: r))) = (a ++ (crlf ++ (cutL (crlf ++ crlf) (x :: r)).1), (cutL (crlf ++ crlf) (x :: r)).2) := by
  induction a with
  | nil =>
    have hx : ¬ (13 : UInt8) = x := fun e => hx0 e.symm
    show cutL (crlf ++ crlf) (13 :: 10 :: x :: r) = (13 :: 10 :: (cutL (crlf ++ crlf) (x :: r)).1, _)
    rw [cutL, if_neg (by simp [crlf, List.isPrefixOf, hx]), cutL, if_neg (by simp [crlf, List.isPrefixOf])]
  | cons y t ih =>
    have hy : ¬ (13 : UInt8) = y := fun e => h (by simp [e])
    rw [List.cons_append, cutL, if_neg (by simp [crlf, List.isPrefixOf, hy]), ih (fun e => h (List.mem_cons_of_mem _ e))]
    rfl
end Go.Proofs.YtcmiappiocfbiaaGreatDoor
end
/- Heads, in plain words: targets of both kinds. -/
section
namespace Go.Proofs.YtcmiappiocfbiaaGreatDoor
set_option linter.unusedVariables false

theorem esc_all (k : Nat) : ∀ (l : Tx), allEsc k l = true → ∀ c ∈ l, c = 37 ∨ isK k c = true
  | [], _, c, hc => by cases hc
  | x :: t, h, c, hc => by
    have h' : (okAt k x t && allEsc k t) = true := h
    obtain ⟨h1, h2⟩ := Bool.and_eq_true_iff.1 h'
    rcases List.mem_cons.1 hc with rfl | hc
    · unfold okAt at h1
      by_cases hx : c = 37
      · exact .inl hx
      · rw [if_neg hx] at h1; exact .inr h1
    · exact esc_all k t h2 c hc
theorem esc_not {k : Nat} {l : Tx} (h : allEsc k l = true) {c : UInt8} (h1 : ¬ c = 37) (h2 : isK k c = false) : c ∉ l := fun e => by
  rcases esc_all k l h c e with e | e
  · exact h1 e
  · rw [h2] at e; cases e
theorem each8 {p : UInt8 → Bool} (h : (List.range 256).all (fun n => p (UInt8.ofNat n)) = true) (x : UInt8) : p x = true := by
  have h1 := List.all_eq_true.1 h x.toNat (List.mem_range.2 x.toNat_lt)
  rwa [show UInt8.ofNat x.toNat = x from UInt8.ofNat_toNat] at h1
theorem tgt3 {p : Tx} (hp : isPathL p = true) : targetL p = some (p, [], []) := by
  obtain ⟨hp1, hp2⟩ := Bool.and_eq_true_iff.1 hp
  obtain ⟨r, hr⟩ := List.isPrefixOf_iff_prefix.1 hp1
  have c0 := cut1_no (esc_not hp2 (c := 63) (by decide) (by decide))
  have hpr : httpL.isPrefixOf p = false := by rw [← hr]; rfl
  have hq : isQueryL [] = true := rfl
  unfold targetL behindL
  simp only [c0, Option.getD_none, hq, hpr, hp]
  rfl
end Go.Proofs.YtcmiappiocfbiaaGreatDoor
end
