/- The contract of a reader's number. -/
import Derived.Test.YtpkpnedcecjlbaaGreatDoorB03
import Derived.WalkMore
import Derived.ScopeJumps
import Derived.Recover
import Derived.Deep.RegionHeld3
section
namespace Go.Proofs.YtpkpnedcecjlbaaGreatDoor
open Go.ChangeShapes Go.WideShapes Go.ChangeAt Go.RowKit

/-- A scope that begins with a piece x, then a label to which its rest may jump back. -/
theorem wp_scope_back {P : Program} {Q : Exit → Act → World → Prop} {a : Act} {w : World} {x R : Code} (l : Nat) (J : Act → World → Prop) (μ : Act → World → Nat) (hx : findLabel x l = none)
    (first : ∀ K : Exit → Act → World → Prop, (∀ a w, J a w → K .normal a w) → x.wp P K a w)
    (pass : ∀ a w, J a w → R.wp P (Exit.jump l (fun a' w' => J a' w' ∧ μ a' w' < μ a w) Q) a w) : (Code.scope (x.seq ((Code.label l).seq R))).wp P Q a w := by
  refine wp_scope_jumps (rest := Code.seq .skip R) l J μ (by simp [findLabel, hx]) ?_ ?_
  · refine wp_seq (first _ fun a w hJ => ?_)
    refine wp_seq (wp_label ?_)
    refine wp_mono (pass a w hJ) ?_
    intro e a w h
    cases e <;> first | exact h | exact ⟨h.1, h.2.1⟩
  · intro a w hJ
    refine wp_seq (wp_skip ?_)
    exact pass a w hJ

theorem and127_u8 (x : Nat) (hx : x < 256) : bits .and .u8 (x : Int) 127 = ((x % 128 : Nat) : Int) := by
  have := u8_and_nat x 127 hx (by decide)
  rw [show (127 : Int) = ((127 : Nat) : Int) from rfl, this, show (127 : Nat) = 2 ^ 7 - 1 from rfl, Nat.and_two_pow_sub_one_eq_mod]
theorem or_join (m y s : Nat) (hs : s ≤ 5) (hm : m < 128 ^ s) (hy : y < 128) : bits .or .i64 (m : Int) ((y * 128 ^ s : Nat) : Int) = ((m + y * 128 ^ s : Nat) : Int) := by
  have hc : bits .or .i64 (m : Int) ((y * 128 ^ s : Nat) : Int) = bits .or .i64 ((y * 128 ^ s : Nat) : Int) (m : Int) := by simp only [bits, BitVec.or_comm]
  rw [hc]
  rcases (by omega : s = 0 ∨ s = 1 ∨ s = 2 ∨ s = 3 ∨ s = 4 ∨ s = 5) with rfl | rfl | rfl | rfl | rfl | rfl <;> simp only [Nat.reducePow] at hm ⊢
  · rw [bits_join .i64 63 (by decide) wraps63 0 _ _ (by omega) (by omega) (by omega) (by omega) (by omega) (by omega)]; omega
  · rw [bits_join .i64 63 (by decide) wraps63 7 _ _ (by omega) (by omega) (by omega) (by omega) (by omega) (by omega)]; omega
  · rw [bits_join .i64 63 (by decide) wraps63 14 _ _ (by omega) (by omega) (by omega) (by omega) (by omega) (by omega)]; omega
  · rw [bits_join .i64 63 (by decide) wraps63 21 _ _ (by omega) (by omega) (by omega) (by omega) (by omega) (by omega)]; omega
  · rw [bits_join .i64 63 (by decide) wraps63 28 _ _ (by omega) (by omega) (by omega) (by omega) (by omega) (by omega)]; omega
  · rw [bits_join .i64 63 (by decide) wraps63 35 _ _ (by omega) (by omega) (by omega) (by omega) (by omega) (by omega)]; omega

/-- What holds at the label of number: so many bytes are read. -/
def NumJ (R : Nat) (a : Option Addr) (c : Nat) (l : List Nat) (k : Nat) (w : World) (a' : Act) (wr : World) : Prop :=
  ∃ (m s k' : Nat) (u5 u6 u7 u8 u9 u10 u11 u12 u13 u14 u15 u16 u17 u18 u19 u20 u21 : Value), a' = { tmps := #[.pointer (some ⟨R, 0, none⟩), undef, .int .i64 0, .int .i64 (m : Int), .int .i64 (s : Int), u5, u6, u7, u8, u9, u10, u11, u12, u13, u14, u15, u16, u17, u18, u19, u20, u21, undef, undef, undef, undef, undef, undef, undef, undef, undef, undef, undef, undef], defers := [] } ∧ s ≤ 5 ∧ m < 128 ^ s ∧ Hid (takeF l (6 - s) s m k' = takeN l k) ∧ Hid (RdAt R wr a c l k') ∧ Hid (w.grownBy wr (some R))
def NumM (a' : Act) (_ : World) : Nat := 6 - (intOf (a'.tmps.getD 4 undef)).toNat

set_option maxRecDepth 20000 in
set_option maxHeartbeats 1000000 in
theorem number_reads (R : Nat) (a : Option Addr) (c : Nat) (l : List Nat) (k : Nat) (w : World) (h : RdAt R w a c l k) (hl : l.length ≤ maxLen) :
    Calls Tryz.prog 95 #[.pointer (some ⟨R, 0, none⟩)] w fun e w' => w.grownBy w' (some R) ∧
      ((takeN l k).1 = 0 ∧ e = .returned (.int .i64 ((takeN l k).2.1 : Int)) ∧ RdAt R w' a c l (takeN l k).2.2 ∨
       (takeN l k).1 ≠ 0 ∧ e = .panicked (given (takeN l k).1) ∧ ∃ k', RdAt R w' a c l k') := by
  have H := hide h
  have HL := hide hl
  clear h hl
  go_enter Tryz.func95, Tryz.ntmps95
  go_wp2
  refine wp_scope_back 0 (NumJ R a c l k w) NumM rfl ?_ ?_
  · intro K hK
    go_wp2
    exact ⟨0, 0, k, _, _, _, _, _, _, _, _, _, _, _, _, _, _, _, _, _, rfl, by omega, by decide, rfl, unhide H, grown_refl _ _⟩
  · rintro a' wr ⟨m, s, k', u5, u6, u7, u8, u9, u10, u11, u12, u13, u14, u15, u16, u17, u18, u19, u20, u21, rfl, hs, hm, heq, hr, hg⟩
    by_cases hk : k' < l.length
    · have hx := getD_lt (unhide hr).bytes.lt k'
      go_wp2_with fail
      refine (one_ok R a c l k' wr (unhide hr) hk (unhide HL)).mono ?_
      rintro e w1 ⟨rfl, hr1, hg1⟩
      have Hr1 := hide hr1
      have Hg1 := hide (grown_trans (unhide hg) hg1)
      generalize hxx : l.getD k' 0 = x at *
      have HX := hide hxx
      have hA := and127_u8 x hx
      have hO := or_join m (x % 128) s hs hm (Nat.mod_lt _ (by decide))
      have hy : x % 128 < 128 := Nat.mod_lt _ (by decide)
      generalize hyy : x % 128 = y at *
      have HY := hide hyy
      clear hr1 hg1 hr hg hxx H hyy
      rcases (by omega : s = 0 ∨ s = 1 ∨ s = 2 ∨ s = 3 ∨ s = 4 ∨ s = 5) with rfl | rfl | rfl | rfl | rfl | rfl
      · obtain ⟨n, hn⟩ : ∃ n, n = m + y * 128 ^ 0 := ⟨_, rfl⟩
        have e : ((y * 128 ^ 0 : Nat) : Int) = (y : Int) := by simp only [Nat.reducePow]; omega
        rw [e, ← hn] at hO
        have hlt := hide (show n < 128 ^ 1 by rw [hn]; simp only [Nat.reducePow] at hm ⊢; omega)
        have HN := hide hn
        clear e hn hm hs
        by_cases h128 : 128 ≤ x
        · have ht := hide ((takeF_more 5 0 m (unhide HX) hk h128 (by decide)).symm.trans (unhide heq))
          go_wp2_with fail
          go_step3
          refine ⟨rfl, ⟨n, 1, k' + 1, _, _, _, _, _, _, _, _, _, _, _, _, _, _, _, _, _, rfl, by omega, unhide hlt, ?_, unhide Hr1, unhide Hg1⟩, by simp [NumM, intOf]⟩
          rw [unhide HN, ← unhide HY]
          exact unhide ht
        · have hyx : y = x := by have := unhide HY; omega
          subst hyx
          by_cases hb : 1099511627776 < n
          · have ht := hide ((takeF_big 5 0 m (unhide HX) hk h128 (fun h => absurd h.2 (by decide)) (by rw [← unhide HN]; exact hb)).symm.trans (unhide heq))
            go_wp2_with fail
            all_goals (have := unhide hlt; omega)
          · have ht := hide ((takeF_ok 5 0 m (unhide HX) hk h128 (fun h => absurd h.2 (by decide)) (by rw [← unhide HN]; exact hb)).symm.trans (unhide heq))
            rw [← unhide HN] at ht
            go_wp2_with fail
            all_goals (simp only [Exit.jump]; go_ret; exact ⟨unhide Hg1, .inl ⟨by rw [← unhide ht], by first | (rw [← unhide ht]; done) | (rw [← unhide ht]; rfl), by rw [← unhide ht]; exact unhide Hr1⟩⟩)
      · obtain ⟨n, hn⟩ : ∃ n, n = m + y * 128 ^ 1 := ⟨_, rfl⟩
        have e : ((y * 128 ^ 1 : Nat) : Int) = ((y : Int) * 128) := by simp only [Nat.reducePow]; omega
        rw [e, ← hn] at hO
        have hlt := hide (show n < 128 ^ 2 by rw [hn]; simp only [Nat.reducePow] at hm ⊢; omega)
        have HN := hide hn
        clear e hn hm hs
        by_cases h128 : 128 ≤ x
        · have ht := hide ((takeF_more 4 1 m (unhide HX) hk h128 (by decide)).symm.trans (unhide heq))
          go_wp2_with fail
          go_step3
          refine ⟨rfl, ⟨n, 2, k' + 1, _, _, _, _, _, _, _, _, _, _, _, _, _, _, _, _, _, rfl, by omega, unhide hlt, ?_, unhide Hr1, unhide Hg1⟩, by simp [NumM, intOf]⟩
          rw [unhide HN, ← unhide HY]
          exact unhide ht
        · have hyx : y = x := by have := unhide HY; omega
          subst hyx
          by_cases h0 : y = 0
          · have ht := hide ((takeF_form 4 1 m (unhide HX) hk h0 (by decide)).symm.trans (unhide heq))
            go_wp2_with fail
            refine (giveUp_calls 4 _).mono ?_
            rintro e w2 ⟨rfl, rfl⟩
            go_wp2
            simp only [Exit.jump]
            refine ⟨rfl, unhide Hg1, .inr ⟨by rw [← unhide ht]; simp, by first | (rw [← unhide ht]; done) | (rw [← unhide ht]; rfl), k' + 1, unhide Hr1⟩⟩
          · by_cases hb : 1099511627776 < n
            · have ht := hide ((takeF_big 4 1 m (unhide HX) hk h128 (fun h => h0 h.1) (by rw [← unhide HN]; exact hb)).symm.trans (unhide heq))
              go_wp2_with fail
              refine (giveUp_calls 6 _).mono ?_
              rintro e w2 ⟨rfl, rfl⟩
              go_wp2
              simp only [Exit.jump]
              refine ⟨rfl, unhide Hg1, .inr ⟨by rw [← unhide ht]; simp, by first | (rw [← unhide ht]; done) | (rw [← unhide ht]; rfl), k' + 1, unhide Hr1⟩⟩
            · have ht := hide ((takeF_ok 4 1 m (unhide HX) hk h128 (fun h => h0 h.1) (by rw [← unhide HN]; exact hb)).symm.trans (unhide heq))
              rw [← unhide HN] at ht
              go_wp2_with fail
              simp only [Exit.jump]
              go_ret
              refine ⟨unhide Hg1, .inl ⟨by rw [← unhide ht], by first | (rw [← unhide ht]; done) | (rw [← unhide ht]; rfl), by rw [← unhide ht]; exact unhide Hr1⟩⟩
      · obtain ⟨n, hn⟩ : ∃ n, n = m + y * 128 ^ 2 := ⟨_, rfl⟩
        have e : ((y * 128 ^ 2 : Nat) : Int) = ((y : Int) * 16384) := by simp only [Nat.reducePow]; omega
        rw [e, ← hn] at hO
        have hlt := hide (show n < 128 ^ 3 by rw [hn]; simp only [Nat.reducePow] at hm ⊢; omega)
        have HN := hide hn
        clear e hn hm hs
        by_cases h128 : 128 ≤ x
        · have ht := hide ((takeF_more 3 2 m (unhide HX) hk h128 (by decide)).symm.trans (unhide heq))
          go_wp2_with fail
          go_step3
          refine ⟨rfl, ⟨n, 3, k' + 1, _, _, _, _, _, _, _, _, _, _, _, _, _, _, _, _, _, rfl, by omega, unhide hlt, ?_, unhide Hr1, unhide Hg1⟩, by simp [NumM, intOf]⟩
          rw [unhide HN, ← unhide HY]
          exact unhide ht
        · have hyx : y = x := by have := unhide HY; omega
          subst hyx
          by_cases h0 : y = 0
          · have ht := hide ((takeF_form 3 2 m (unhide HX) hk h0 (by decide)).symm.trans (unhide heq))
            go_wp2_with fail
            refine (giveUp_calls 4 _).mono ?_
            rintro e w2 ⟨rfl, rfl⟩
            go_wp2
            simp only [Exit.jump]
            refine ⟨rfl, unhide Hg1, .inr ⟨by rw [← unhide ht]; simp, by first | (rw [← unhide ht]; done) | (rw [← unhide ht]; rfl), k' + 1, unhide Hr1⟩⟩
          · by_cases hb : 1099511627776 < n
            · have ht := hide ((takeF_big 3 2 m (unhide HX) hk h128 (fun h => h0 h.1) (by rw [← unhide HN]; exact hb)).symm.trans (unhide heq))
              go_wp2_with fail
              refine (giveUp_calls 6 _).mono ?_
              rintro e w2 ⟨rfl, rfl⟩
              go_wp2
              simp only [Exit.jump]
              refine ⟨rfl, unhide Hg1, .inr ⟨by rw [← unhide ht]; simp, by first | (rw [← unhide ht]; done) | (rw [← unhide ht]; rfl), k' + 1, unhide Hr1⟩⟩
            · have ht := hide ((takeF_ok 3 2 m (unhide HX) hk h128 (fun h => h0 h.1) (by rw [← unhide HN]; exact hb)).symm.trans (unhide heq))
              rw [← unhide HN] at ht
              go_wp2_with fail
              simp only [Exit.jump]
              go_ret
              refine ⟨unhide Hg1, .inl ⟨by rw [← unhide ht], by first | (rw [← unhide ht]; done) | (rw [← unhide ht]; rfl), by rw [← unhide ht]; exact unhide Hr1⟩⟩
      · obtain ⟨n, hn⟩ : ∃ n, n = m + y * 128 ^ 3 := ⟨_, rfl⟩
        have e : ((y * 128 ^ 3 : Nat) : Int) = ((y : Int) * 2097152) := by simp only [Nat.reducePow]; omega
        rw [e, ← hn] at hO
        have hlt := hide (show n < 128 ^ 4 by rw [hn]; simp only [Nat.reducePow] at hm ⊢; omega)
        have HN := hide hn
        clear e hn hm hs
        by_cases h128 : 128 ≤ x
        · have ht := hide ((takeF_more 2 3 m (unhide HX) hk h128 (by decide)).symm.trans (unhide heq))
          go_wp2_with fail
          go_step3
          refine ⟨rfl, ⟨n, 4, k' + 1, _, _, _, _, _, _, _, _, _, _, _, _, _, _, _, _, _, rfl, by omega, unhide hlt, ?_, unhide Hr1, unhide Hg1⟩, by simp [NumM, intOf]⟩
          rw [unhide HN, ← unhide HY]
          exact unhide ht
        · have hyx : y = x := by have := unhide HY; omega
          subst hyx
          by_cases h0 : y = 0
          · have ht := hide ((takeF_form 2 3 m (unhide HX) hk h0 (by decide)).symm.trans (unhide heq))
            go_wp2_with fail
            refine (giveUp_calls 4 _).mono ?_
            rintro e w2 ⟨rfl, rfl⟩
            go_wp2
            simp only [Exit.jump]
            refine ⟨rfl, unhide Hg1, .inr ⟨by rw [← unhide ht]; simp, by first | (rw [← unhide ht]; done) | (rw [← unhide ht]; rfl), k' + 1, unhide Hr1⟩⟩
          · by_cases hb : 1099511627776 < n
            · have ht := hide ((takeF_big 2 3 m (unhide HX) hk h128 (fun h => h0 h.1) (by rw [← unhide HN]; exact hb)).symm.trans (unhide heq))
              go_wp2_with fail
              refine (giveUp_calls 6 _).mono ?_
              rintro e w2 ⟨rfl, rfl⟩
              go_wp2
              simp only [Exit.jump]
              refine ⟨rfl, unhide Hg1, .inr ⟨by rw [← unhide ht]; simp, by first | (rw [← unhide ht]; done) | (rw [← unhide ht]; rfl), k' + 1, unhide Hr1⟩⟩
            · have ht := hide ((takeF_ok 2 3 m (unhide HX) hk h128 (fun h => h0 h.1) (by rw [← unhide HN]; exact hb)).symm.trans (unhide heq))
              rw [← unhide HN] at ht
              go_wp2_with fail
              simp only [Exit.jump]
              go_ret
              refine ⟨unhide Hg1, .inl ⟨by rw [← unhide ht], by first | (rw [← unhide ht]; done) | (rw [← unhide ht]; rfl), by rw [← unhide ht]; exact unhide Hr1⟩⟩
      · obtain ⟨n, hn⟩ : ∃ n, n = m + y * 128 ^ 4 := ⟨_, rfl⟩
        have e : ((y * 128 ^ 4 : Nat) : Int) = ((y : Int) * 268435456) := by simp only [Nat.reducePow]; omega
        rw [e, ← hn] at hO
        have hlt := hide (show n < 128 ^ 5 by rw [hn]; simp only [Nat.reducePow] at hm ⊢; omega)
        have HN := hide hn
        clear e hn hm hs
        by_cases h128 : 128 ≤ x
        · have ht := hide ((takeF_more 1 4 m (unhide HX) hk h128 (by decide)).symm.trans (unhide heq))
          go_wp2_with fail
          go_step3
          refine ⟨rfl, ⟨n, 5, k' + 1, _, _, _, _, _, _, _, _, _, _, _, _, _, _, _, _, _, rfl, by omega, unhide hlt, ?_, unhide Hr1, unhide Hg1⟩, by simp [NumM, intOf]⟩
          rw [unhide HN, ← unhide HY]
          exact unhide ht
        · have hyx : y = x := by have := unhide HY; omega
          subst hyx
          by_cases h0 : y = 0
          · have ht := hide ((takeF_form 1 4 m (unhide HX) hk h0 (by decide)).symm.trans (unhide heq))
            go_wp2_with fail
            refine (giveUp_calls 4 _).mono ?_
            rintro e w2 ⟨rfl, rfl⟩
            go_wp2
            simp only [Exit.jump]
            refine ⟨rfl, unhide Hg1, .inr ⟨by rw [← unhide ht]; simp, by first | (rw [← unhide ht]; done) | (rw [← unhide ht]; rfl), k' + 1, unhide Hr1⟩⟩
          · by_cases hb : 1099511627776 < n
            · have ht := hide ((takeF_big 1 4 m (unhide HX) hk h128 (fun h => h0 h.1) (by rw [← unhide HN]; exact hb)).symm.trans (unhide heq))
              go_wp2_with fail
              refine (giveUp_calls 6 _).mono ?_
              rintro e w2 ⟨rfl, rfl⟩
              go_wp2
              simp only [Exit.jump]
              refine ⟨rfl, unhide Hg1, .inr ⟨by rw [← unhide ht]; simp, by first | (rw [← unhide ht]; done) | (rw [← unhide ht]; rfl), k' + 1, unhide Hr1⟩⟩
            · have ht := hide ((takeF_ok 1 4 m (unhide HX) hk h128 (fun h => h0 h.1) (by rw [← unhide HN]; exact hb)).symm.trans (unhide heq))
              rw [← unhide HN] at ht
              go_wp2_with fail
              simp only [Exit.jump]
              go_ret
              refine ⟨unhide Hg1, .inl ⟨by rw [← unhide ht], by first | (rw [← unhide ht]; done) | (rw [← unhide ht]; rfl), by rw [← unhide ht]; exact unhide Hr1⟩⟩
      · obtain ⟨n, hn⟩ : ∃ n, n = m + y * 128 ^ 5 := ⟨_, rfl⟩
        have e : ((y * 128 ^ 5 : Nat) : Int) = ((y : Int) * 34359738368) := by simp only [Nat.reducePow]; omega
        rw [e, ← hn] at hO
        have hlt := hide (show n < 128 ^ 6 by rw [hn]; simp only [Nat.reducePow] at hm ⊢; omega)
        have HN := hide hn
        clear e hn hm hs
        by_cases h128 : 128 ≤ x
        · have ht := hide ((takeF_last 5 m (unhide HX) hk h128).symm.trans (unhide heq))
          go_wp2_with fail
          refine (giveUp_calls 6 _).mono ?_
          rintro e w2 ⟨rfl, rfl⟩
          go_wp2
          simp only [Exit.jump]
          refine ⟨rfl, unhide Hg1, .inr ⟨by rw [← unhide ht]; simp, by first | (rw [← unhide ht]; done) | (rw [← unhide ht]; rfl), k' + 1, unhide Hr1⟩⟩
        · have hyx : y = x := by have := unhide HY; omega
          subst hyx
          by_cases h0 : y = 0
          · have ht := hide ((takeF_form 0 5 m (unhide HX) hk h0 (by decide)).symm.trans (unhide heq))
            go_wp2_with fail
            refine (giveUp_calls 4 _).mono ?_
            rintro e w2 ⟨rfl, rfl⟩
            go_wp2
            simp only [Exit.jump]
            refine ⟨rfl, unhide Hg1, .inr ⟨by rw [← unhide ht]; simp, by first | (rw [← unhide ht]; done) | (rw [← unhide ht]; rfl), k' + 1, unhide Hr1⟩⟩
          · by_cases hb : 1099511627776 < n
            · have ht := hide ((takeF_big 0 5 m (unhide HX) hk h128 (fun h => h0 h.1) (by rw [← unhide HN]; exact hb)).symm.trans (unhide heq))
              go_wp2_with fail
              refine (giveUp_calls 6 _).mono ?_
              rintro e w2 ⟨rfl, rfl⟩
              go_wp2
              simp only [Exit.jump]
              refine ⟨rfl, unhide Hg1, .inr ⟨by rw [← unhide ht]; simp, by first | (rw [← unhide ht]; done) | (rw [← unhide ht]; rfl), k' + 1, unhide Hr1⟩⟩
            · have ht := hide ((takeF_ok 0 5 m (unhide HX) hk h128 (fun h => h0 h.1) (by rw [← unhide HN]; exact hb)).symm.trans (unhide heq))
              rw [← unhide HN] at ht
              go_wp2_with fail
              simp only [Exit.jump]
              go_ret
              refine ⟨unhide Hg1, .inl ⟨by rw [← unhide ht], by first | (rw [← unhide ht]; done) | (rw [← unhide ht]; rfl), by rw [← unhide ht]; exact unhide Hr1⟩⟩
    · go_wp2_with fail
      have hkl : k' = l.length := Nat.le_antisymm (unhide hr).le (by omega)
      refine (one_short R a c l k' wr (unhide hr) hkl).mono ?_
      rintro e w1 ⟨rfl, hr1, hg1⟩
      go_wp2
      have ht : (takeN l k).1 = 3 := by
        rw [← unhide heq]
        obtain ⟨f, hf⟩ : ∃ f, 6 - s = f + 1 := ⟨5 - s, by omega⟩
        rw [hf, takeF, if_pos (by omega)]
      simp only [Exit.jump]
      refine ⟨rfl, grown_trans (unhide hg) hg1, .inr ⟨by omega, by rw [ht], k', hr1⟩⟩
theorem number_ok (R : Nat) (a : Option Addr) (c : Nat) (l : List Nat) (k n k2 : Nat) (w : World) (h : RdAt R w a c l k) (hl : l.length ≤ maxLen) (ht : takeN l k = (0, n, k2)) :
    Calls Tryz.prog 95 #[.pointer (some ⟨R, 0, none⟩)] w fun e w' => e = .returned (.int .i64 (n : Int)) ∧ RdAt R w' a c l k2 ∧ w.grownBy w' (some R) := by
  refine (number_reads R a c l k w h hl).mono ?_
  rw [ht]
  rintro e w' ⟨hg, ⟨_, rfl, hr⟩ | ⟨h0, _⟩⟩
  · exact ⟨rfl, hr, hg⟩
  · exact absurd rfl h0
theorem number_bad (R : Nat) (a : Option Addr) (c : Nat) (l : List Nat) (k x : Nat) (w : World) (h : RdAt R w a c l k) (hl : l.length ≤ maxLen) (ht : (takeN l k).1 = x) (hx : x ≠ 0) :
    Calls Tryz.prog 95 #[.pointer (some ⟨R, 0, none⟩)] w fun e w' => e = .panicked (given x) ∧ (∃ k', RdAt R w' a c l k') ∧ w.grownBy w' (some R) := by
  refine (number_reads R a c l k w h hl).mono ?_
  rw [ht]
  rintro e w' ⟨hg, ⟨h0, _⟩ | ⟨_, rfl, hr⟩⟩
  · exact absurd h0 hx
  · exact ⟨rfl, hr, hg⟩
/-- How a reader's method ends: it answers and goes on, or gives up. -/
def Ends {α : Type} (R : Nat) (a : Option Addr) (c : Nat) (l : List Nat) (w : World) (V : α → World → Value → Prop) (r : Except Nat (α × Nat)) (e : Ending) (w' : World) : Prop :=
  w.grownBy w' (some R) ∧
  match r with
  | .ok (x, k) => (∃ v, e = .returned v ∧ V x w' v) ∧ RdAt R w' a c l k
  | .error x => e = .panicked (given x)
theorem number_E (R : Nat) (a : Option Addr) (c : Nat) (l : List Nat) (k : Nat) (w : World) (h : RdAt R w a c l k) (hl : l.length ≤ maxLen) :
    Calls Tryz.prog 95 #[.pointer (some ⟨R, 0, none⟩)] w (Ends R a c l w (fun n _ v => v = .int .i64 ((n : Nat) : Int)) (takeE l k)) := by
  refine (number_reads R a c l k w h hl).mono ?_
  rintro e w' ⟨hg, ⟨h0, rfl, hr⟩ | ⟨h0, rfl, hr⟩⟩
  · refine ⟨hg, ?_⟩
    rw [takeE, if_pos h0]
    exact ⟨⟨_, rfl, rfl⟩, hr⟩
  · refine ⟨hg, ?_⟩
    rw [takeE, if_neg h0]
end Go.Proofs.YtpkpnedcecjlbaaGreatDoor
end
/- The contract of wire.caught: what a reading that is given up answers. -/
section
namespace Go.Proofs.YtpkpnedcecjlbaaGreatDoor
open Go.ChangeShapes Go.WideShapes Go.ChangeAt Go.RowKit

theorem run_assert_fault (v : Value) (w : World) : (Instr.typeAssert (.iface 142 v) 20 142 true).run Tryz.prog w = .ok (.tuple #[v, .bool true]) w := by
  simp [Instr.typeAssert, go_sem]
theorem catch_fault (B k : Nat) (w : World) (hb : w.heap[B]? = some (.cells #[.int .i64 0] 27 (0, 0))) :
    CallsD Tryz.prog 108 #[.pointer (some ⟨B, 0, none⟩)] (.panicking (given k)) w fun e u' w' =>
      e = .returned (.tuple #[]) ∧ u' = .panicking [{ v := .iface 142 (.agg #[.int .i64 (k : Int)]), recovered := true }] ∧ w' = (w.alloc (.cells #[.int .i64 (k : Int)] 142)).setCell ⟨B, 0, none⟩ (.int .i64 (k : Int)) := by
  have hlt := (Array.getElem?_eq_some_iff.1 hb).1
  have hb' : (w.alloc (.cells #[.int .i64 (k : Int)] 142)).heap[B]? = some (.cells #[.int .i64 0] 27 (0, 0)) := (Below.heap_alloc w _ B hlt).trans hb
  have hc : (w.alloc (.cells #[.int .i64 (k : Int)] 142)).cell? ⟨B, 0, none⟩ = some (.int .i64 0) := by rw [cell_of_row _ B 0 _ _ _ hb']; rfl
  have hz : (w.alloc (.cells #[.int .i64 (k : Int)] 142)).frozen? ⟨B, 0, none⟩ = false := by simp [World.frozen?, hb']
  clear hb hb' hlt
  refine callsD_of_wpS Tryz.func108 rfl fun c₀ cs hu => ?_
  apply wpS_seq
  apply wpS_region
  simp [wpOpsS, go_sem, recoverD, hu, Tryz.ntmps108, Exit.thenS]
  simp only [Array.replicate, List.replicate]
  have ha := run_assert_fault
  apply wpS_of_wp
  go_wp2
  simp [bodyPostS, results, Tryz.results108]
theorem catch_idle (B : Nat) (w : World) :
    CallsD Tryz.prog 108 #[.pointer (some ⟨B, 0, none⟩)] .returning w fun e u' w' => e = .returned (.tuple #[]) ∧ u' = .returning ∧ w' = w := by
  refine callsD_of_wpS Tryz.func108 rfl fun c₀ cs hu => ?_
  apply wpS_seq
  apply wpS_region
  simp [wpOpsS, go_sem, recoverD, hu, Tryz.ntmps108, Exit.thenS]
  apply wpS_of_wp
  go_wp2
  cases c₀
  simp_all [bodyPostS, results, Tryz.results108]

theorem caught_calls (K : Nat) (caps : Array Value) (w : World) (hK : ∀ (c : Array Value) (w : World), (callFunc K c).run Tryz.prog w = .ok (.enter K c) w) (S : Ending → World → Prop) (hS : Calls Tryz.prog K caps (w.alloc (.cells #[.int .i64 0] 27)) S)
    (hb : ∀ e w', S e w' → w'.heap[w.heap.size]? = some (.cells #[.int .i64 0] 27 (0, 0))) (he : ∀ e w', S e w' → e = .returned (.tuple #[]) ∨ ∃ k : Nat, e = .panicked (given k)) :
    Calls Tryz.prog 93 #[.func (.func K) #[] caps] w fun e w' => ∃ e1 w1, S e1 w1 ∧ w1.grownBy w' (some w.heap.size) ∧ (e1 = .returned (.tuple #[]) ∧ e = .returned (.int .i64 0) ∨ ∃ k : Nat, e1 = .panicked (given k) ∧ e = .returned (.int .i64 (k : Int))) := by
  have hmf : ∀ (fn : Fn) (first cap : Array Value) (w : World), (Instr.makeFunc fn first cap).run Tryz.prog w = .ok (.func fn first cap) w := fun _ _ _ _ => rfl
  have HS := hide hS
  have HB := hide hb
  have HE := hide he
  clear hS hb he
  go_enter_defers Tryz.func93, Tryz.ntmps93
  go_wp2_with fail
  refine (unhide HS).mono ?_
  intro e w1 hs
  have hb1 := unhide HB _ _ hs
  have hlt := (Array.getElem?_eq_some_iff.1 hb1).1
  have hc : w1.cell? ⟨w.heap.size, 0, none⟩ = some (.int .i64 0) := by rw [cell_of_row _ _ 0 _ _ _ hb1]; rfl
  have hz : w1.frozen? ⟨w.heap.size, 0, none⟩ = false := by simp [World.frozen?, hb1]
  rcases unhide HE _ _ hs with rfl | ⟨k, rfl⟩
  · have H1 := hide hb1
    have HS1 := hide hs
    clear hb1 hs
    have hc2 : (w1.setCell ⟨w.heap.size, 0, none⟩ (.int .i64 0)).cell? ⟨w.heap.size, 0, none⟩ = some (.int .i64 0) := by
      have := heap_setCell_same w1 w.heap.size 0 _ 27 (.int .i64 0) (unhide H1)
      rw [cell_of_row _ _ 0 _ _ _ this]; rfl
    go_wp2_with fail
    refine leaves_cons (f := 108) (args := #[.pointer (some ⟨w.heap.size, 0, none⟩)]) (by simp) (by simp [go_sem]) ?_
    refine (catch_idle w.heap.size _).mono ?_
    rintro e u' w'' ⟨rfl, rfl, rfl⟩
    simp [Leaves, settle, results, Tryz.results93, go_sem, hc2]
    exact ⟨_, w1, unhide HS1, grown_set _ _ _ _, .inl rfl⟩
  · have H1 := hide hb1
    have HS1 := hide hs
    clear hb1 hs
    have hb2 := (Below.heap_alloc w1 (.cells #[.int .i64 (k : Int)] 142) _ hlt).trans (unhide H1)
    have hc2 : ((w1.alloc (.cells #[.int .i64 (k : Int)] 142)).setCell ⟨w.heap.size, 0, none⟩ (.int .i64 (k : Int))).cell? ⟨w.heap.size, 0, none⟩ = some (.int .i64 (k : Int)) := by
      have := heap_setCell_same _ w.heap.size 0 _ 27 (.int .i64 (k : Int)) hb2
      rw [cell_of_row _ _ 0 _ _ _ this]; rfl
    clear hb2
    go_wp2_with fail
    refine leaves_cons (f := 108) (args := #[.pointer (some ⟨w.heap.size, 0, none⟩)]) (by simp) (by simp [go_sem]) ?_
    refine (catch_fault w.heap.size k _ (unhide H1)).mono ?_
    rintro e u' w'' ⟨rfl, rfl, rfl⟩
    simp [Leaves, settle, results, Tryz.results93, go_sem, hc2]
    exact ⟨_, w1, unhide HS1, grown_trans (grown_below _ ((Below.refl _ _).alloc (Nat.le_refl _) _)) (grown_set _ _ _ _), .inr ⟨k, rfl, rfl⟩⟩
end Go.Proofs.YtpkpnedcecjlbaaGreatDoor
end
/- The contract of wire.Number. -/
section
namespace Go.Proofs.YtpkpnedcecjlbaaGreatDoor
open Go.ChangeShapes Go.WideShapes Go.ChangeAt Go.RowKit

theorem number_no (n : Int) (w : World) (h : ¬ (0 ≤ n ∧ n ≤ 1099511627776)) :
    Calls Tryz.prog 55 #[.int .i64 n] w fun e w' => e = .returned (.tuple #[.slice none 0 0, .int .i64 2]) ∧ w' = w := by
  have H := hide h
  clear h
  go_enter Tryz.func55, Tryz.ntmps55
  go_wp2_with fail
  refine (within_no n 0 1099511627776 _ (unhide H)).mono ?_
  rintro e w' ⟨rfl, rfl⟩
  go_wp2
  go_ret2
  exact ⟨rfl, rfl⟩
theorem number_yes (n : Nat) (w : World) (h : n ≤ 1099511627776) :
    Calls Tryz.prog 55 #[.int .i64 (n : Int)] w fun e w' => ∃ sp n' c', e = .returned (.tuple #[.slice sp n' c', .int .i64 0]) ∧ Hid ((numB n).length = n') ∧ OwnB w.heap.size w' sp c' (numB n) ∧ Below w.heap.size w w' := by
  go_enter Tryz.func55, Tryz.ntmps55
  go_wp2_with fail
  refine (within_yes n 0 1099511627776 _ ⟨by omega, by omega⟩).mono ?_
  rintro e w1 ⟨rfl, rfl⟩
  go_wp2_with fail
  refine (addNumber_calls w1.heap.size none 0 0 [] n _ rfl (OwnB.ofNil _ _) (by simp) h (Nat.le_refl _)).mono ?_
  rintro e w' ⟨sp, n', c', rfl, hn, ho, hb⟩
  rw [List.nil_append] at hn ho
  go_wp2
  go_ret2
  exact ⟨sp, n', c', rfl, hn, ho, hb⟩
end Go.Proofs.YtpkpnedcecjlbaaGreatDoor
end
/- The contract of wire.PutHard. -/
section
namespace Go.Proofs.YtpkpnedcecjlbaaGreatDoor
open Go.ChangeShapes Go.WideShapes Go.ChangeAt Go.RowKit

theorem size_alloc (w : World) (o : Obj) : (w.alloc o).heap.size = w.heap.size + 1 := by simp
theorem numB_short (n : Nat) (h : n ≤ 1099511627776) : (numB n).length ≤ 6 := by
  have key : ∀ (s m : Nat), m < 128 ^ (s + 1) → (numB m).length ≤ s + 1 := by
    intro s
    induction s with
    | zero => intro m hm; rw [numB_small (by simpa using hm)]; simp
    | succ s ih =>
      intro m hm
      by_cases h : m < 128
      · rw [numB_small h]; simp
      · rw [numB_great h, List.length_cons]
        have := ih (m / 128) (by rw [Nat.div_lt_iff_lt_mul (by decide)]; rw [Nat.pow_succ] at hm; exact hm)
        omega
  exact key 5 n (by omega)
end Go.Proofs.YtpkpnedcecjlbaaGreatDoor
end
/- What a reading behind 'caught' leaves: all blocks but two; a new reader. -/
section
namespace Go.Proofs.YtpkpnedcecjlbaaGreatDoor
open Go.ChangeShapes Go.WideShapes Go.ChangeAt Go.RowKit

/-- All blocks stay but two. -/
structure Kept (R N : Nat) (w w' : World) : Prop where
  os : w'.os = w.os
  tape : w'.tape = w.tape
  output : w'.output = w.output
  size : w.heap.size ≤ w'.heap.size
  block : ∀ j, j < w.heap.size → j ≠ R → j ≠ N → w'.heap[j]? = w.heap[j]?
theorem Kept.ofGrown {R N : Nat} {w w' : World} (h : w.grownBy w' (some R)) : Kept R N w w' :=
  ⟨h.os, h.tape, h.output, h.size, fun j hj hR _ => h.block j hj (fun e => hR (Option.some.inj e))⟩
theorem Kept.ofGrown' {R N : Nat} {w w' : World} (h : w.grownBy w' (some N)) : Kept R N w w' :=
  ⟨h.os, h.tape, h.output, h.size, fun j hj _ hN => h.block j hj (fun e => hN (Option.some.inj e))⟩
theorem Kept.refl (R N : Nat) (w : World) : Kept R N w w := ⟨rfl, rfl, rfl, Nat.le_refl _, fun _ _ _ _ => rfl⟩
theorem Kept.trans {R N : Nat} {a b c : World} (h : Kept R N a b) (k : Kept R N b c) : Kept R N a c :=
  ⟨k.os.trans h.os, k.tape.trans h.tape, k.output.trans h.output, Nat.le_trans h.size k.size, fun j hj h1 h2 => (k.block j (Nat.lt_of_lt_of_le hj h.size) h1 h2).trans (h.block j hj h1 h2)⟩
theorem Kept.below {R N B : Nat} {w w' : World} (h : Kept R N w w') (hB : B ≤ w.heap.size) (hR : B ≤ R) (hN : B ≤ N) : Below B w w' :=
  ⟨h.os, h.tape, h.output, h.size, fun j hj => h.block j (by omega) (by omega) (by omega)⟩

theorem rd_new {w W : World} {a : Option Addr} {c : Nat} {l : List Nat} {k R : Nat} (hb : BytesAt w a l) (hW : Below w.heap.size w W) (hR : w.heap.size ≤ R) (hblk : W.heap[R]? = some (.cells #[.slice a l.length c, .int .i64 (k : Int)] 129 (0, 0))) (hk : k ≤ l.length) : RdAt R W a c l k :=
  ⟨hblk, hb.later hW, fun b off h0 e => by have := block_lt hb h0 b off e; omega, hk⟩
end Go.Proofs.YtpkpnedcecjlbaaGreatDoor
end
