/- Proved: an entry and a hard state that are put are got as they were, and no other bytes are taken for them; no condition. -/
import Derived.Test.YtcficfjgddjeeabStr
import Derived.Test.YtcficfjgddjeeabWliv
import Derived.Test.YtcficfjgddjeeabRgent
import Derived.Test.YtcficfjgddjeeabSame
import Derived.Test.YtcficfjgddjeeabTent
namespace Go.Proofs.Ytcficfjgddjeeab.wireEntryBack
open Go.ChangeShapes Go.WideShapes Go.ChangeAt Go.RowKit
set_option linter.unusedVariables false

theorem own : ownKnob Try.prog.godebug = none := by kernel_rfl
theorem laidOut : laidOutB Try.prog = true := by kernel_rfl

theorem OwnB.nilCap {base : Nat} {w : World} {sp : Option Addr} {c : Nat} {l : List Nat} (h : OwnB base w sp c l) : sp = none → c = 0 := by
  intro e
  subst e
  rcases h.owns.2 with ⟨hv, _⟩ | ⟨g, cap, cur, hv, _⟩
  · simp only [Value.slice.injEq] at hv; exact hv.2.2
  · cases hv
theorem entB_eq (k t i : Nat) (d : List Nat) : entryB k t i d = entB' k t i d := rfl
theorem later_block {w w' : World} {j : Nat} {o : Obj} (hb : Below w.heap.size w w') (h : w.heap[j]? = some o) : w'.heap[j]? = some o := (hb.block j (Array.getElem?_eq_some_iff.1 h).1).trans h
theorem str_same (l : List Nat) : ((strOf l).toList == (strOf l).toList) = true := by simp
/-- PutEntry answers bytes, or an error. -/
theorem putEntry_dec (k t i : Int) (dp : Option Addr) (m dc : Nat) (d : List Nat) (hm : d.length = m) (hz : dp = none → dc = 0) :
    (∃ k' t' i' : Nat, k = (k' : Int) ∧ t = (t' : Int) ∧ i = (i' : Int) ∧ EntOk k' t' i' d) ∨
    (∃ x : Nat, x ≠ 0 ∧ ∀ w : World, Calls Try.prog 16 #[entV k t i dp m dc] w fun e w' => e = .returned (.tuple #[.slice none 0 0, .int .i64 (x : Int)]) ∧ Below w.heap.size w w') := by
  by_cases h : MayE k t i m
  · by_cases hl : m ≤ 2048
    · obtain ⟨⟨h1, h1'⟩, ⟨h2, h2'⟩, ⟨h3, h3'⟩, h4⟩ := h
      refine .inl ⟨k.toNat, t.toNat, i.toNat, by omega, by omega, by omega, by omega, by omega, by omega, fun e => List.eq_nil_of_length_eq_zero ?_, by omega⟩
      rcases h4 with h4 | h4
      · omega
      · omega
    · exact .inr ⟨6, by decide, fun w => putEntry_long k t i dp m dc w h (by omega)⟩
  · exact .inr ⟨2, by decide, fun w => putEntry_no k t i dp m dc w h⟩
theorem entOk_may {k t i : Nat} {d : List Nat} (h : EntOk k t i d) : MayE k t i d.length := by
  obtain ⟨⟨h1, h1'⟩, ⟨h2, h2'⟩, ⟨h3, h3'⟩, h4, h5⟩ := h
  refine ⟨⟨by omega, by omega⟩, ⟨by omega, by omega⟩, ⟨by omega, by omega⟩, ?_⟩
  by_cases hk : k = 1
  · exact .inr (by rw [h4 hk]; rfl)
  · exact .inl (by omega)
set_option maxHeartbeats 4000000 in
theorem walk (k0 t0 u0 : Int) (a0 : Option Addr) (c0 : Nat) (l0 : List Nat) (t1 u1 : Int) (a2 : Option Addr) (c2 : Nat) (l2 : List Nat) (w : World) (bk0 : -9223372036854775808 ≤ k0 ∧ k0 ≤ 9223372036854775807) (bt0 : -9223372036854775808 ≤ t0 ∧ t0 ≤ 9223372036854775807) (bu0 : -9223372036854775808 ≤ u0 ∧ u0 ≤ 9223372036854775807)
    (hc0 : l0.length ≤ c0) (hx0 : c0 ≤ maxLen) (hb0 : BytesAt w a0 l0) (hz0 : a0 = none → c0 = 0) (bt1 : -9223372036854775808 ≤ t1 ∧ t1 ≤ 9223372036854775807) (bu1 : -9223372036854775808 ≤ u1 ∧ u1 ≤ 9223372036854775807)
    (hc2 : l2.length ≤ c2) (hm2 : c2 ≤ 140737488355328) (hb2 : BytesAt w a2 l2) (hz2 : a2 = none → c2 = 0) :
    Calls Try.prog 7 #[.agg #[.int .i64 k0, .int .i64 t0, .int .i64 u0, .slice a0 l0.length c0], .agg #[.int .i64 t1, .int .i64 u1], .slice a2 l2.length c2] w fun e w' => e = .returned (.bool true) ∧ Below w.heap.size w w' := by
  have HB0 := hide hb0
  have HB2 := hide hb2
  have HL2 := hide (show l2.length ≤ 140737488355328 by omega)
  have HC2 := hide hc2
  have HZ2 := hide hz2
  have HZ0 := hide hz0
  clear hb0 hb2 hc2 hm2 hz2 hz0 hc0 hx0 bk0 bt0 bu0 bt1 bu1
  have X0 := hide (heap_old (.cells #[.int .i64 t1, .int .i64 u1] 41) (heap_new w (entB k0 t0 u0 a0 l0.length c0)))
  have Y0' := heap_new (w.alloc (entB k0 t0 u0 a0 l0.length c0)) (.cells #[.int .i64 t1, .int .i64 u1] 41)
  rw [size_alloc] at Y0'
  have Y0 := hide Y0'
  have F0 := hide (show Below w.heap.size w ((w.alloc (entB k0 t0 u0 a0 l0.length c0)).alloc (.cells #[.int .i64 t1, .int .i64 u1] 41)) from ((Below.refl _ _).alloc (Nat.le_refl _) _).alloc (by rw [size_alloc]; omega) _)
  obtain ⟨c00, c01, c02, c03⟩ := entB_cells (unhide X0)
  clear Y0'
  have hdec := putEntry_dec k0 t0 u0 a0 l0.length c0 l0 rfl (unhide HZ0)
  go_enter Try.func7, Try.ntmps7
  go_wp2_with fail
  generalize (w.alloc (entB k0 t0 u0 a0 l0.length c0)).alloc (.cells #[.int .i64 t1, .int .i64 u1] 41) = W0 at *
  rcases hdec with ⟨kd, t, i, rfl, rfl, rfl, hok⟩ | ⟨x, hx, hP⟩
  · have HOK := hide hok
    clear hok
    refine (putEntry_yes kd t i a0 _ c0 l0 _ (entOk_may (unhide HOK)) rfl ((unhide HB0).later (unhide F0)) (unhide HZ0) (unhide HOK).2.2.2.2).mono ?_
    rintro e W1 ⟨sp1, m1, k1, rfl, hm1, ho1, hb1⟩
    have X1 := hide (later_block hb1 (unhide X0))
    have Y1 := hide (later_block hb1 (unhide Y0))
    have F1 := hide ((unhide F0).trans (hb1.mono (unhide F0).size))
    rw [entB_eq] at hm1 ho1
    have O1 := hide ho1
    have hgot := hide (entry_got (unhide HOK))
    have hlen1 := hide (show (entB' kd t i l0).length ≤ 140737488355328 by have := (unhide HOK).2.2.2.2; have := numB_short t (by have := (unhide HOK).2.1; omega); have := numB_short i (by have := (unhide HOK).2.2.1; omega); have := numB_short l0.length (by omega); simp only [entB', List.length_cons, List.length_append]; omega)
    clear ho1 hb1 c00 c01 c02 c03
    go_wp2_with fail
    refine (getEntry_calls sp1 m1 k1 _ _ (unhide hm1) (unhide hlen1) (unhide O1).cap.1 (OwnB.nilCap (unhide O1)) (unhide O1).bytes).mono ?_
    rw [unhide hgot]
    rintro e W2 ⟨⟨v2, rfl, sp2, m2, k2, rfl, hm2, ho2⟩, hb2⟩
    have X2 := hide (later_block hb2 (unhide X1))
    have Y2 := hide (later_block hb2 (unhide Y1))
    have F2 := hide ((unhide F1).trans (hb2.mono (unhide F1).size))
    have B2 := hide ho2.bytes
    simp only at hm2
    simp only
    have hb3 : Below W2.heap.size W2 (W2.alloc (entB (kd : Int) (t : Int) (i : Int) sp2 m2 k2)) := (Below.refl _ _).alloc (Nat.le_refl _) _
    obtain ⟨q0, q1, q2, q3⟩ := entB_cells (heap_new W2 (entB (kd : Int) (t : Int) (i : Int) sp2 m2 k2))
    have X3 := hide (later_block hb3 (unhide X2))
    have Y3 := hide (later_block hb3 (unhide Y2))
    have F3 := hide ((unhide F2).trans (hb3.mono (unhide F2).size))
    obtain ⟨c00, c01, c02, c03⟩ := entB_cells (unhide X3)
    have C3 := hide ((unhide B2).later hb3)
    clear hb2 hb3 ho2
    go_wp2_with fail
    generalize W2.alloc (entB (kd : Int) (t : Int) (i : Int) sp2 m2 k2) = W3 at *
    refine (sameEntry_yes (kd : Int) (t : Int) (i : Int) a0 sp2 _ m2 c0 k2 l0 _ rfl (unhide hm2) ((unhide HB0).later (unhide F3)) (unhide C3)).mono ?_
    rintro e W4 ⟨rfl, hb4⟩
    have X4 := hide (later_block hb4 (unhide X3))
    have Y4 := hide (later_block hb4 (unhide Y3))
    have F4 := hide ((unhide F3).trans (hb4.mono (unhide F3).size))
    clear hb4 q0 q1 q2 q3 c00 c01 c02 c03
    obtain ⟨g0, g1, _, _⟩ := pair_cells (unhide Y4)
    go_wp2_with fail
    by_cases hh : 0 ≤ t1 ∧ t1 ≤ 1099511627776 ∧ 0 ≤ u1 ∧ u1 ≤ 9
    · obtain ⟨t, ht⟩ := Int.eq_ofNat_of_zero_le hh.1
      obtain ⟨v, hv⟩ := Int.eq_ofNat_of_zero_le hh.2.2.1
      subst ht hv
      have ht : t ≤ 1099511627776 := by omega
      have hv : v ≤ 9 := by omega
      clear hh
      refine (putHard_yes t v _ ht hv).mono ?_
      rintro e W5 ⟨sp5, m5, k5, rfl, hm5, ho5, hb5⟩
      have X5 := hide (later_block hb5 (unhide X4))
      have Y5 := hide (later_block hb5 (unhide Y4))
      have F5 := hide ((unhide F4).trans (hb5.mono (unhide F4).size))
      have O5 := hide ho5
      have hgot := hide (hard_got ht hv)
      have hlen5 := hide (show (numB t ++ numB v).length ≤ maxLen by have := numB_short t ht; have := numB_short v (by omega); simp only [List.length_append, maxLen]; omega)
      clear ho5 hb5 g0 g1
      go_wp2_with fail
      refine (getHard_calls sp5 m5 k5 _ _ (unhide hm5) (unhide hlen5) (unhide O5).bytes).mono ?_
      rw [unhide hgot]
      rintro e W6 ⟨rfl, hb6⟩
      have X6 := hide (later_block hb6 (unhide X5))
      have Y6 := hide (later_block hb6 (unhide Y5))
      have F6 := hide ((unhide F5).trans (hb6.mono (unhide F5).size))
      simp only [hardV]
      have hb7 : Below W6.heap.size W6 (W6.alloc (.cells #[.int .i64 (t : Int), .int .i64 (v : Int)] 41)) := (Below.refl _ _).alloc (Nat.le_refl _) _
      have P7 := heap_new W6 (.cells #[.int .i64 (t : Int), .int .i64 (v : Int)] 41)
      have X7 := hide (later_block hb7 (unhide X6))
      have Y7 := hide (later_block hb7 (unhide Y6))
      have F7 := hide ((unhide F6).trans (hb7.mono (unhide F6).size))
      obtain ⟨p0, p1, _, _⟩ := pair_cells P7
      obtain ⟨g0, g1, _, _⟩ := pair_cells (unhide Y7)
      clear P7 hb7 hb6
      go_wp2_with fail
      generalize W6.alloc (.cells #[.int .i64 (t : Int), .int .i64 (v : Int)] 41) = W7 at *
      clear p0 p1 g0 g1
      refine (getEntry_calls a2 _ c2 l2 _ rfl (unhide HL2) (unhide HC2) (unhide HZ2) ((unhide HB2).later (unhide F7))).mono ?_
      rintro e W8 ⟨⟨v8, rfl, hv8⟩, hb8⟩
      have X8 := hide (later_block hb8 (unhide X7))
      have Y8 := hide (later_block hb8 (unhide Y7))
      have F8 := hide ((unhide F7).trans (hb8.mono (unhide F7).size))
      cases hr : wholeE l2 (entryE l2 0) with
      | error x =>
        rw [hr] at hv8
        obtain rfl := hv8
        have hx : ¬ (x : Int) = 0 := by have := wholeE_pos hr (fun y hy => entryE_pos hy); omega
        clear hb8
        go_wp2_with fail
        have hbx : Below W8.heap.size W8 (W8.alloc (entB 0 0 0 none 0 0)) := (Below.refl _ _).alloc (Nat.le_refl _) _
        have FF := hide ((unhide F8).trans (hbx.mono (unhide F8).size))
        refine (live2_calls _).mono ?_
        rintro e W9 ⟨rfl, hb9⟩
        have GG := hide ((unhide FF).trans (hb9.mono (unhide FF).size))
        clear hb9 hbx
        go_wp2
        go_ret
        exact ⟨rfl, unhide GG⟩
      | ok p =>
        obtain ⟨kd, t, i, d⟩ := p
        rw [hr] at hv8
        obtain ⟨sp8, m8, k8, rfl, hm8, ho8⟩ := hv8
        obtain ⟨hl2, hok⟩ := entry_back (unhide HB2).lt hr
        have HL := hide hl2
        have HOK := hide hok
        have O8 := hide ho8
        clear hl2 hok ho8
        have hb10 : Below W8.heap.size W8 (W8.alloc (entB (kd : Int) (t : Int) (i : Int) sp8 m8 k8)) := (Below.refl _ _).alloc (Nat.le_refl _) _
        obtain ⟨q0, q1, q2, q3⟩ := entB_cells (heap_new W8 (entB (kd : Int) (t : Int) (i : Int) sp8 m8 k8))
        have X10 := hide (later_block hb10 (unhide X8))
        have Y10 := hide (later_block hb10 (unhide Y8))
        have F10 := hide ((unhide F8).trans (hb10.mono (unhide F8).size))
        have B10 := hide ((unhide O8).bytes.later hb10)
        have N10 := hide (OwnB.nilCap (unhide O8))
        clear hb8 hb10
        go_wp2_with fail
        generalize W8.alloc (entB (kd : Int) (t : Int) (i : Int) sp8 m8 k8) = W10 at *
        have hmm := unhide hm8
        subst hmm
        refine (putEntry_yes kd t i sp8 d.length k8 d _ (entOk_may (unhide HOK)) rfl (unhide B10) (unhide N10) (unhide HOK).2.2.2.2).mono ?_
        rintro e W11 ⟨sp11, m11, k11, rfl, hm11, ho11, hb11⟩
        have X11 := hide (later_block hb11 (unhide X10))
        have Y11 := hide (later_block hb11 (unhide Y10))
        have F11 := hide ((unhide F10).trans (hb11.mono (unhide F10).size))
        rw [entB_eq, ← unhide HL] at hm11 ho11
        have s1 := run_string8 (c := k11) m11 (unhide hm11) ho11.bytes
        have s2 := run_string8 (c := c2) l2.length rfl ((unhide HB2).later (unhide F11))
        have t1' := str_same l2
        clear ho11 hb11 q0 q1 q2 q3
        go_wp2_with fail
        refine (live2_calls _).mono ?_
        rintro e W12 ⟨rfl, hb12⟩
        have GG := hide ((unhide F11).trans (hb12.mono (unhide F11).size))
        clear hb12
        go_wp2
        go_ret
        exact ⟨rfl, unhide GG⟩
    · refine (putHard_no t1 u1 _ hh).mono ?_
      rintro e W13 ⟨rfl, hb13⟩
      have X13 := hide (later_block hb13 (unhide X4))
      have Y13 := hide (later_block hb13 (unhide Y4))
      have F13 := hide ((unhide F4).trans (hb13.mono (unhide F4).size))
      clear hb13 g0 g1 hh
      go_wp2_with fail
      refine (getEntry_calls a2 _ c2 l2 _ rfl (unhide HL2) (unhide HC2) (unhide HZ2) ((unhide HB2).later (unhide F13))).mono ?_
      rintro e W14 ⟨⟨v14, rfl, hv14⟩, hb14⟩
      have X14 := hide (later_block hb14 (unhide X13))
      have Y14 := hide (later_block hb14 (unhide Y13))
      have F14 := hide ((unhide F13).trans (hb14.mono (unhide F13).size))
      cases hr : wholeE l2 (entryE l2 0) with
      | error x =>
        rw [hr] at hv14
        obtain rfl := hv14
        have hx : ¬ (x : Int) = 0 := by have := wholeE_pos hr (fun y hy => entryE_pos hy); omega
        clear hb14
        go_wp2_with fail
        have hbx : Below W14.heap.size W14 (W14.alloc (entB 0 0 0 none 0 0)) := (Below.refl _ _).alloc (Nat.le_refl _) _
        have FF := hide ((unhide F14).trans (hbx.mono (unhide F14).size))
        refine (live2_calls _).mono ?_
        rintro e W15 ⟨rfl, hb15⟩
        have GG := hide ((unhide FF).trans (hb15.mono (unhide FF).size))
        clear hb15 hbx
        go_wp2
        go_ret
        exact ⟨rfl, unhide GG⟩
      | ok p =>
        obtain ⟨kd, t, i, d⟩ := p
        rw [hr] at hv14
        obtain ⟨sp14, m14, k14, rfl, hm14, ho14⟩ := hv14
        obtain ⟨hl2, hok⟩ := entry_back (unhide HB2).lt hr
        have HL := hide hl2
        have HOK := hide hok
        have O14 := hide ho14
        clear hl2 hok ho14
        have hb16 : Below W14.heap.size W14 (W14.alloc (entB (kd : Int) (t : Int) (i : Int) sp14 m14 k14)) := (Below.refl _ _).alloc (Nat.le_refl _) _
        obtain ⟨q0, q1, q2, q3⟩ := entB_cells (heap_new W14 (entB (kd : Int) (t : Int) (i : Int) sp14 m14 k14))
        have X16 := hide (later_block hb16 (unhide X14))
        have Y16 := hide (later_block hb16 (unhide Y14))
        have F16 := hide ((unhide F14).trans (hb16.mono (unhide F14).size))
        have B16 := hide ((unhide O14).bytes.later hb16)
        have N16 := hide (OwnB.nilCap (unhide O14))
        clear hb14 hb16
        go_wp2_with fail
        generalize W14.alloc (entB (kd : Int) (t : Int) (i : Int) sp14 m14 k14) = W16 at *
        have hmm := unhide hm14
        subst hmm
        refine (putEntry_yes kd t i sp14 d.length k14 d _ (entOk_may (unhide HOK)) rfl (unhide B16) (unhide N16) (unhide HOK).2.2.2.2).mono ?_
        rintro e W17 ⟨sp17, m17, k17, rfl, hm17, ho17, hb17⟩
        have X17 := hide (later_block hb17 (unhide X16))
        have Y17 := hide (later_block hb17 (unhide Y16))
        have F17 := hide ((unhide F16).trans (hb17.mono (unhide F16).size))
        rw [entB_eq, ← unhide HL] at hm17 ho17
        have s1 := run_string8 (c := k17) m17 (unhide hm17) ho17.bytes
        have s2 := run_string8 (c := c2) l2.length rfl ((unhide HB2).later (unhide F17))
        have t1' := str_same l2
        clear ho17 hb17 q0 q1 q2 q3
        go_wp2_with fail
        refine (live2_calls _).mono ?_
        rintro e W18 ⟨rfl, hb18⟩
        have GG := hide ((unhide F17).trans (hb18.mono (unhide F17).size))
        clear hb18
        go_wp2
        go_ret
        exact ⟨rfl, unhide GG⟩
  · refine (hP _).mono ?_
    rintro e W19 ⟨rfl, hb19⟩
    have X19 := hide (later_block hb19 (unhide X0))
    have Y19 := hide (later_block hb19 (unhide Y0))
    have F19 := hide ((unhide F0).trans (hb19.mono (unhide F0).size))
    have hx0 : ¬ (x : Int) = 0 := by omega
    clear hb19 c00 c01 c02 c03 hP hx
    obtain ⟨g0, g1, _, _⟩ := pair_cells (unhide Y19)
    go_wp2_with fail
    by_cases hh : 0 ≤ t1 ∧ t1 ≤ 1099511627776 ∧ 0 ≤ u1 ∧ u1 ≤ 9
    · obtain ⟨t, ht⟩ := Int.eq_ofNat_of_zero_le hh.1
      obtain ⟨v, hv⟩ := Int.eq_ofNat_of_zero_le hh.2.2.1
      subst ht hv
      have ht : t ≤ 1099511627776 := by omega
      have hv : v ≤ 9 := by omega
      clear hh
      refine (putHard_yes t v _ ht hv).mono ?_
      rintro e W20 ⟨sp20, m20, k20, rfl, hm20, ho20, hb20⟩
      have X20 := hide (later_block hb20 (unhide X19))
      have Y20 := hide (later_block hb20 (unhide Y19))
      have F20 := hide ((unhide F19).trans (hb20.mono (unhide F19).size))
      have O20 := hide ho20
      have hgot := hide (hard_got ht hv)
      have hlen20 := hide (show (numB t ++ numB v).length ≤ maxLen by have := numB_short t ht; have := numB_short v (by omega); simp only [List.length_append, maxLen]; omega)
      clear ho20 hb20 g0 g1
      go_wp2_with fail
      refine (getHard_calls sp20 m20 k20 _ _ (unhide hm20) (unhide hlen20) (unhide O20).bytes).mono ?_
      rw [unhide hgot]
      rintro e W21 ⟨rfl, hb21⟩
      have X21 := hide (later_block hb21 (unhide X20))
      have Y21 := hide (later_block hb21 (unhide Y20))
      have F21 := hide ((unhide F20).trans (hb21.mono (unhide F20).size))
      simp only [hardV]
      have hb22 : Below W21.heap.size W21 (W21.alloc (.cells #[.int .i64 (t : Int), .int .i64 (v : Int)] 41)) := (Below.refl _ _).alloc (Nat.le_refl _) _
      have P22 := heap_new W21 (.cells #[.int .i64 (t : Int), .int .i64 (v : Int)] 41)
      have X22 := hide (later_block hb22 (unhide X21))
      have Y22 := hide (later_block hb22 (unhide Y21))
      have F22 := hide ((unhide F21).trans (hb22.mono (unhide F21).size))
      obtain ⟨p0, p1, _, _⟩ := pair_cells P22
      obtain ⟨g0, g1, _, _⟩ := pair_cells (unhide Y22)
      clear P22 hb22 hb21
      go_wp2_with fail
      generalize W21.alloc (.cells #[.int .i64 (t : Int), .int .i64 (v : Int)] 41) = W22 at *
      clear p0 p1 g0 g1
      refine (getEntry_calls a2 _ c2 l2 _ rfl (unhide HL2) (unhide HC2) (unhide HZ2) ((unhide HB2).later (unhide F22))).mono ?_
      rintro e W23 ⟨⟨v23, rfl, hv23⟩, hb23⟩
      have X23 := hide (later_block hb23 (unhide X22))
      have Y23 := hide (later_block hb23 (unhide Y22))
      have F23 := hide ((unhide F22).trans (hb23.mono (unhide F22).size))
      cases hr : wholeE l2 (entryE l2 0) with
      | error x =>
        rw [hr] at hv23
        obtain rfl := hv23
        have hx : ¬ (x : Int) = 0 := by have := wholeE_pos hr (fun y hy => entryE_pos hy); omega
        clear hb23
        go_wp2_with fail
        have hbx : Below W23.heap.size W23 (W23.alloc (entB 0 0 0 none 0 0)) := (Below.refl _ _).alloc (Nat.le_refl _) _
        have FF := hide ((unhide F23).trans (hbx.mono (unhide F23).size))
        refine (live2_calls _).mono ?_
        rintro e W24 ⟨rfl, hb24⟩
        have GG := hide ((unhide FF).trans (hb24.mono (unhide FF).size))
        clear hb24 hbx
        go_wp2
        go_ret
        exact ⟨rfl, unhide GG⟩
      | ok p =>
        obtain ⟨kd, t, i, d⟩ := p
        rw [hr] at hv23
        obtain ⟨sp23, m23, k23, rfl, hm23, ho23⟩ := hv23
        obtain ⟨hl2, hok⟩ := entry_back (unhide HB2).lt hr
        have HL := hide hl2
        have HOK := hide hok
        have O23 := hide ho23
        clear hl2 hok ho23
        have hb25 : Below W23.heap.size W23 (W23.alloc (entB (kd : Int) (t : Int) (i : Int) sp23 m23 k23)) := (Below.refl _ _).alloc (Nat.le_refl _) _
        obtain ⟨q0, q1, q2, q3⟩ := entB_cells (heap_new W23 (entB (kd : Int) (t : Int) (i : Int) sp23 m23 k23))
        have X25 := hide (later_block hb25 (unhide X23))
        have Y25 := hide (later_block hb25 (unhide Y23))
        have F25 := hide ((unhide F23).trans (hb25.mono (unhide F23).size))
        have B25 := hide ((unhide O23).bytes.later hb25)
        have N25 := hide (OwnB.nilCap (unhide O23))
        clear hb23 hb25
        go_wp2_with fail
        generalize W23.alloc (entB (kd : Int) (t : Int) (i : Int) sp23 m23 k23) = W25 at *
        have hmm := unhide hm23
        subst hmm
        refine (putEntry_yes kd t i sp23 d.length k23 d _ (entOk_may (unhide HOK)) rfl (unhide B25) (unhide N25) (unhide HOK).2.2.2.2).mono ?_
        rintro e W26 ⟨sp26, m26, k26, rfl, hm26, ho26, hb26⟩
        have X26 := hide (later_block hb26 (unhide X25))
        have Y26 := hide (later_block hb26 (unhide Y25))
        have F26 := hide ((unhide F25).trans (hb26.mono (unhide F25).size))
        rw [entB_eq, ← unhide HL] at hm26 ho26
        have s1 := run_string8 (c := k26) m26 (unhide hm26) ho26.bytes
        have s2 := run_string8 (c := c2) l2.length rfl ((unhide HB2).later (unhide F26))
        have t1' := str_same l2
        clear ho26 hb26 q0 q1 q2 q3
        go_wp2_with fail
        refine (live2_calls _).mono ?_
        rintro e W27 ⟨rfl, hb27⟩
        have GG := hide ((unhide F26).trans (hb27.mono (unhide F26).size))
        clear hb27
        go_wp2
        go_ret
        exact ⟨rfl, unhide GG⟩
    · refine (putHard_no t1 u1 _ hh).mono ?_
      rintro e W28 ⟨rfl, hb28⟩
      have X28 := hide (later_block hb28 (unhide X19))
      have Y28 := hide (later_block hb28 (unhide Y19))
      have F28 := hide ((unhide F19).trans (hb28.mono (unhide F19).size))
      clear hb28 g0 g1 hh
      go_wp2_with fail
      refine (getEntry_calls a2 _ c2 l2 _ rfl (unhide HL2) (unhide HC2) (unhide HZ2) ((unhide HB2).later (unhide F28))).mono ?_
      rintro e W29 ⟨⟨v29, rfl, hv29⟩, hb29⟩
      have X29 := hide (later_block hb29 (unhide X28))
      have Y29 := hide (later_block hb29 (unhide Y28))
      have F29 := hide ((unhide F28).trans (hb29.mono (unhide F28).size))
      cases hr : wholeE l2 (entryE l2 0) with
      | error x =>
        rw [hr] at hv29
        obtain rfl := hv29
        have hx : ¬ (x : Int) = 0 := by have := wholeE_pos hr (fun y hy => entryE_pos hy); omega
        clear hb29
        go_wp2_with fail
        have hbx : Below W29.heap.size W29 (W29.alloc (entB 0 0 0 none 0 0)) := (Below.refl _ _).alloc (Nat.le_refl _) _
        have FF := hide ((unhide F29).trans (hbx.mono (unhide F29).size))
        refine (live2_calls _).mono ?_
        rintro e W30 ⟨rfl, hb30⟩
        have GG := hide ((unhide FF).trans (hb30.mono (unhide FF).size))
        clear hb30 hbx
        go_wp2
        go_ret
        exact ⟨rfl, unhide GG⟩
      | ok p =>
        obtain ⟨kd, t, i, d⟩ := p
        rw [hr] at hv29
        obtain ⟨sp29, m29, k29, rfl, hm29, ho29⟩ := hv29
        obtain ⟨hl2, hok⟩ := entry_back (unhide HB2).lt hr
        have HL := hide hl2
        have HOK := hide hok
        have O29 := hide ho29
        clear hl2 hok ho29
        have hb31 : Below W29.heap.size W29 (W29.alloc (entB (kd : Int) (t : Int) (i : Int) sp29 m29 k29)) := (Below.refl _ _).alloc (Nat.le_refl _) _
        obtain ⟨q0, q1, q2, q3⟩ := entB_cells (heap_new W29 (entB (kd : Int) (t : Int) (i : Int) sp29 m29 k29))
        have X31 := hide (later_block hb31 (unhide X29))
        have Y31 := hide (later_block hb31 (unhide Y29))
        have F31 := hide ((unhide F29).trans (hb31.mono (unhide F29).size))
        have B31 := hide ((unhide O29).bytes.later hb31)
        have N31 := hide (OwnB.nilCap (unhide O29))
        clear hb29 hb31
        go_wp2_with fail
        generalize W29.alloc (entB (kd : Int) (t : Int) (i : Int) sp29 m29 k29) = W31 at *
        have hmm := unhide hm29
        subst hmm
        refine (putEntry_yes kd t i sp29 d.length k29 d _ (entOk_may (unhide HOK)) rfl (unhide B31) (unhide N31) (unhide HOK).2.2.2.2).mono ?_
        rintro e W32 ⟨sp32, m32, k32, rfl, hm32, ho32, hb32⟩
        have X32 := hide (later_block hb32 (unhide X31))
        have Y32 := hide (later_block hb32 (unhide Y31))
        have F32 := hide ((unhide F31).trans (hb32.mono (unhide F31).size))
        rw [entB_eq, ← unhide HL] at hm32 ho32
        have s1 := run_string8 (c := k32) m32 (unhide hm32) ho32.bytes
        have s2 := run_string8 (c := c2) l2.length rfl ((unhide HB2).later (unhide F32))
        have t1' := str_same l2
        clear ho32 hb32 q0 q1 q2 q3
        go_wp2_with fail
        refine (live2_calls _).mono ?_
        rintro e W33 ⟨rfl, hb33⟩
        have GG := hide ((unhide F32).trans (hb33.mono (unhide F32).size))
        clear hb33
        go_wp2
        go_ret
        exact ⟨rfl, unhide GG⟩

set_option maxRecDepth 100000 in
theorem lifted (os : Os) (started : os.Started) (H : Type) (enc : TypeId × Value → H) :
    ReturnsInHanded {} Try.checked os 7 .any (Rows.wireEntryBackSpec.pre6 enc Try.prog Try.f7 Rows.wireEntryBackRow.domain false) (Rows.wireEntryBackSpec.post enc Try.prog Try.f7 false true false false) := by
  refine returnsInHanded_of_change_sized (C := Try.checked) own started (by kernel_rfl) Try.func7
    (ChangeSpec.witness6 (enc := enc) (C := Try.checked) false ⟨#[], #[.agg #[.int .i64 0, .int .i64 0, .int .i64 0, .slice none 0 0], .agg #[.int .i64 0, .int .i64 0], .slice none 0 0], []⟩ 8 (by kernel_rfl) (by kernel_rfl) (by kernel_rfl) (by kernel_rfl)) ?_
  intro W base args ds gs before hval0 hW hcnd hsz _
  have hval : ∀ (j : Nat) t v, Try.f7.params[j]? = some t → args[j]? = some v → Value.okWide Try.prog W .any base t v := hval0
  have hW' := hW
  obtain ⟨p, q, hA0, hV, rfl, hfz, hnd⟩ := hW
  have hA : DataW.TrodAll enc Try.prog W 0 (fun _ => true) true Try.f7.params.toList args.toList ds p := hA0
  rw [Try.params7] at hA hval
  obtain ⟨v0, vs0, d0, ds0, p0, q0, hargs, rfl, rfl, h0, r0⟩ := trodAll_cons hA
  obtain ⟨v1, vs1, d1, ds1, p1, q1, rfl, rfl, rfl, h1, r1⟩ := trodAll_cons r0
  obtain ⟨v2, vs2, d2, ds2, p2, q2, rfl, rfl, rfl, h2, r2⟩ := trodAll_cons r1
  obtain ⟨rfl, rfl, rfl⟩ := trodAll_nil r2
  obtain rfl : args = #[v0, v1, v2] := by cases args; simp_all
  obtain ⟨rfl, rfl⟩ := trodVars_none hV
  have k0 := h0
  have lt0 : ∀ x ∈ p0, x.block < W.heap.size := by obtain ⟨m, hm⟩ := k0; exact DataW.trod_lt m _ _ _ hm
  obtain ⟨k0e, t0, u0, a0, c0, l0, rfl, bk0, bt0, bu0, hc0, hx0, hb0, hz0⟩ := open_entry (hval 0 39 v0 rfl rfl) h0
  have k1 := h1
  have lt1 : ∀ x ∈ p1, x.block < W.heap.size := by obtain ⟨m, hm⟩ := k1; exact DataW.trod_lt m _ _ _ hm
  obtain ⟨t1, u1, rfl, bt1, bu1⟩ := open_hard (hval 1 41 v1 rfl rfl) h1
  obtain ⟨a2, len2, c2, rfl⟩ := okWide_slice Try.underlying24 (hval 2 24 v2 rfl rfl)
  have k2 := h2
  have lt2 : ∀ x ∈ p2, x.block < W.heap.size := by obtain ⟨m, hm⟩ := k2; exact DataW.trod_lt m _ _ _ hm
  obtain ⟨l2, rfl, hc2, hx2, hb2, hz2, hr2⟩ := row8 h2
  clear hA0 hval0
  have hm2 : c2 ≤ 140737488355328 := reach8 hsz (j := 2) (d := d2) rfl rfl hr2
  refine (walk k0e t0 u0 a0 c0 l0 t1 u1 a2 c2 l2 W bk0 bt0 bu0 hc0 hx0 hb0 hz0 bt1 bu1 hc2 hm2 hb2 hz2).mono fun e W' ⟨he, bel⟩ => ?_
  subst he
  exact ⟨_, rfl, _, _, _, [], _, [], hW', trodAll_mk1 (shut_bool Try.underlying4 _), (trodAll_cons_mk (Below.trod laidOut (by kernel_rfl) (of_decide_eq_true (by kernel_rfl)) k0 bel lt0) (trodAll_cons_mk (Below.trod laidOut (by kernel_rfl) (of_decide_eq_true (by kernel_rfl)) k1 bel lt1) (trodAll_cons_mk (Below.trod laidOut (by kernel_rfl) (of_decide_eq_true (by kernel_rfl)) k2 bel lt2) trodAll_mk0))), rfl, bel.frame _, fun h => by cases h⟩

theorem proved : Rows.WireEntryBackSaid :=
  OpenClaim.holds_of_wide 7 Try.f7 rfl rfl rfl rfl rfl rfl rfl ⟨rfl, rfl, rfl, rfl, rfl⟩ rfl rfl rfl rfl rfl (by kernel_rfl) Try.func7 (by kernel_rfl)
    (of_decide_eq_true (by kernel_rfl)) (by unfold Func.isWrapper; first | (rw [if_pos (by decide +kernel)]; kernel_rfl) | (rw [if_neg (by decide +kernel)]; exact ⟨rfl, rfl⟩))
    (fun os started H enc _ => lifted os started H enc)
end Go.Proofs.Ytcficfjgddjeeab.wireEntryBack
namespace Go.Proofs.Ytcficfjgddjeeab
theorem wireEntryBack_holds : Rows.WireEntryBackSaid := wireEntryBack.proved
#print axioms wireEntryBack_holds
end Go.Proofs.Ytcficfjgddjeeab
