/- Proved: packets under way, links and clocks are what the document says, deed by deed; for all deeds (the first 400 are played); no condition. -/
import Derived.Test.YtmmgajmgklipaaaPly
import Derived.Test.YtmmgajmgklipaaaFl12
namespace Go.Proofs.Ytmmgajmgklipaaa.flightPlays
open Go.ChangeShapes Go.WideShapes Go.ChangeAt Go.RowKit
set_option linter.unusedVariables false

theorem own : ownKnob Try.prog.godebug = none := by kernel_rfl
theorem laidOut : laidOutB Try.prog = true := by kernel_rfl

set_option maxRecDepth 20000 in
set_option maxHeartbeats 8000000 in
theorem walk (a : Option Addr) (c : Nat) (es : List DeedI) (w : World) (hx : es.length ≤ maxLen) (hD : DeedsAt w a es) (hbd : ∀ e ∈ es, DeedBd e) :
    Calls Try.prog 3 #[.slice a es.length c] w fun e w' => e = .returned (.bool true) ∧ Below w.heap.size w w' := by
  have HD := hide hD
  have HB := hide hbd
  clear hD hbd
  generalize hn : es.length = n at *
  have HN := hide hn
  clear hn
  go_enter Try.func3, Try.ntmps3
  go_wp2_with fail
  refine (new_calls _).mono ?_
  rintro e W1 ⟨N, M, rfl, h1, b1⟩
  have H1 := hide h1
  have B1 := hide b1
  clear h1 b1
  go_wp2_with fail
  refine (refNew_calls _).mono ?_
  rintro e W2 ⟨R, rfl, h2, b2⟩
  have T2 := hide (two_start (unhide H1) (unhide B1) h2 b2)
  have F2 := hide ((unhide B1).trans (b2.mono (unhide B1).size))
  clear h2 b2 H1 B1
  go_wp2_with fail
  go_loopw [5] (fun v wr => ∃ (j : Nat) (s : FS), j ≤ min n 400 ∧ v = .int .i64 (j : Int) ∧ Hid (s.age ≤ j) ∧ Hid (Two w.heap.size wr N M R s s (fun _ => False)) ∧ Hid (Below w.heap.size w wr)) (fun v _ => min n 400 - (intOf v).toNat)
  case atStart => exact ⟨0, s0, by omega, rfl, Nat.le_refl _, unhide T2, unhide F2⟩
  case round =>
    obtain ⟨j, s, hj, rfl, hs, T, F⟩ := hrel
    clear T2 F2
    go_wp2_with fail
    refine (many_calls a n c _ hx).mono ?_
    rintro e wr' ⟨rfl, rfl⟩
    by_cases hjm : j < min n 400
    · have hjn : j < es.length := by rw [unhide HN]; omega
      obtain ⟨b, off, dp, dc, rfl, q0, q1, q2, q3, q4, pb, pz⟩ := (unhide HD).cell j hjn
      have hE := hide (unhide HB es[j] (List.getElem_mem hjn))
      have hj0 : (0 : Int) ≤ (j : Int) := by omega
      have hj1 : (j : Int) < (n : Int) := by omega
      have hj2 : (j : Int) < ((min n 400 : Nat) : Int) := by omega
      generalize es[j] = d at *
      obtain ⟨kd, f, t, i, l⟩ := d
      simp only at q0 q1 q2 q3 q4 pb
      have p0 := cell_later (unhide F) q0
      have p1 := cell_later (unhide F) q1
      have p2 := cell_later (unhide F) q2
      have p3 := cell_later (unhide F) q3
      have p4 := cell_later (unhide F) q4
      have PB := hide pb
      have PZ := hide pz
      clear pb pz
      by_cases hl : 70000 < l.length
      · have hl' : (70000 : Int) < (l.length : Int) := by omega
        go_wp2
        exact ⟨⟨j + 1, s, by omega, by go_num, Nat.le_succ_of_le (unhide hs), unhide T, unhide F⟩, by simp [intOf]; omega⟩
      · have hl' : ¬ (70000 : Int) < (l.length : Int) := by omega
        go_wp2_with fail
        refine (do_calls (unhide T) (by have := unhide hs; omega) kd f t i (unhide hE).2.1 (unhide hE).2.2.1 dp l.length dc l rfl (by omega) w (unhide F) (Nat.le_refl _) (unhide PB) (unhide PZ)).mono ?_
        rintro e W3 ⟨rfl, ⟨s3, a3, h3⟩, g3⟩
        have T3 := hide h3
        have A3 := hide (show s3.age ≤ j + 1 by have := unhide hs; omega)
        have F3 := hide ((unhide F).trans g3)
        clear h3 a3 g3 p0 p1 p2 p3 p4
        have p0 := cell_later (unhide F3) q0
        have p1 := cell_later (unhide F3) q1
        have p2 := cell_later (unhide F3) q2
        have p3 := cell_later (unhide F3) q3
        have p4 := cell_later (unhide F3) q4
        by_cases hk : 5 < kd
        · go_wp2_with fail
          refine (same_calls (unhide T3) (by have := unhide A3; omega) kd f t i (unhide hE).2.1 (unhide hE).2.2.1 dp l.length dc).mono ?_
          rintro e W4 ⟨rfl, b4⟩
          have T4 := hide ((unhide T3).later b4)
          have F4 := hide ((unhide F3).trans (b4.mono (unhide F3).size))
          clear b4
          go_wp2
          exact ⟨⟨j + 1, s3, by omega, by go_num, unhide A3, unhide T4, unhide F4⟩, by simp [intOf]; omega⟩
        · go_wp2
          exact ⟨⟨j + 1, s3, by omega, by go_num, unhide A3, unhide T3, unhide F3⟩, by simp [intOf]; omega⟩
    · obtain rfl : j = min n 400 := by omega
      have hjj : ¬ (((min n 400 : Nat) : Int) < ((min n 400 : Nat) : Int)) := by omega
      have X4 := hide (heap_new wr' (dB 0 1 2 0 none 0 0))
      have b4 := hide (show Below wr'.heap.size wr' (wr'.alloc (dB 0 1 2 0 none 0 0)) from (Below.refl _ _).alloc (Nat.le_refl _) _)
      have T4 := hide ((unhide T).later (unhide b4))
      have F4 := hide ((unhide F).trans ((unhide b4).mono (unhide F).size))
      have A4 := hide (show s.age ≤ 400 by have := unhide hs; omega)
      obtain ⟨c0, c1, c2, c3, c4⟩ := dB_cells (unhide X4)
      have f4 := box_free (unhide X4)
      clear hs
      by_cases hn0 : n = 0
      · subst hn0
        go_wp2_with fail
        generalize wr'.alloc (dB 0 1 2 0 none 0 0) = W4 at *
        refine (live4_calls _).mono ?_
        rintro e W5 ⟨rfl, b5⟩
        have X5 := hide (later_block b5 (unhide X4))
        have T5 := hide ((unhide T4).later b5)
        have F5 := hide ((unhide F4).trans (b5.mono (unhide F4).size))
        clear b5 c0 c1 c2 c3 c4 f4 X4 T4 F4
        obtain ⟨c0, c1, c2, c3, c4⟩ := dB_cells (unhide X5)
        go_wp2_with fail
        refine (same_calls (unhide T5) (by have := unhide A4; omega) 0 1 2 0 (by constructor <;> decide) (by constructor <;> decide) none 0 0).mono ?_
        rintro e W6 ⟨rfl, b6⟩
        have F6 := hide ((unhide F5).trans (b6.mono (unhide F5).size))
        clear b6
        go_wp2
        go_ret
        exact ⟨rfl, unhide F6⟩
      · obtain ⟨k, rfl⟩ : ∃ k, n = k + 1 := ⟨n - 1, by omega⟩
        have hkn : k < es.length := by rw [unhide HN]; omega
        obtain ⟨b, off, dp, dc, rfl, q0, q1, q2, q3, q4, pb, pz⟩ := (unhide HD).cell k hkn
        have hE := hide (unhide HB es[k] (List.getElem_mem hkn))
        have hj0 : (0 : Int) ≤ (k : Int) := by omega
        have hj9 : (k : Int) ≤ 9223372036854775806 := by simp only [maxLen] at hx; omega
        generalize es[k] = d at *
        obtain ⟨kd, f, t, i, l⟩ := d
        simp only at q0 q1 q2 q3 q4 pb
        have p0 := cell_later (unhide F4) q0
        have p1 := cell_later (unhide F4) q1
        have p2 := cell_later (unhide F4) q2
        have p3 := cell_later (unhide F4) q3
        have p4 := cell_later (unhide F4) q4
        clear pb pz
        go_wp2_with fail
        have X5' := hide (heap_new wr' (dB kd f t i dp l.length dc))
        have b5' := hide (show Below wr'.heap.size wr' (wr'.alloc (dB kd f t i dp l.length dc)) from (Below.refl _ _).alloc (Nat.le_refl _) _)
        have T5' := hide ((unhide T).later (unhide b5'))
        have F5' := hide ((unhide F).trans ((unhide b5').mono (unhide F).size))
        clear p0 p1 p2 p3 p4 q0 q1 q2 q3 q4 c0 c1 c2 c3 c4 f4 X4 T4 F4 b4 T F b5'
        generalize wr'.alloc (dB kd f t i dp l.length dc) = W4 at *
        refine (live4_calls _).mono ?_
        rintro e W5 ⟨rfl, b5⟩
        have X5 := hide (later_block b5 (unhide X5'))
        have T5 := hide ((unhide T5').later b5)
        have F5 := hide ((unhide F5').trans (b5.mono (unhide F5').size))
        clear b5 X5' T5' F5'
        obtain ⟨c0, c1, c2, c3, c4⟩ := dB_cells (unhide X5)
        go_wp2_with fail
        refine (same_calls (unhide T5) (by have := unhide A4; omega) kd f t i (unhide hE).2.1 (unhide hE).2.2.1 dp l.length dc).mono ?_
        rintro e W6 ⟨rfl, b6⟩
        have F6 := hide ((unhide F5).trans (b6.mono (unhide F5).size))
        clear b6
        go_wp2
        go_ret
        exact ⟨rfl, unhide F6⟩

set_option maxRecDepth 100000 in
theorem lifted (os : Os) (started : os.Started) (H : Type) (enc : TypeId × Value → H) :
    ReturnsInHanded {} Try.checked os 3 .any (Rows.flightPlaysSpec.pre6 enc Try.prog Try.f3 Rows.flightPlaysRow.domain false) (Rows.flightPlaysSpec.post enc Try.prog Try.f3 false true false false) := by
  refine returnsInHanded_of_change_sized (C := Try.checked) own started (by kernel_rfl) Try.func3
    (ChangeSpec.witness6 (enc := enc) (C := Try.checked) false ⟨#[], #[.slice none 0 0], []⟩ 8 (by kernel_rfl) (by kernel_rfl) (by kernel_rfl) (by kernel_rfl)) ?_
  intro W base args ds gs before hval0 hW hcnd hsz _
  have hval : ∀ (j : Nat) t v, Try.f3.params[j]? = some t → args[j]? = some v → Value.okWide Try.prog W .any base t v := hval0
  have hW' := hW
  obtain ⟨p, q, hA0, hV, rfl, hfz, hnd⟩ := hW
  have hA : DataW.TrodAll enc Try.prog W 0 (fun _ => true) true Try.f3.params.toList args.toList ds p := hA0
  rw [Try.params3] at hA hval
  obtain ⟨v0, vs0, d0, ds0, p0, q0, hargs, rfl, rfl, h0, r0⟩ := trodAll_cons hA
  obtain ⟨rfl, rfl, rfl⟩ := trodAll_nil r0
  obtain rfl : args = #[v0] := by cases args; simp_all
  obtain ⟨rfl, rfl⟩ := trodVars_none hV
  obtain ⟨a0, len0, c0, rfl⟩ := okWide_slice Try.underlying22 (hval 0 22 v0 rfl rfl)
  have k0 := h0
  have lt0 : ∀ x ∈ p0, x.block < W.heap.size := by obtain ⟨m, hm⟩ := k0; exact DataW.trod_lt m _ _ _ hm
  obtain ⟨l0, rfl, hx0, hb0, hd0⟩ := deeds_arg h0
  clear hA0 hval0
  refine (walk a0 c0 l0 W hx0 hb0 hd0).mono fun e W' ⟨he, bel⟩ => ?_
  subst he
  exact ⟨_, rfl, _, _, _, [], _, [], hW', trodAll_mk1 (shut_bool Try.underlying4 _), (trodAll_cons_mk (Below.trod laidOut (by kernel_rfl) (of_decide_eq_true (by kernel_rfl)) k0 bel lt0) trodAll_mk0), rfl, bel.frame _, fun h => by cases h⟩

theorem proved : Rows.FlightPlaysSaid :=
  OpenClaim.holds_of_wide 3 Try.f3 rfl rfl rfl rfl rfl rfl rfl ⟨rfl, rfl, rfl, rfl, rfl⟩ rfl rfl rfl rfl rfl (by kernel_rfl) Try.func3 (by kernel_rfl)
    (of_decide_eq_true (by kernel_rfl)) (by unfold Func.isWrapper; first | (rw [if_pos (by decide +kernel)]; kernel_rfl) | (rw [if_neg (by decide +kernel)]; exact ⟨rfl, rfl⟩))
    (fun os started H enc _ => lifted os started H enc)
end Go.Proofs.Ytmmgajmgklipaaa.flightPlays
namespace Go.Proofs.Ytmmgajmgklipaaa
theorem flightPlays_holds : Rows.FlightPlaysSaid := flightPlays.proved
#print axioms flightPlays_holds
end Go.Proofs.Ytmmgajmgklipaaa
