/- Proved: behind every script the numbers of the packets under way rise, and a packet that is sent then has a greater one; for all deeds; no condition. -/
import Derived.Test.YtmmgajmgklipaaaPly
import Derived.Test.YtmmgajmgklipaaaFl12
import Derived.BigQuiet
namespace Go.Proofs.Ytmmgajmgklipaaa.flightRises
open Go.ChangeShapes Go.WideShapes Go.ChangeAt Go.RowKit
set_option linter.unusedVariables false

theorem own : ownKnob Try.prog.godebug = none := by kernel_rfl
theorem laidOut : laidOutB Try.prog = true := by kernel_rfl

theorem rises_at {s : FS} (h : FOk s) {ys : List (Pkt × Hdl)} (hy : ys.map (·.1) = s.pk) (i j : Nat) (hij : i < j) (hj : j < ys.length) : (ys[i]'(by omega)).1.1 < ys[j].1.1 := by
  have h1 := h.rise
  rw [← hy, List.pairwise_map, List.pairwise_iff_getElem] at h1
  exact h1 i j (by omega) hj hij
theorem ids_at {s : FS} (h : FOk s) {ys : List (Pkt × Hdl)} (hy : ys.map (·.1) = s.pk) (j : Nat) (hj : j < ys.length) : ys[j].1.1 < (s.tot : Int) + 1 := by
  have := h.ids ys[j].1 (by rw [← hy]; exact List.mem_map_of_mem (List.getElem_mem hj))
  omega
theorem ok_of {base : Nat} {w : World} {N M R : Nat} {s r : FS} {Av : Nat → Prop} (h : Two base w N M R s r Av) : FOk s := by
  obtain ⟨n, sp, c, xs, sr, cr, zs, pa, kr, h⟩ := h
  exact h.okN
set_option maxRecDepth 20000 in
set_option maxHeartbeats 8000000 in
theorem walk (a : Option Addr) (c : Nat) (es : List DeedI) (w : World) (hx : es.length ≤ maxLen) (hD : DeedsAt w a es) (hbd : ∀ e ∈ es, DeedBd e) :
    Calls Try.prog 5 #[.slice a es.length c] w fun e w' => e = .returned (.bool true) ∧ Below w.heap.size w w' := by
  go_enter Try.func5, Try.ntmps5
  go_wp2_with fail
  refine (play_calls a c es _ rfl hx hD hbd).mono ?_
  rintro e W1 ⟨N, M, R, s, rfl, ha, h1, b1⟩
  have T1 := hide h1
  have F1 := hide b1
  clear h1 b1 hD hbd hx
  go_wp2_with fail
  refine (two_under (unhide T1) (by omega)).mono ?_
  rintro e W2 ⟨us, uc, ys, rfl, hys, hQ, b2⟩
  have T2 := hide ((unhide T1).avoid b2 (blk us) (fun g hg => ⟨(hQ.toQ.blk_is g hg).1, (hQ.toQ.blk_is g hg).2.1⟩))
  have F2 := hide ((unhide F1).trans (b2.mono (unhide F1).size))
  have NY := hide hys
  have NQ := hide hQ.toQ
  clear b2 hys hQ T1 F1
  have few := (unhide T2).few
  go_wp2_with fail
  have hL := hide (show ys.length = s.pk.length by have := congrArg List.length (unhide NY); simpa using this)
  generalize hLe : s.pk.length = L at *
  go_loopw [7] (fun v wr => ∃ (q : Nat), (q + 1 ≤ L ∨ q = 0) ∧ v = .int .i64 ((q : Int) + 1) ∧ Hid (Below W2.heap.size W2 wr)) (fun v _ => L - (intOf v).toNat)
  case atStart => exact ⟨0, .inr rfl, rfl, Below.refl _ _⟩
  case round =>
    obtain ⟨q, hq, rfl, F⟩ := hrel
    by_cases hqL : q + 1 < L
    · have hRQ := hide ((unhide NQ).later (unhide F))
      obtain ⟨g, rfl, p0, _⟩ := (unhide hRQ).cell q (by rw [unhide hL]; omega)
      obtain ⟨g', hg', r0, _⟩ := (unhide hRQ).cell (q + 1) (by rw [unhide hL]; omega)
      obtain rfl : g = g' := by simpa using hg'
      have hlt := rises_at (ok_of (unhide T2)) (unhide NY) q (q + 1) (by omega) (by rw [unhide hL]; omega)
      have hqy : q < ys.length := by rw [unhide hL]; omega
      have hqz : q + 1 < ys.length := by rw [unhide hL]; omega
      generalize (ys[q]'hqy).1.1 = x at *
      generalize (ys[q + 1]'hqz).1.1 = y at *
      have hle : ¬ (y ≤ x) := by omega
      have hj0 : (0 : Int) ≤ (q : Int) := by omega
      have hj1 : (q : Int) + 1 < (L : Int) := by omega
      have hj2 : (q : Int) < (L : Int) := by omega
      clear hg'
      go_wp2_with fail
      go_quiet (fail)
      go_wp2
      exact ⟨⟨q + 1, .inl (by omega), by go_num, ⟨(unhide F).os, (unhide F).tape, (unhide F).output, (unhide F).size, (unhide F).block⟩⟩, by simp [intOf]; omega⟩
    · have hq1 : ¬ ((q : Int) + 1 < (L : Int)) := by omega
      have T3 := hide ((unhide T2).later (unhide F))
      have F3 := hide ((unhide F2).trans ((unhide F).mono (unhide F2).size))
      have Q3 := hide ((unhide NQ).later (unhide F))
      go_wp2_with fail
      refine (two_send (unhide T3) (by omega) 3 4 (by constructor <;> decide) (by constructor <;> decide) none 0 0 [] rfl ⟨by simp, by simp⟩ (fun _ => rfl)).mono ?_
      rintro e W4 ⟨rfl, h4, g4⟩
      have F4 := hide ((unhide F3).trans g4.bel)
      have Q4 := hide ((unhide Q3).steps g4 (fun g hg => .inr hg) (by decide))
      have hR := hide (ok_of (unhide T2))
      clear h4 g4 Q3 F3 T3
      by_cases hX : sendX s.S s.pk.length 3 4 ([] : List Nat).length = 0
      · have e1 : sendR s 3 4 [] = ((s.tot : Int) + 1, 0) := by unfold sendR; rw [if_pos hX]
        rw [e1]
        go_wp2_with fail
        refine (live4_calls _).mono ?_
        rintro e W5 ⟨rfl, b5⟩
        have F5 := hide ((unhide F4).trans (b5.mono (unhide F4).size))
        have Q5 := hide ((unhide Q4).later b5)
        clear b5 Q4 F4
        have ht0 : (0 : Int) < (s.tot : Int) + 1 := by omega
        by_cases hL0 : L = 0
        · subst hL0
          go_wp2
          go_ret
          exact ⟨by first | rfl | (simp; omega), unhide F5⟩
        · obtain ⟨k, rfl⟩ : ∃ k, L = k + 1 := ⟨L - 1, by omega⟩
          have hky : k < ys.length := by rw [unhide hL]; omega
          obtain ⟨g, rfl, p0, _⟩ := (unhide Q5).cell k hky
          have hlt := ids_at (unhide hR) (unhide NY) k hky
          generalize (ys[k]'hky).1.1 = x at *
          generalize (s.tot : Int) + 1 = y at *
          have hk0 : (0 : Int) ≤ (k : Int) := by omega
          go_wp2
          go_ret
          exact ⟨by first | rfl | (simp; omega), unhide F5⟩
      · have e1 : sendR s 3 4 [] = (0, sendX s.S s.pk.length 3 4 ([] : List Nat).length) := by unfold sendR; rw [if_neg hX]
        rw [e1]
        generalize sendX s.S s.pk.length 3 4 ([] : List Nat).length = z at *
        have hz : ¬ ((z : Int) = 0) := by omega
        go_wp2_with fail
        refine (live4_calls _).mono ?_
        rintro e W5 ⟨rfl, b5⟩
        have F5 := hide ((unhide F4).trans (b5.mono (unhide F4).size))
        clear b5 F4
        go_wp2
        go_ret
        exact ⟨by first | rfl | simp, unhide F5⟩

set_option maxRecDepth 100000 in
theorem lifted (os : Os) (started : os.Started) (H : Type) (enc : TypeId × Value → H) :
    ReturnsInHanded {} Try.checked os 5 .any (Rows.flightRisesSpec.pre6 enc Try.prog Try.f5 Rows.flightRisesRow.domain false) (Rows.flightRisesSpec.post enc Try.prog Try.f5 false true false false) := by
  refine returnsInHanded_of_change_sized (C := Try.checked) own started (by kernel_rfl) Try.func5
    (ChangeSpec.witness6 (enc := enc) (C := Try.checked) false ⟨#[], #[.slice none 0 0], []⟩ 8 (by kernel_rfl) (by kernel_rfl) (by kernel_rfl) (by kernel_rfl)) ?_
  intro W base args ds gs before hval0 hW hcnd hsz _
  have hval : ∀ (j : Nat) t v, Try.f5.params[j]? = some t → args[j]? = some v → Value.okWide Try.prog W .any base t v := hval0
  have hW' := hW
  obtain ⟨p, q, hA0, hV, rfl, hfz, hnd⟩ := hW
  have hA : DataW.TrodAll enc Try.prog W 0 (fun _ => true) true Try.f5.params.toList args.toList ds p := hA0
  rw [Try.params5] at hA hval
  obtain ⟨v0, vs0, d0, ds0, p0, q0, hargs, rfl, rfl, h0, r0⟩ := trodAll_cons hA
  obtain ⟨rfl, rfl, rfl⟩ := trodAll_nil r0
  obtain rfl : args = #[v0] := by cases args; simp_all
  obtain ⟨rfl, rfl⟩ := trodVars_none hV
  obtain ⟨a0, len0, c0, rfl⟩ := okWide_slice Try.underlying22 (hval 0 22 v0 rfl rfl)
  have k0 := h0
  have lt0 : ∀ x ∈ p0, x.block < W.heap.size := by obtain ⟨m, hm⟩ := k0; exact DataW.trod_lt m _ _ _ hm
  obtain ⟨l0, rfl, hx0, hb0, hd0⟩ := deeds_arg h0
  clear hA0 hval0
  refine (walk a0 c0 l0 W hx0 hb0 hd0).mono fun e W' ⟨he, bel⟩ => ?_
  subst he
  exact ⟨_, rfl, _, _, _, [], _, [], hW', trodAll_mk1 (shut_bool Try.underlying4 _), (trodAll_cons_mk (Below.trod laidOut (by kernel_rfl) (of_decide_eq_true (by kernel_rfl)) k0 bel lt0) trodAll_mk0), rfl, bel.frame _, fun h => by cases h⟩

theorem proved : Rows.FlightRisesSaid :=
  OpenClaim.holds_of_wide 5 Try.f5 rfl rfl rfl rfl rfl rfl rfl ⟨rfl, rfl, rfl, rfl, rfl⟩ rfl rfl rfl rfl rfl (by kernel_rfl) Try.func5 (by kernel_rfl)
    (of_decide_eq_true (by kernel_rfl)) (by unfold Func.isWrapper; first | (rw [if_pos (by decide +kernel)]; kernel_rfl) | (rw [if_neg (by decide +kernel)]; exact ⟨rfl, rfl⟩))
    (fun os started H enc _ => lifted os started H enc)
end Go.Proofs.Ytmmgajmgklipaaa.flightRises
namespace Go.Proofs.Ytmmgajmgklipaaa
theorem flightRises_holds : Rows.FlightRisesSaid := flightRises.proved
#print axioms flightRises_holds
end Go.Proofs.Ytmmgajmgklipaaa
