/- Proved: what becomes of a Fork changes nothing of the net, and the Fork goes on as a net does; for all deeds, and others on the Fork (the first 400 of each are played); no condition. -/
import Derived.Test.YticemhnfcelpmaaPly
import Derived.Test.YticemhnfcelpmaaFl12
import Derived.Test.YticemhnfcelpmaaFrk
namespace Go.Proofs.Yticemhnfcelpmaa.flightForks
open Go.ChangeShapes Go.WideShapes Go.ChangeAt Go.RowKit
set_option linter.unusedVariables false

theorem own : ownKnob Try.prog.godebug = none := by kernel_rfl
theorem laidOut : laidOutB Try.prog = true := by kernel_rfl

theorem RefAt.mono {base base' : Nat} {w : World} {R : Nat} {sp : Option Addr} {c : Nat} {zs : List SPk} {pa : List Bool} {ck : List Int} (h : RefAt base w R sp c zs pa ck) (hb : base' ≤ base) : RefAt base' w R sp c zs pa ck :=
  ⟨h.blk, ⟨ownsRow_mono h.own.row hb, h.own.dat⟩, Nat.le_trans hb h.low, h.hundred, h.ten⟩
theorem two_forked {base : Nat} {w w2 w3 : World} {N M R N' M' R' : Nat} {s : FS} {Av : Nat → Prop} {n : Nat} {sp : Option Addr} {c : Nat} {xs : List (Pkt × Hdl)} {sr : Option Addr} {cr : Nat} {zs : List SPk} {pa : List Bool} {kr : List Int} {sp' : Option Addr} {c' : Nat} {ys : List (Pkt × Hdl)} {sr' : Option Addr} {cr' : Nat}
    (t : TwoAt base w N M R s s Av n sp c xs sr cr zs pa kr) (hys : ys.map (·.1) = xs.map (·.1)) (n2 : NetAt w.heap.size w2 N' M' n sp' c' ys (s.tot : Int) s.S s.ck) (b2 : Below w.heap.size w w2) (r3 : RefAt w2.heap.size w3 R' sr' cr' zs pa kr) (b3 : Below w2.heap.size w2 w3) : Two w.heap.size w3 N' M' R' s s (fun _ => False) :=
  ⟨n, sp', c', ys, sr', cr', zs, pa, kr, { net := n2.later b3, npk := hys.trans t.npk, nn := t.nn, ref := RefAt.mono r3 b2.size, rpk := t.rpk, ids := t.ids, tot := t.tot, par := t.par, clk := t.clk, len := t.len, apart := fun x hx z hz g h1 h2 => by { have := ((n2.own.dat.own x hx).1.blk_lt g h1).1; have := t.zlt z hz g h2; omega }, avN := fun _ _ _ _ h => h, avR := fun _ _ _ _ h => h, avL := fun _ h => h.elim, avP := fun _ _ h => h, avQ := fun _ _ h => h, avH := ⟨id, id, id⟩, okN := t.okN, okR := t.okR }⟩
set_option maxRecDepth 20000 in
set_option maxHeartbeats 8000000 in
theorem walk (a : Option Addr) (c : Nat) (es : List DeedI) (a' : Option Addr) (c' : Nat) (es' : List DeedI) (w : World) (hx : es.length ≤ maxLen) (hD : DeedsAt w a es) (hbd : ∀ e ∈ es, DeedBd e) (hx' : es'.length ≤ maxLen) (hD' : DeedsAt w a' es') (hbd' : ∀ e ∈ es', DeedBd e) :
    Calls Try.prog 4 #[.slice a es.length c, .slice a' es'.length c'] w fun e w' => e = .returned (.bool true) ∧ Below w.heap.size w w' := by
  have HD := hide hD'
  have HB := hide hbd'
  generalize hn : es'.length = n at *
  have HN := hide hn
  clear hn hD' hbd'
  go_enter Try.func4, Try.ntmps4
  go_wp2_with fail
  refine (play_calls a c es _ rfl hx hD hbd).mono ?_
  rintro e W1 ⟨N, M, R, s, rfl, ha, h1, b1⟩
  have F1 := hide b1
  have T1 := hide h1
  obtain ⟨k, sp, cp, xs, sr, cr, zs, pa, kr, t⟩ := h1
  have TT := hide t
  have hxs : xs.length ≤ 128 := by have := congrArg List.length t.npk; rw [List.length_map] at this; have := t.okN.full; omega
  have hzs : zs.length ≤ 400 := by have := t.tot; have := t.okR.old; omega
  have HX := hide (show ∀ x ∈ xs, x.1.2.2.2.length ≤ 140737488355328 from fun x hx => by have := t.okN.len x.1 (by rw [← t.npk]; exact List.mem_map_of_mem hx); omega)
  clear b1 t hD hbd hx
  go_wp2_with fail
  refine (fork_calls (unhide TT).net (by omega) (unhide HX)).mono ?_
  rintro e W2 ⟨N', M', sp', cp', ys, rfl, hys, n2, b2⟩
  have N2 := hide n2
  have B2 := hide b2
  have YS := hide hys
  clear n2 b2 hys
  go_wp2_with fail
  refine (refFork_calls ((unhide TT).ref.later (unhide B2)) (by omega)).mono ?_
  rintro e W3 ⟨R', sr', cr', rfl, r3, b3⟩
  have T3 := hide (two_forked (unhide TT) (unhide YS) (unhide N2) (unhide B2) r3 b3)
  have B3 := hide ((unhide B2).trans (b3.mono (unhide B2).size))
  clear r3 b3 N2 B2 YS TT HX hxs hzs
  go_wp2_with fail
  go_loopw [10] (fun v wr => ∃ (j : Nat) (s' : FS), j ≤ min n 400 ∧ v = .int .i64 (j : Int) ∧ Hid (s'.age ≤ 400 + j) ∧ Hid (Two W1.heap.size wr N' M' R' s' s' (fun _ => False)) ∧ Hid (Below W1.heap.size W1 wr)) (fun v _ => min n 400 - (intOf v).toNat)
  case atStart => exact ⟨0, s, by omega, rfl, (show s.age ≤ 400 + 0 by omega), unhide T3, unhide B3⟩
  case round =>
    obtain ⟨j, s', hj, rfl, hs, T, B⟩ := hrel
    clear T3 B3
    have F := hide ((unhide F1).trans ((unhide B).mono (unhide F1).size))
    go_wp2_with fail
    refine (many_calls a' n c' _ hx').mono ?_
    rintro e wr' ⟨rfl, rfl⟩
    by_cases hjm : j < min n 400
    · have hjn : j < es'.length := by rw [unhide HN]; omega
      obtain ⟨b, off, dp, dc, rfl, q0, q1, q2, q3, q4, pb, pz⟩ := (unhide HD).cell j hjn
      have p0 := cell_later (unhide F) q0
      have p1 := cell_later (unhide F) q1
      have p2 := cell_later (unhide F) q2
      have p3 := cell_later (unhide F) q3
      have p4 := cell_later (unhide F) q4
      clear q0 q1 q2 q3 q4
      have hE := hide (unhide HB es'[j] (List.getElem_mem hjn))
      have hj0 : (0 : Int) ≤ (j : Int) := by omega
      have hj1 : (j : Int) < (n : Int) := by omega
      have hj2 : (j : Int) < ((min n 400 : Nat) : Int) := by omega
      generalize es'[j] = d at *
      obtain ⟨kd, f, t, i, l⟩ := d
      simp only at p0 p1 p2 p3 p4 pb
      have PB := hide pb
      have PZ := hide pz
      clear pb pz
      by_cases hl : l.length ≤ 70000
      · have hl' : (l.length : Int) ≤ 70000 := by omega
        go_wp2_with fail
        refine (do_calls (unhide T) (by have := unhide hs; omega) kd f t i (unhide hE).2.1 (unhide hE).2.2.1 dp l.length dc l rfl hl w (unhide F) (unhide F1).size (unhide PB) (unhide PZ)).mono ?_
        rintro e W4 ⟨rfl, ⟨s4, a4, h4⟩, g4⟩
        have T4 := hide h4
        have A4 := hide (show s4.age ≤ 400 + (j + 1) by have := unhide hs; omega)
        have B4 := hide ((unhide B).trans g4)
        clear h4 a4 g4
        go_wp2
        exact ⟨⟨j + 1, s4, by omega, by go_num, unhide A4, unhide T4, unhide B4⟩, by simp [intOf]; omega⟩
      · have hl' : ¬ (l.length : Int) ≤ 70000 := by omega
        have A4 := hide (show s'.age ≤ 400 + (j + 1) by have := unhide hs; omega)
        go_wp2
        exact ⟨⟨j + 1, s', by omega, by go_num, unhide A4, unhide T, unhide B⟩, by simp [intOf]; omega⟩
    · obtain rfl : j = min n 400 := by omega
      have hjj : ¬ (((min n 400 : Nat) : Int) < ((min n 400 : Nat) : Int)) := by omega
      have A4 := hide (show s'.age ≤ 800 by have := unhide hs; omega)
      have X4 := hide (heap_new wr' (dB 0 1 2 0 none 0 0))
      have b4 := hide (show Below wr'.heap.size wr' (wr'.alloc (dB 0 1 2 0 none 0 0)) from (Below.refl _ _).alloc (Nat.le_refl _) _)
      have U4 := hide (((unhide T1).later (unhide B)).later (unhide b4))
      have T4 := hide ((unhide T).later (unhide b4))
      have F4 := hide ((unhide F).trans ((unhide b4).mono (unhide F).size))
      clear b4
      go_wp2_with fail
      refine (live4_calls _).mono ?_
      rintro e W5 ⟨rfl, b5⟩
      have X5 := hide (later_block b5 (unhide X4))
      have U5 := hide ((unhide U4).later b5)
      have T5 := hide ((unhide T4).later b5)
      have F5 := hide ((unhide F4).trans (b5.mono (unhide F4).size))
      clear b5
      obtain ⟨c0, c1, c2, c3, c4⟩ := dB_cells (unhide X5)
      go_wp2_with fail
      refine (same_calls (unhide U5) (by omega) 0 1 2 0 (by constructor <;> decide) (by constructor <;> decide) none 0 0).mono ?_
      rintro e W6 ⟨rfl, b6⟩
      have X6 := hide (later_block b6 (unhide X5))
      have T6 := hide ((unhide T5).later b6)
      have F6 := hide ((unhide F5).trans (b6.mono (unhide F5).size))
      clear b6 c0 c1 c2 c3 c4
      obtain ⟨c0, c1, c2, c3, c4⟩ := dB_cells (unhide X6)
      go_wp2_with fail
      refine (same_calls (unhide T6) (by have := unhide A4; omega) 0 1 2 0 (by constructor <;> decide) (by constructor <;> decide) none 0 0).mono ?_
      rintro e W7 ⟨rfl, b7⟩
      have F7 := hide ((unhide F6).trans (b7.mono (unhide F6).size))
      clear b7
      go_wp2
      go_ret
      exact ⟨rfl, unhide F7⟩

set_option maxRecDepth 100000 in
theorem lifted (os : Os) (started : os.Started) (H : Type) (enc : TypeId × Value → H) :
    ReturnsInHanded {} Try.checked os 4 .any (Rows.flightForksSpec.pre6 enc Try.prog Try.f4 Rows.flightForksRow.domain false) (Rows.flightForksSpec.post enc Try.prog Try.f4 false true false false) := by
  refine returnsInHanded_of_change_sized (C := Try.checked) own started (by kernel_rfl) Try.func4
    (ChangeSpec.witness6 (enc := enc) (C := Try.checked) false ⟨#[], #[.slice none 0 0, .slice none 0 0], []⟩ 8 (by kernel_rfl) (by kernel_rfl) (by kernel_rfl) (by kernel_rfl)) ?_
  intro W base args ds gs before hval0 hW hcnd hsz _
  have hval : ∀ (j : Nat) t v, Try.f4.params[j]? = some t → args[j]? = some v → Value.okWide Try.prog W .any base t v := hval0
  have hW' := hW
  obtain ⟨p, q, hA0, hV, rfl, hfz, hnd⟩ := hW
  have hA : DataW.TrodAll enc Try.prog W 0 (fun _ => true) true Try.f4.params.toList args.toList ds p := hA0
  rw [Try.params4] at hA hval
  obtain ⟨v0, vs0, d0, ds0, p0, q0, hargs, rfl, rfl, h0, r0⟩ := trodAll_cons hA
  obtain ⟨v1, vs1, d1, ds1, p1, q1, rfl, rfl, rfl, h1, r1⟩ := trodAll_cons r0
  obtain ⟨rfl, rfl, rfl⟩ := trodAll_nil r1
  obtain rfl : args = #[v0, v1] := by cases args; simp_all
  obtain ⟨rfl, rfl⟩ := trodVars_none hV
  obtain ⟨a0, len0, c0, rfl⟩ := okWide_slice Try.underlying22 (hval 0 22 v0 rfl rfl)
  have k0 := h0
  have lt0 : ∀ x ∈ p0, x.block < W.heap.size := by obtain ⟨m, hm⟩ := k0; exact DataW.trod_lt m _ _ _ hm
  obtain ⟨l0, rfl, hx0, hb0, hd0⟩ := deeds_arg h0
  obtain ⟨a1, len1, c1, rfl⟩ := okWide_slice Try.underlying22 (hval 1 22 v1 rfl rfl)
  have k1 := h1
  have lt1 : ∀ x ∈ p1, x.block < W.heap.size := by obtain ⟨m, hm⟩ := k1; exact DataW.trod_lt m _ _ _ hm
  obtain ⟨l1, rfl, hx1, hb1, hd1⟩ := deeds_arg h1
  clear hA0 hval0
  refine (walk a0 c0 l0 a1 c1 l1 W hx0 hb0 hd0 hx1 hb1 hd1).mono fun e W' ⟨he, bel⟩ => ?_
  subst he
  exact ⟨_, rfl, _, _, _, [], _, [], hW', trodAll_mk1 (shut_bool Try.underlying4 _), (trodAll_cons_mk (Below.trod laidOut (by kernel_rfl) (of_decide_eq_true (by kernel_rfl)) k0 bel lt0) (trodAll_cons_mk (Below.trod laidOut (by kernel_rfl) (of_decide_eq_true (by kernel_rfl)) k1 bel lt1) trodAll_mk0)), rfl, bel.frame _, fun h => by cases h⟩

theorem proved : Rows.FlightForksSaid :=
  OpenClaim.holds_of_wide 4 Try.f4 rfl rfl rfl rfl rfl rfl rfl ⟨rfl, rfl, rfl, rfl, rfl⟩ rfl rfl rfl rfl rfl (by kernel_rfl) Try.func4 (by kernel_rfl)
    (of_decide_eq_true (by kernel_rfl)) (by unfold Func.isWrapper; first | (rw [if_pos (by decide +kernel)]; kernel_rfl) | (rw [if_neg (by decide +kernel)]; exact ⟨rfl, rfl⟩))
    (fun os started H enc _ => lifted os started H enc)
end Go.Proofs.Yticemhnfcelpmaa.flightForks
namespace Go.Proofs.Yticemhnfcelpmaa
theorem flightForks_holds : Rows.FlightForksSaid := flightForks.proved
#print axioms flightForks_holds
end Go.Proofs.Yticemhnfcelpmaa
