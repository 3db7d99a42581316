/- Proved: each clock shows how often it ticked, and no other one moves, whatever the numbers of nodes (the first 2000 are played, as the statement says); no condition. -/
import Derived.Test.YtiipmgmmnjfefaaArgi
import Derived.Test.YtiipmgmmnjfefaaFl12
import Derived.Test.YtiipmgmmnjfefaaFl6
import Derived.Deep.QuietTactic
import Derived.BigQuiet
namespace Go.Proofs.Ytiipmgmmnjfefaa.flightClocks
open Go.ChangeShapes Go.WideShapes Go.ChangeAt Go.RowKit
set_option linter.unusedVariables false

theorem own : ownKnob Try.prog.godebug = none := by kernel_rfl
theorem laidOut : laidOutB Try.prog = true := by kernel_rfl

/-- How often: the count's ten cells. -/
def cntB (ck : List Int) : Obj := .cells ((0 :: ck).map (Value.int .i64)).toArray 55 (0, 0)
theorem cnt_cell {w : World} {C : Nat} {ck : List Int} (h : w.heap[C]? = some (cntB ck)) (j : Nat) (hj : j < ck.length) : w.cell? ⟨C, j + 1, none⟩ = some (.int .i64 (ck.getD j 0)) := by
  refine box_cell h (j + 1) _ ?_
  simp [List.getElem?_eq_getElem hj]
theorem cnt_free {w : World} {C : Nat} {ck : List Int} (h : w.heap[C]? = some (cntB ck)) (k : Nat) : w.frozen? ⟨C, k, none⟩ = false := box_free h k
theorem cnt_set {w : World} {C : Nat} {ck : List Int} (h : w.heap[C]? = some (cntB ck)) (j : Nat) (v : Int) : (w.setCell ⟨C, j + 1, none⟩ (.int .i64 v)).heap[C]? = some (cntB (ck.set j v)) := by
  have := heap_setCell_same w C (j + 1) _ 55 (.int .i64 v) h
  rw [this]
  simp [cntB, List.map_set]
/-- All clocks show at most so much. -/
def Few (ck : List Int) (k : Nat) : Prop := ∀ j, 0 ≤ ck.getD j 0 ∧ ck.getD j 0 ≤ k
theorem Few.tick {ck : List Int} {k : Nat} (h : Few ck k) (j : Nat) : Few (ck.set j (ck.getD j 0 + 1)) (k + 1) := by
  intro i
  have hi := h i
  have hj := h j
  by_cases e : i = j
  · subst e
    by_cases hl : i < ck.length
    · rw [List.getD_eq_getElem?_getD, List.getElem?_set_self hl]
      simp only [Option.getD_some]
      omega
    · rw [List.getD_eq_getElem?_getD, List.getElem?_eq_none (by rw [List.length_set]; omega)]
      simp only [Option.getD_none]
      omega
  · rw [List.getD_eq_getElem?_getD, List.getElem?_set_ne (fun h => e h.symm), ← List.getD_eq_getElem?_getD]
    omega
theorem Few.mono {ck : List Int} {k : Nat} (h : Few ck k) : Few ck (k + 1) := fun i => ⟨(h i).1, by have := (h i).2; omega⟩
theorem few_start : Few (List.replicate 9 0) 0 := by
  intro i
  have e : (List.replicate 9 (0 : Int)).getD i 0 = 0 := by
    rw [List.getD_eq_getElem?_getD, List.getElem?_replicate]
    split <;> rfl
  rw [e]
  omega
theorem _root_.Go.Proofs.Ytiipmgmmnjfefaa.NetAt.drewN {base : Nat} {w : World} {N M n : Nat} {sp : Option Addr} {c : Nat} {xs : List (Pkt × Hdl)} {last : Int} {S : Int → Int → Bool} {ck : List Int} (h : NetAt base w N M n sp c xs last S ck) (k : Nat) : NetAt base (w.drewN k) N M n sp c xs last S ck := ⟨h.blk, ⟨h.own.row, ⟨fun x hx => ⟨⟨(h.own.dat.own x hx).1.owns, (h.own.dat.own x hx).1.lt⟩, (h.own.dat.own x hx).2⟩, h.own.dat.apart⟩⟩, h.map, h.lowN, h.lowM, h.nine⟩
theorem below_drewN {B : Nat} {w w' : World} (h : Below B w w') (k : Nat) : Below B w (w'.drewN k) := ⟨h.os, h.tape, h.output, h.size, h.block⟩
theorem net_far {base : Nat} {w w' : World} {N M n : Nat} {sp : Option Addr} {c : Nat} {xs : List (Pkt × Hdl)} {last : Int} {S : Int → Int → Bool} {ck : List Int} (h : NetAt base w N M n sp c xs last S ck) {j : Nat} (hg : w.grownBy w' (some j)) {cs : Array Value} {T : TypeId} {fr : Nat × Nat} (hj : w.heap[j]? = some (.cells cs T fr)) (h1 : T ≠ 40) (h2 : T ≠ 5) (h3 : T ≠ 63) : NetAt base w' N M n sp c xs last S ck := by
  obtain ⟨D, hD, hS⟩ := h.map
  refine ⟨grown_block hg h.blk (fun e => ?_), (h.own.far hg hj h1 h2).tight, ⟨D, hD.kept hg (fun e => ?_), hS⟩, h.lowN, h.lowM, h.nine⟩
  · rw [← e, h.blk] at hj
    simp only [Option.some.injEq, Obj.cells.injEq] at hj
    exact h3 hj.2.1.symm
  · obtain ⟨es, clock, hb, _⟩ := hD
    rw [← Option.some.inj e, hb] at hj
    simp at hj
theorem net_ne {base : Nat} {w : World} {N M n : Nat} {sp : Option Addr} {c : Nat} {xs : List (Pkt × Hdl)} {last : Int} {S : Int → Int → Bool} {ck : List Int} (h : NetAt base w N M n sp c xs last S ck) {j : Nat} {ck' : List Int} (hj : w.heap[j]? = some (cntB ck')) : j ≠ N ∧ j ≠ M := by
  refine ⟨fun e => ?_, fun e => ?_⟩
  · rw [e, h.blk] at hj
    simp [cntB] at hj
  · obtain ⟨D, ⟨es, clock, hb, _⟩, _⟩ := h.map
    rw [e, hb] at hj
    simp [cntB] at hj
set_option maxRecDepth 20000 in
set_option maxHeartbeats 8000000 in
theorem walk (a : Option Addr) (c : Nat) (l : List Int) (w : World) (hx : l.length ≤ maxLen) (hb : IntsAt w a l) :
    Calls Try.prog 8 #[.slice a l.length c] w fun e w' => e = .returned (.bool true) ∧ Below w.heap.size w w' := by
  have HB := hide hb
  have hL : l.length ≤ 9223372036854775807 := by simpa [maxLen] using hx
  clear hb hx
  go_enter Try.func8, Try.ntmps8
  go_wp2_with fail
  refine (new_calls _).mono ?_
  rintro e W1 ⟨N, M, rfl, h1, b1⟩
  have bA : Below W1.heap.size W1 (W1.alloc (cntB (List.replicate 9 0))) := (Below.refl _ _).alloc (Nat.le_refl _) _
  have H2 := hide (h1.later bA)
  have C2 := hide (heap_new W1 (cntB (List.replicate 9 0)))
  have B2 := hide (b1.trans (bA.mono b1.size))
  have hC := hide b1.size
  clear h1 b1 bA
  go_wp2_with fail
  have hW : W1.alloc (.cells #[.int .i64 0, .int .i64 0, .int .i64 0, .int .i64 0, .int .i64 0, .int .i64 0, .int .i64 0, .int .i64 0, .int .i64 0, .int .i64 0] 55) = W1.alloc (cntB (List.replicate 9 0)) := rfl
  rw [hW]
  clear hW
  generalize W1.alloc (cntB (List.replicate 9 0)) = W2 at *
  generalize W1.heap.size = C at *
  go_loopw [5] (fun i wr => ∃ (j : Nat) (ck : List Int), j ≤ l.length ∧ j ≤ 2000 ∧ i = .int .i64 (j : Int) ∧ Hid (NetAt w.heap.size wr N M 0 none 0 [] 0 (fun _ _ => false) ck) ∧ Hid (wr.heap[C]? = some (cntB ck)) ∧ Hid (Few ck j) ∧ Hid (Below w.heap.size w wr)) (fun i _ => l.length - (intOf i).toNat)
  case atStart => exact ⟨0, List.replicate 9 0, by omega, by omega, rfl, unhide H2, unhide C2, few_start, unhide B2⟩
  case round =>
    obtain ⟨j, ck, hj, hj2, rfl, H, HC, FW, F⟩ := hrel
    by_cases hjn : j < l.length
    · by_cases hj3 : j < 2000
      · obtain ⟨b, off, rfl, p0⟩ := ((unhide HB).later (unhide F)).cell j hjn
        have hj0 : (0 : Int) ≤ (j : Int) := by omega
        have hj1 : (j : Int) < (l.length : Int) := by omega
        have hj4 : (j : Int) < 2000 := by omega
        have BD := hide ((unhide HB).bd l[j] (List.getElem_mem hjn))
        have hblt := hide (show b < w.heap.size from by
          obtain ⟨b', off', e', q0⟩ := (unhide HB).cell j hjn
          cases e'
          exact World.block_lt_of_cell? _ _ q0)
        generalize l[j] = v at *
        go_wp2_with fail
        cases hv : isN v
        · refine (tick_no (N := N) v hv).mono ?_
          rintro e w2 ⟨rfl, rfl⟩
          have hv' := hv
          simp only [isN, Bool.and_eq_false_iff, decide_eq_false_iff_not] at hv'
          by_cases hv1 : v < 1
          · go_wp2
            exact ⟨⟨j + 1, ck, by omega, by omega, by go_num, unhide H, unhide HC, (unhide FW).mono, unhide F⟩, by simp [intOf]; omega⟩
          · have hv2 : 9 < v := by rcases hv' with h | h <;> omega
            go_wp2
            exact ⟨⟨j + 1, ck, by omega, by omega, by go_num, unhide H, unhide HC, (unhide FW).mono, unhide F⟩, by simp [intOf]; omega⟩
        · obtain ⟨k, hk, rfl⟩ := isN_nat hv
          refine (tick_yes (unhide H) k hk (unhide FW k).1 (by have := (unhide FW k).2; omega)).mono ?_
          rintro e W3 ⟨rfl, h3, g3⟩
          have hck9 := (unhide H).nine
          obtain ⟨hCN, hCM⟩ := net_ne (unhide H) (unhide HC)
          have HC3 := hide (g3.block C (Array.getElem?_eq_some_iff.1 (unhide HC)).1 hCN hCM (fun e => by cases e) |>.trans (unhide HC))
          have F3 := hide ((unhide F).trans ((unhide H).below g3))
          have H3 := hide h3
          have FW3 := hide ((unhide FW).tick k)
          have x0 := cnt_cell (unhide HC3) k (by omega)
          have fx := cnt_free (unhide HC3) (k + 1)
          have x1 := cnt_set (unhide HC3) k (ck.getD k 0 + 1)
          clear h3 g3
          have q0 : W3.cell? ⟨b, off + j, none⟩ = some (.int .i64 ((k : Int) + 1)) := ((unhide F3).cell (p := ⟨b, off + j, none⟩) (unhide hblt)).trans (((unhide F).cell (p := ⟨b, off + j, none⟩) (unhide hblt)).symm.trans p0)
          have gs := grown_set W3 C (k + 1) (.int .i64 (ck.getD k 0 + 1))
          have HC4 := hide x1
          have H4 := hide (net_far (unhide H3) gs (unhide HC3) (by decide) (by decide) (by decide))
          have F4 := hide ((unhide F3).grown gs (unhide F3).size (fun g hg => by have := Option.some.inj hg; have := unhide hC; omega))
          have q1 : (W3.setCell ⟨C, k + 1, none⟩ (.int .i64 (ck.getD k 0 + 1))).cell? ⟨b, off + j, none⟩ = some (.int .i64 ((k : Int) + 1)) := ((unhide F4).cell (p := ⟨b, off + j, none⟩) (unhide hblt)).trans (((unhide F3).cell (p := ⟨b, off + j, none⟩) (unhide hblt)).symm.trans q0)
          have x2 := cnt_cell (unhide HC4) k (by rw [List.length_set]; omega)
          have hset : (ck.set k (ck.getD k 0 + 1)).getD k 0 = ck.getD k 0 + 1 := by
            rw [List.getD_eq_getElem?_getD, List.getElem?_set_self (by omega)]; rfl
          rw [hset] at x2
          have hbd := unhide FW k
          have hw1 : IntKind.i64.wrap (ck.getD k 0 + 1) = ck.getD k 0 + 1 := by rw [IntKind.wrap_i64]; omega
          have hk0 : (0 : Int) ≤ (k : Int) := by omega
          have hk1 : (k : Int) < 9 := by omega
          have e1 : ¬ ((k : Int) + 1 < 1) := by omega
          have e2 : ¬ (9 < (k : Int) + 1) := by omega
          clear hset hbd gs x1 HC3 H3 F3 H HC F FW HB hv
          generalize ck.getD k 0 = y at *
          go_wp2
          exact ⟨⟨j + 1, _, by omega, by omega, by go_num, unhide H4, unhide HC4, unhide FW3, unhide F4⟩, by simp [intOf]; omega⟩
      · have hj4 : ¬ ((j : Int) < 2000) := by omega
        have hj1 : (j : Int) < (l.length : Int) := by omega
        go_wp2_with fail
        go_loopw [8] (fun i wr2 => ∃ q : Nat, q ≤ 9 ∧ i = .int .i64 ((q : Int) + 1) ∧ Hid (NetAt w.heap.size wr2 N M 0 none 0 [] 0 (fun _ _ => false) ck) ∧ Hid (wr2.heap[C]? = some (cntB ck)) ∧ Hid (Below w.heap.size w wr2)) (fun i _ => 10 - (intOf i).toNat)
        case atStart => exact ⟨0, by omega, rfl, unhide H, unhide HC, unhide F⟩
        case round =>
          obtain ⟨q, hq, rfl, H5, HC5, F5⟩ := hrel
          by_cases hq9 : q < 9
          · have x0 := cnt_cell (unhide HC5) q (by have := (unhide H5).nine; omega)
            have hq0 : (0 : Int) ≤ (q : Int) := by omega
            have hq1 : (q : Int) < 9 := by omega
            go_wp2_with fail
            go_quiet (first | (go_at_call 30; refine Calls.quiet_of_same (now_yes ((unhide H5).drewN _) q hq9)))
            go_wp2
            exact ⟨⟨q + 1, by omega, by go_num, (unhide H5).drewN _, unhide HC5, below_drewN (unhide F5) _⟩, by simp [intOf]; omega⟩
          · obtain rfl : q = 9 := by omega
            go_wp2_with fail
            refine (live4_calls _).mono ?_
            rintro e W7 ⟨rfl, b7⟩
            have H7 := hide ((unhide H5).later b7)
            have F7 := hide ((unhide F5).trans (b7.mono (unhide F5).size))
            clear b7
            go_wp2_with fail
            refine (now_no (unhide H7) 0 rfl).mono ?_
            rintro e w8 ⟨rfl, rfl⟩
            go_wp2_with fail
            refine (now_no (unhide H7) 10 rfl).mono ?_
            rintro e w9 ⟨rfl, rfl⟩
            go_wp2
            go_ret
            exact ⟨rfl, unhide F7⟩
    · have hj1 : ¬ ((j : Int) < (l.length : Int)) := by omega
      go_wp2_with fail
      go_loopw [8] (fun i wr2 => ∃ q : Nat, q ≤ 9 ∧ i = .int .i64 ((q : Int) + 1) ∧ Hid (NetAt w.heap.size wr2 N M 0 none 0 [] 0 (fun _ _ => false) ck) ∧ Hid (wr2.heap[C]? = some (cntB ck)) ∧ Hid (Below w.heap.size w wr2)) (fun i _ => 10 - (intOf i).toNat)
      case atStart => exact ⟨0, by omega, rfl, unhide H, unhide HC, unhide F⟩
      case round =>
        obtain ⟨q, hq, rfl, H5, HC5, F5⟩ := hrel
        by_cases hq9 : q < 9
        · have x0 := cnt_cell (unhide HC5) q (by have := (unhide H5).nine; omega)
          have hq0 : (0 : Int) ≤ (q : Int) := by omega
          have hq1 : (q : Int) < 9 := by omega
          go_wp2_with fail
          go_quiet (first | (go_at_call 30; refine Calls.quiet_of_same (now_yes ((unhide H5).drewN _) q hq9)))
          go_wp2
          exact ⟨⟨q + 1, by omega, by go_num, (unhide H5).drewN _, unhide HC5, below_drewN (unhide F5) _⟩, by simp [intOf]; omega⟩
        · obtain rfl : q = 9 := by omega
          go_wp2_with fail
          refine (live4_calls _).mono ?_
          rintro e W7 ⟨rfl, b7⟩
          have H7 := hide ((unhide H5).later b7)
          have F7 := hide ((unhide F5).trans (b7.mono (unhide F5).size))
          clear b7
          go_wp2_with fail
          refine (now_no (unhide H7) 0 rfl).mono ?_
          rintro e w8 ⟨rfl, rfl⟩
          go_wp2_with fail
          refine (now_no (unhide H7) 10 rfl).mono ?_
          rintro e w9 ⟨rfl, rfl⟩
          go_wp2
          go_ret
          exact ⟨rfl, unhide F7⟩

set_option maxRecDepth 100000 in
theorem lifted (os : Os) (started : os.Started) (H : Type) (enc : TypeId × Value → H) :
    ReturnsInHanded {} Try.checked os 8 .any (Rows.flightClocksSpec.pre6 enc Try.prog Try.f8 Rows.flightClocksRow.domain false) (Rows.flightClocksSpec.post enc Try.prog Try.f8 false true false false) := by
  refine returnsInHanded_of_change_sized (C := Try.checked) own started (by kernel_rfl) Try.func8
    (ChangeSpec.witness6 (enc := enc) (C := Try.checked) false ⟨#[], #[.slice none 0 0], []⟩ 8 (by kernel_rfl) (by kernel_rfl) (by kernel_rfl) (by kernel_rfl)) ?_
  intro W base args ds gs before hval0 hW hcnd hsz _
  have hval : ∀ (j : Nat) t v, Try.f8.params[j]? = some t → args[j]? = some v → Value.okWide Try.prog W .any base t v := hval0
  have hW' := hW
  obtain ⟨p, q, hA0, hV, rfl, hfz, hnd⟩ := hW
  have hA : DataW.TrodAll enc Try.prog W 0 (fun _ => true) true Try.f8.params.toList args.toList ds p := hA0
  rw [Try.params8] at hA hval
  obtain ⟨v0, vs0, d0, ds0, p0, q0, hargs, rfl, rfl, h0, r0⟩ := trodAll_cons hA
  obtain ⟨rfl, rfl, rfl⟩ := trodAll_nil r0
  obtain rfl : args = #[v0] := by cases args; simp_all
  obtain ⟨rfl, rfl⟩ := trodVars_none hV
  obtain ⟨a0, len0, c0, rfl⟩ := okWide_slice Try.underlying54 (hval 0 54 v0 rfl rfl)
  have k0 := h0
  have lt0 : ∀ x ∈ p0, x.block < W.heap.size := by obtain ⟨m, hm⟩ := k0; exact DataW.trod_lt m _ _ _ hm
  obtain ⟨l0, rfl, hx0, hb0⟩ := row64 h0
  clear hA0 hval0
  refine (walk a0 c0 l0 W hx0 hb0).mono fun e W' ⟨he, bel⟩ => ?_
  subst he
  exact ⟨_, rfl, _, _, _, [], _, [], hW', trodAll_mk1 (shut_bool Try.underlying4 _), (trodAll_cons_mk (Below.trod laidOut (by kernel_rfl) (of_decide_eq_true (by kernel_rfl)) k0 bel lt0) trodAll_mk0), rfl, bel.frame _, fun h => by cases h⟩

theorem proved : Rows.FlightClocksSaid :=
  OpenClaim.holds_of_wide 8 Try.f8 rfl rfl rfl rfl rfl rfl rfl ⟨rfl, rfl, rfl, rfl, rfl⟩ rfl rfl rfl rfl rfl (by kernel_rfl) Try.func8 (by kernel_rfl)
    (of_decide_eq_true (by kernel_rfl)) (by unfold Func.isWrapper; first | (rw [if_pos (by decide +kernel)]; kernel_rfl) | (rw [if_neg (by decide +kernel)]; exact ⟨rfl, rfl⟩))
    (fun os started H enc _ => lifted os started H enc)
end Go.Proofs.Ytiipmgmmnjfefaa.flightClocks
namespace Go.Proofs.Ytiipmgmmnjfefaa
theorem flightClocks_holds : Rows.FlightClocksSaid := flightClocks.proved
#print axioms flightClocks_holds
end Go.Proofs.Ytiipmgmmnjfefaa
