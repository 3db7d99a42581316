/- Proved: a target of weight 0, or of none that may be, is never taken, and one is taken just if some weight counts; for all targets (the first 40 are weighed) and draws; no condition. -/
import Derived.Test.YtfopobdbkbcnnaaParg
import Derived.Test.YtfopobdbkbcnnaaPl3
import Derived.Test.YtfopobdbkbcnnaaPl9
namespace Go.Proofs.Ytfopobdbkbcnnaa.planeNought
open Go.ChangeShapes Go.WideShapes Go.ChangeAt Go.RowKit
set_option linter.unusedVariables false

theorem own : ownKnob Try.prog.godebug = none := by kernel_rfl
theorem laidOut : laidOutB Try.prog = true := by kernel_rfl

theorem any_take (l : List Tg) (j : Nat) (hj : j < l.length) : (l.take (j + 1)).any okT = ((l.take j).any okT || okT l[j]) := by
  rw [List.take_succ_eq_append_getElem hj, List.any_append]
  simp
set_option maxRecDepth 20000 in
set_option maxHeartbeats 4000000 in
theorem walk (a : Option Addr) (c : Nat) (l0 : List Tg) (d : Nat) (w : World) (hx : l0.length ≤ maxLen ∧ l0.length ≤ c) (hb : TgsAt w a l0) (hd : d < 18446744073709551616) :
    Calls Try.prog 7 #[.slice a l0.length c, .float .f64 d] w fun e w' => e = .returned (.bool true) ∧ Below w.heap.size w w' := by
  have F1 := hide (few_calls (w := w) (a := a) l0.length c hx.2)
  have hlen : (l0.take 40).length = min l0.length 40 := by rw [List.length_take, Nat.min_comm]
  have hb4 := hb.take 40
  have hk40 : min l0.length 40 ≤ 40 := Nat.min_le_right _ _
  clear hb hx
  generalize l0.take 40 = l at *
  generalize l0.length = n0 at *
  generalize min n0 40 = n at *
  have W1 := hide (weigh_calls hb4 n c hlen (by omega) d hd)
  have H := hide hb4
  have HN := hide hlen
  have WS := hide (fun i (h : weighN l d = some i) => weigh_some l d i h)
  have WO := hide (fun (h : weighN l d = none) => weigh_none l (by omega) d h)
  clear hb4 hlen hd
  cases hr : weighN l d with
  | none =>
    rw [hr] at W1
    have AN := hide (unhide WO hr)
    clear hr WS WO
    unfold firstV at W1
    go_enter Try.func7, Try.ntmps7
    go_wp2_with (first
      | (go_at_call 19; refine (unhide F1).mono ?_; rintro e V ⟨rfl, rfl⟩)
      | (go_at_call 18; refine (unhide W1).mono ?_; rintro e V1 ⟨rfl, b1⟩; have B1 := hide b1; clear b1))
    go_loopw [7, 8] (fun s i wr => ∃ j : Nat, j ≤ n ∧ i = .int .i64 (j : Int) ∧ s = .bool ((l.take j).any okT) ∧ Hid (wr = V1)) (fun _ i _ => n - (intOf i).toNat)
    case atStart => exact ⟨0, by omega, rfl, rfl, hide rfl⟩
    case round =>
      obtain ⟨j, hj, rfl, rfl, HW⟩ := hrel
      have hw := unhide HW
      subst hw
      by_cases hjn : j < n
      · have y0 : (0 : Int) ≤ (j : Int) := by omega
        have y1 : (j : Int) < (n : Int) := by omega
        have hjl : j < l.length := by rw [unhide HN]; exact hjn
        obtain ⟨b, off, rfl, q0, q1⟩ := (unhide H).cell j hjl
        have p1 := cell_later (unhide B1) q1
        have ht := (unhide H).lt _ (List.getElem_mem hjl)
        have AT := hide (any_take l j hjl)
        generalize l[j] = t at *
        obtain ⟨s, x⟩ := t
        simp only at p1 ht
        have RX := hide (rweight_calls x wr ht)
        have zx := gt0_is x ht
        have OX := hide (show okT (s, x) = decide (0 < x ∧ x < fI) from rfl)
        clear q0 q1
        cases ha : (l.take j).any okT with
        | true =>
          rw [ha] at AT
          clear RX zx
          go_wp2
          exact ⟨⟨j + 1, by omega, by go_num, by rw [unhide AT]; rfl, by first | exact HW | exact hide trivial⟩, by simp [intOf]; omega⟩
        | false =>
          rw [ha] at AT
          by_cases h1 : x < fI
          · rw [decide_eq_true h1] at RX
            by_cases h2 : 0 < x
            · rw [decide_eq_true ⟨h2, Nat.le_of_lt h1⟩] at zx
              rw [decide_eq_true ⟨h2, h1⟩] at OX
              clear h1 h2
              go_wp2_with (go_at_call 21; refine (unhide RX).mono ?_; rintro e V3 ⟨rfl, rfl⟩)
              exact ⟨⟨j + 1, by omega, by go_num, by rw [unhide AT, unhide OX]; rfl, HW⟩, by simp [intOf]; omega⟩
            · rw [decide_eq_false (fun q => h2 q.1)] at zx
              rw [decide_eq_false (fun q => h2 q.1)] at OX
              clear h1 h2
              go_wp2_with (go_at_call 21; refine (unhide RX).mono ?_; rintro e V3 ⟨rfl, rfl⟩)
              exact ⟨⟨j + 1, by omega, by go_num, by rw [unhide AT, unhide OX]; rfl, HW⟩, by simp [intOf]; omega⟩
          · rw [decide_eq_false h1] at RX
            rw [decide_eq_false (fun q => h1 q.2)] at OX
            clear h1 zx
            go_wp2_with (go_at_call 21; refine (unhide RX).mono ?_; rintro e V3 ⟨rfl, rfl⟩)
            exact ⟨⟨j + 1, by omega, by go_num, by rw [unhide AT, unhide OX]; rfl, HW⟩, by simp [intOf]; omega⟩
      · have hjj : ¬ (j : Int) < (n : Int) := by omega
        have e : l.take j = l := List.take_of_length_le (by rw [unhide HN]; omega)
        rw [e, unhide AN]
        clear e
        go_wp2_with (go_at_call 12; refine (live10_calls _).mono ?_; rintro e V3 ⟨rfl, b3⟩; have B3 := hide ((unhide B1).trans (b3.mono (unhide B1).size)); clear b3)
        go_ret
        exact ⟨rfl, unhide B3⟩
  | some i =>
    rw [hr] at W1
    obtain ⟨hi, hok⟩ := unhide WS i hr
    have AN := hide (show l.any okT = true from List.any_eq_true.2 ⟨l[i], List.getElem_mem hi, by rw [← getD_at l i hi]; exact hok⟩)
    rw [getD_at l i hi] at hok
    obtain ⟨b0, off0, rfl, g0, g1⟩ := (unhide H).cell i hi
    have hti := (unhide H).lt _ (List.getElem_mem hi)
    rw [unhide HN] at hi
    clear hr WS WO g0
    unfold firstV at W1
    generalize l[i] = ti at *
    obtain ⟨si, xi⟩ := ti
    simp only at g1 hti
    have ho := of_decide_eq_true hok
    simp only at ho
    have RW := hide (fun (W : World) => rweight_calls xi W hti)
    rw [decide_eq_true ho.2] at RW
    have zi : (FloatKind.f64.format.order xi 0 == some Ordering.gt) = true := by rw [gt0_is xi hti]; exact decide_eq_true ⟨ho.1, Nat.le_of_lt ho.2⟩
    clear hok ho hti
    go_enter Try.func7, Try.ntmps7
    go_wp2_with (first
      | (go_at_call 19; refine (unhide F1).mono ?_; rintro e V ⟨rfl, rfl⟩)
      | (go_at_call 18; refine (unhide W1).mono ?_; rintro e V1 ⟨rfl, b1⟩; have B1 := hide b1; clear b1))
    go_loopw [7, 8] (fun s i wr => ∃ j : Nat, j ≤ n ∧ i = .int .i64 (j : Int) ∧ s = .bool ((l.take j).any okT) ∧ Hid (wr = V1)) (fun _ i _ => n - (intOf i).toNat)
    case atStart => exact ⟨0, by omega, rfl, rfl, hide rfl⟩
    case round =>
      obtain ⟨j, hj, rfl, rfl, HW⟩ := hrel
      have hw := unhide HW
      subst hw
      by_cases hjn : j < n
      · have y0 : (0 : Int) ≤ (j : Int) := by omega
        have y1 : (j : Int) < (n : Int) := by omega
        have hjl : j < l.length := by rw [unhide HN]; exact hjn
        obtain ⟨b, off, eb, q0, q1⟩ := (unhide H).cell j hjl
        simp only [Option.some.injEq, Addr.mk.injEq, and_true] at eb
        obtain ⟨rfl, rfl⟩ := eb
        have p1 := cell_later (unhide B1) q1
        have ht := (unhide H).lt _ (List.getElem_mem hjl)
        have AT := hide (any_take l j hjl)
        generalize l[j] = t at *
        obtain ⟨s, x⟩ := t
        simp only at p1 ht
        have RX := hide (rweight_calls x wr ht)
        have zx := gt0_is x ht
        have OX := hide (show okT (s, x) = decide (0 < x ∧ x < fI) from rfl)
        clear q0 q1
        cases ha : (l.take j).any okT with
        | true =>
          rw [ha] at AT
          clear RX zx
          go_wp2
          exact ⟨⟨j + 1, by omega, by go_num, by rw [unhide AT]; rfl, by first | exact HW | exact hide trivial⟩, by simp [intOf]; omega⟩
        | false =>
          rw [ha] at AT
          by_cases h1 : x < fI
          · rw [decide_eq_true h1] at RX
            by_cases h2 : 0 < x
            · rw [decide_eq_true ⟨h2, Nat.le_of_lt h1⟩] at zx
              rw [decide_eq_true ⟨h2, h1⟩] at OX
              clear h1 h2
              go_wp2_with (go_at_call 21; refine (unhide RX).mono ?_; rintro e V3 ⟨rfl, rfl⟩)
              exact ⟨⟨j + 1, by omega, by go_num, by rw [unhide AT, unhide OX]; rfl, HW⟩, by simp [intOf]; omega⟩
            · rw [decide_eq_false (fun q => h2 q.1)] at zx
              rw [decide_eq_false (fun q => h2 q.1)] at OX
              clear h1 h2
              go_wp2_with (go_at_call 21; refine (unhide RX).mono ?_; rintro e V3 ⟨rfl, rfl⟩)
              exact ⟨⟨j + 1, by omega, by go_num, by rw [unhide AT, unhide OX]; rfl, HW⟩, by simp [intOf]; omega⟩
          · rw [decide_eq_false h1] at RX
            rw [decide_eq_false (fun q => h1 q.2)] at OX
            clear h1 zx
            go_wp2_with (go_at_call 21; refine (unhide RX).mono ?_; rintro e V3 ⟨rfl, rfl⟩)
            exact ⟨⟨j + 1, by omega, by go_num, by rw [unhide AT, unhide OX]; rfl, HW⟩, by simp [intOf]; omega⟩
      · have hjj : ¬ (j : Int) < (n : Int) := by omega
        have e : l.take j = l := List.take_of_length_le (by rw [unhide HN]; omega)
        rw [e, unhide AN]
        have i0 : (0 : Int) ≤ (i : Int) := by omega
        have i1 : (i : Int) < (n : Int) := by omega
        clear e
        go_wp2_with (first
          | (go_at_call 12; refine (live10_calls _).mono ?_; rintro e V3 ⟨rfl, b3⟩; have B3 := hide ((unhide B1).trans (b3.mono (unhide B1).size)); have g3 := cell_later (unhide B3) g1; clear b3)
          | (go_at_call 21; refine (unhide RW _).mono ?_; rintro e V3 ⟨rfl, rfl⟩))
        go_ret
        exact ⟨rfl, unhide B3⟩

set_option maxRecDepth 100000 in
theorem lifted (os : Os) (started : os.Started) (H : Type) (enc : TypeId × Value → H) :
    ReturnsInHanded {} Try.checked os 7 .any (Rows.planeNoughtSpec.pre6 enc Try.prog Try.f7 Rows.planeNoughtRow.domain false) (Rows.planeNoughtSpec.post enc Try.prog Try.f7 false true false false) := by
  refine returnsInHanded_of_change_sized (C := Try.checked) own started (by kernel_rfl) Try.func7
    (ChangeSpec.witness6 (enc := enc) (C := Try.checked) false ⟨#[], #[.slice none 0 0, .float .f64 0], []⟩ 8 (by kernel_rfl) (by kernel_rfl) (by kernel_rfl) (by kernel_rfl)) ?_
  intro W base args ds gs before hval0 hW hcnd hsz _
  have hval : ∀ (j : Nat) t v, Try.f7.params[j]? = some t → args[j]? = some v → Value.okWide Try.prog W .any base t v := hval0
  have hW' := hW
  obtain ⟨p, q, hA0, hV, rfl, hfz, hnd⟩ := hW
  have hA : DataW.TrodAll enc Try.prog W 0 (fun _ => true) true Try.f7.params.toList args.toList ds p := hA0
  rw [Try.params7] at hA hval
  obtain ⟨v0, vs0, d0, ds0, p0, q0, hargs, rfl, rfl, h0, r0⟩ := trodAll_cons hA
  obtain ⟨v1, vs1, d1, ds1, p1, q1, rfl, rfl, rfl, h1, r1⟩ := trodAll_cons r0
  obtain ⟨rfl, rfl, rfl⟩ := trodAll_nil r1
  obtain rfl : args = #[v0, v1] := by cases args; simp_all
  obtain ⟨rfl, rfl⟩ := trodVars_none hV
  obtain ⟨a0, len0, c0, rfl⟩ := okWide_slice Try.underlying37 (hval 0 37 v0 rfl rfl)
  have k0 := h0
  have lt0 : ∀ x ∈ p0, x.block < W.heap.size := by obtain ⟨m, hm⟩ := k0; exact DataW.trod_lt m _ _ _ hm
  obtain ⟨l0, rfl, hx0, hb0⟩ := targets_arg h0
  obtain ⟨n1, rfl, rfl, rfl, w1⟩ := open_float Try.underlying38 (hval 1 38 v1 rfl rfl) h1
  have hn1 := f64_lt w1
  clear hA0 hval0
  refine (walk a0 c0 l0 n1 W hx0 hb0 hn1).mono fun e W' ⟨he, bel⟩ => ?_
  subst he
  exact ⟨_, rfl, _, _, _, [], _, [], hW', trodAll_mk1 (shut_bool Try.underlying4 _), (trodAll_cons_mk (Below.trod laidOut (by kernel_rfl) (of_decide_eq_true (by kernel_rfl)) k0 bel lt0) (trodAll_cons_mk (shut_float Try.underlying38 w1) trodAll_mk0)), rfl, bel.frame _, fun h => by cases h⟩

theorem proved : Rows.PlaneNoughtSaid :=
  OpenClaim.holds_of_wide 7 Try.f7 rfl rfl rfl rfl rfl rfl rfl ⟨rfl, rfl, rfl, rfl, rfl⟩ rfl rfl rfl rfl rfl (by kernel_rfl) Try.func7 (by kernel_rfl)
    (of_decide_eq_true (by kernel_rfl)) (by unfold Func.isWrapper; first | (rw [if_pos (by decide +kernel)]; kernel_rfl) | (rw [if_neg (by decide +kernel)]; exact ⟨rfl, rfl⟩))
    (fun os started H enc _ => lifted os started H enc)
end Go.Proofs.Ytfopobdbkbcnnaa.planeNought
namespace Go.Proofs.Ytfopobdbkbcnnaa
theorem planeNought_holds : Rows.PlaneNoughtSaid := planeNought.proved
#print axioms planeNought_holds
end Go.Proofs.Ytfopobdbkbcnnaa
