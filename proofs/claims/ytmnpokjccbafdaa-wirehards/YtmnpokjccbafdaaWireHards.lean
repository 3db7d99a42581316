/- Proved: for every hard state and all bytes wire.PutHard and wire.GetHard answer as the document's answers do; no condition. -/
import Derived.Test.YtmnpokjccbafdaaStr
import Derived.Test.YtmnpokjccbafdaaWliv
import Derived.Test.YtmnpokjccbafdaaRrh
namespace Go.Proofs.Ytmnpokjccbafdaa.wireHards
open Go.ChangeShapes Go.WideShapes Go.ChangeAt Go.RowKit
set_option linter.unusedVariables false

theorem own : ownKnob Try.prog.godebug = none := by kernel_rfl
theorem laidOut : laidOutB Try.prog = true := by kernel_rfl

theorem str_same (l : List Nat) : ((strOf l).toList == (strOf l).toList) = true := by simp
/-- The answer of GetHard, its parts. -/
theorem hardV_parts (r : Except Nat (Nat × Nat)) : ∃ t v x : Int, hardV r = .tuple #[.agg #[.int .i64 t, .int .i64 v], .int .i64 x] := by
  cases r with
  | error x => exact ⟨0, 0, x, rfl⟩
  | ok p => exact ⟨p.1, p.2, 0, rfl⟩

/-- What PutHard answers: the bytes, the error. -/
def putHardR (t v : Int) : List Nat × Nat := if 0 ≤ t ∧ t ≤ 1099511627776 ∧ 0 ≤ v ∧ v ≤ 9 then (numB t.toNat ++ numB v.toNat, 0) else ([], 2)
theorem putHard_any (t v : Int) (l : List Nat) (x : Nat) (w : World) (h : putHardR t v = (l, x)) :
    Calls Try.prog 19 #[.agg #[.int .i64 t, .int .i64 v]] w fun e w' => ∃ sp n c, e = .returned (.tuple #[.slice sp n c, .int .i64 (x : Int)]) ∧ Hid (l.length = n) ∧ BytesAt w' sp l ∧ Below w.heap.size w w' := by
  unfold putHardR at h
  split at h
  · next hh =>
    simp only [Prod.mk.injEq] at h
    obtain ⟨rfl, rfl⟩ := h
    have := putHard_yes t.toNat v.toNat w (by omega) (by omega)
    rw [Int.toNat_of_nonneg hh.1, Int.toNat_of_nonneg hh.2.2.1] at this
    refine this.mono ?_
    rintro e w' ⟨sp, n, c, rfl, h1, h2, h3⟩
    exact ⟨sp, n, c, rfl, h1, h2.bytes, h3⟩
  · next hh =>
    simp only [Prod.mk.injEq] at h
    obtain ⟨rfl, rfl⟩ := h
    refine (putHard_no t v w hh).mono ?_
    rintro e w' ⟨rfl, h3⟩
    exact ⟨none, 0, 0, rfl, rfl, ⟨by simp, by simp⟩, h3⟩
theorem refPutHard_any (t v : Int) (l : List Nat) (x : Nat) (w : World) (h : putHardR t v = (l, x)) :
    Calls Try.prog 20 #[.agg #[.int .i64 t, .int .i64 v]] w fun e w' => ∃ sp n c, e = .returned (.tuple #[.slice sp n c, .int .i64 (x : Int)]) ∧ Hid (l.length = n) ∧ BytesAt w' sp l ∧ Below w.heap.size w w' := by
  unfold putHardR at h
  split at h
  · next hh =>
    simp only [Prod.mk.injEq] at h
    obtain ⟨rfl, rfl⟩ := h
    have := refPutHard_yes t.toNat v.toNat w (by omega) (by omega)
    rw [Int.toNat_of_nonneg hh.1, Int.toNat_of_nonneg hh.2.2.1] at this
    refine this.mono ?_
    rintro e w' ⟨sp, n, c, rfl, h1, h2, h3⟩
    exact ⟨sp, n, c, rfl, h1, h2.bytes, h3⟩
  · next hh =>
    simp only [Prod.mk.injEq] at h
    obtain ⟨rfl, rfl⟩ := h
    refine (refPutHard_no t v w hh).mono ?_
    rintro e w' ⟨rfl, h3⟩
    exact ⟨none, 0, 0, rfl, rfl, ⟨by simp, by simp⟩, h3⟩
theorem getHard_at (a : Option Addr) (m c : Nat) (l : List Nat) (V : Value) (w : World) (hV : hardV (wholeE l (hardE l 0)) = V) (hm : l.length = m) (hl : l.length ≤ maxLen) (hb : BytesAt w a l) :
    Calls Try.prog 21 #[.slice a m c] w fun e w' => e = .returned V ∧ Below w.heap.size w w' := by
  subst hV; exact getHard_calls a m c l w hm hl hb
theorem refGetHard_at (a : Option Addr) (m c : Nat) (l : List Nat) (V : Value) (w : World) (hV : hardV (wholeE l (hardE l 0)) = V) (hm : l.length = m) (hl : l.length ≤ 140737488355328) (hb : BytesAt w a l) :
    Calls Try.prog 22 #[.slice a m c] w fun e w' => e = .returned V ∧ Below w.heap.size w w' := by
  subst hV; exact refGetHard_calls a m c l w hm hl hb

set_option maxHeartbeats 1000000 in
theorem walk (t0 u0 : Int) (a1 : Option Addr) (c1 : Nat) (l1 : List Nat) (w : World) (bt0 : -9223372036854775808 ≤ t0 ∧ t0 ≤ 9223372036854775807) (bu0 : -9223372036854775808 ≤ u0 ∧ u0 ≤ 9223372036854775807)
    (hc1 : l1.length ≤ c1) (hm1 : c1 ≤ 140737488355328) (hb1 : BytesAt w a1 l1) (hz1 : a1 = none → c1 = 0) :
    Calls Try.prog 8 #[.agg #[.int .i64 t0, .int .i64 u0], .slice a1 l1.length c1] w fun e w' => e = .returned (.bool true) ∧ Below w.heap.size w w' := by
  have HB := hide hb1
  have HL := hide (show l1.length ≤ 140737488355328 by omega)
  have HM := hide (show l1.length ≤ maxLen by simp only [maxLen]; omega)
  have hnil : ∀ (W : World), BytesAt W none [] := fun W => ⟨by simp, by simp⟩
  have HN := hide hnil
  clear hb1 hc1 hm1 hz1 bt0 bu0 hnil
  obtain ⟨t, v, x, hV⟩ := hardV_parts (wholeE l1 (hardE l1 0))
  have HV := hide hV
  clear hV
  go_enter Try.func8, Try.ntmps8
  obtain ⟨l, y, hP⟩ : ∃ l y, putHardR t0 u0 = (l, y) := ⟨_, _, rfl⟩
  have HP := hide hP
  have HX := hide (heap_new w (.cells #[.int .i64 t0, .int .i64 u0] 42))
  have bA := hide (show Below w.heap.size w (w.alloc (.cells #[.int .i64 t0, .int .i64 u0] 42)) from (Below.refl _ _).alloc (Nat.le_refl _) _)
  have hsz := hide (size_alloc w (.cells #[.int .i64 t0, .int .i64 u0] 42))
  clear hP
  go_wp2_with fail
  generalize w.alloc _ = W at *
  refine (putHard_any t0 u0 l y _ (unhide HP)).mono ?_
  rintro e W1 ⟨sp1, n1, k1, rfl, hn1, hB1, hb1⟩
  obtain ⟨c0, d0, _, _⟩ := pair_cells ((hb1.block _ (by rw [unhide hsz]; omega)).trans (unhide HX))
  have B1 := hide hB1
  have F1 := hide ((unhide bA).trans (hb1.mono (unhide bA).size))
  clear hb1 hB1 bA
  go_wp2_with fail
  refine (refPutHard_any t0 u0 l y _ (unhide HP)).mono ?_
  rintro e W2 ⟨sp2, n2, k2, rfl, hn2, hB2, hb2⟩
  have B2 := hide hB2
  have B1' := hide ((unhide B1).later hb2)
  have F2 := hide ((unhide F1).trans (hb2.mono (unhide F1).size))
  have A2 := hide ((unhide HB).later (unhide F2))
  clear hb2 hB2 F1 B1 c0 d0
  go_wp2_with fail
  refine (getHard_at a1 _ c1 l1 _ _ (unhide HV) rfl (unhide HM) (unhide A2)).mono ?_
  rintro e W3 ⟨rfl, hb3⟩
  have b3 := hide (show Below W3.heap.size W3 (W3.alloc (.cells #[.int .i64 t, .int .i64 v] 42)) from (Below.refl _ _).alloc (Nat.le_refl _) _)
  have X3 := hide (heap_new W3 (.cells #[.int .i64 t, .int .i64 v] 42))
  have hb3' := hb3.trans ((unhide b3).mono hb3.size)
  have z3 := hide (size_alloc W3 (.cells #[.int .i64 t, .int .i64 v] 42))
  have B1 := hide ((unhide B1').later hb3')
  have B2' := hide ((unhide B2).later hb3')
  have F3 := hide ((unhide F2).trans (hb3'.mono (unhide F2).size))
  have A3 := hide ((unhide HB).later (unhide F3))
  clear hb3 hb3' F2 A2 B2 B1'
  go_wp2_with fail
  generalize hW4 : W3.alloc _ = W4 at *
  refine (refGetHard_at a1 _ c1 l1 _ _ (unhide HV) rfl (unhide HL) (unhide A3)).mono ?_
  rintro e W5 ⟨rfl, hb5⟩
  have X5 := hide ((hb5.block _ (by rw [unhide z3]; omega)).trans (unhide X3))
  have b5 := hide (show Below W5.heap.size W5 (W5.alloc (.cells #[.int .i64 t, .int .i64 v] 42)) from (Below.refl _ _).alloc (Nat.le_refl _) _)
  have Y5 := hide (heap_new W5 (.cells #[.int .i64 t, .int .i64 v] 42))
  have Z5 := hide (heap_old (.cells #[.int .i64 t, .int .i64 v] 42) (unhide X5))
  have z5 := hide (size_alloc W5 (.cells #[.int .i64 t, .int .i64 v] 42))
  have hb5' := hb5.trans ((unhide b5).mono hb5.size)
  have C1 := hide ((unhide B1).later hb5')
  have C2 := hide ((unhide B2').later hb5')
  have F5 := hide ((unhide F3).trans (hb5'.mono (unhide F3).size))
  have hs5 := hide (Nat.lt_of_lt_of_le (Nat.lt_of_lt_of_le (Nat.lt_succ_self W3.heap.size) (Nat.le_of_eq (unhide z3).symm)) hb5'.size)
  clear hb5 hb5' F3 A3 B1 B2' X5 hW4
  go_wp2_with fail
  generalize hW6 : W5.alloc _ = W6 at *
  refine (live2_calls _).mono ?_
  rintro e W7 ⟨rfl, hb7⟩
  obtain ⟨p0, p1, _, _⟩ := pair_cells ((hb7.block _ (by exact unhide hs5)).trans (unhide Z5))
  obtain ⟨q0, q1, _, _⟩ := pair_cells ((hb7.block _ (by rw [unhide z5]; omega)).trans (unhide Y5))
  have s1 := run_string8 (c := k1) n1 (unhide hn1) ((unhide C1).later hb7)
  have s2 := run_string8 (c := k2) n2 (unhide hn2) ((unhide C2).later hb7)
  have t1 := str_same l
  have F7 := hide ((unhide F5).trans (hb7.mono (unhide F5).size))
  clear hb7 hW6
  go_wp2
  go_ret
  exact ⟨rfl, unhide F7⟩

set_option maxRecDepth 100000 in
theorem lifted (os : Os) (started : os.Started) (H : Type) (enc : TypeId × Value → H) :
    ReturnsInHanded {} Try.checked os 8 .any (Rows.wireHardsSpec.pre6 enc Try.prog Try.f8 Rows.wireHardsRow.domain false) (Rows.wireHardsSpec.post enc Try.prog Try.f8 false true false false) := by
  refine returnsInHanded_of_change_sized (C := Try.checked) own started (by kernel_rfl) Try.func8
    (ChangeSpec.witness6 (enc := enc) (C := Try.checked) false ⟨#[], #[.agg #[.int .i64 0, .int .i64 0], .slice none 0 0], []⟩ 8 (by kernel_rfl) (by kernel_rfl) (by kernel_rfl) (by kernel_rfl)) ?_
  intro W base args ds gs before hval0 hW hcnd hsz _
  have hval : ∀ (j : Nat) t v, Try.f8.params[j]? = some t → args[j]? = some v → Value.okWide Try.prog W .any base t v := hval0
  have hW' := hW
  obtain ⟨p, q, hA0, hV, rfl, hfz, hnd⟩ := hW
  have hA : DataW.TrodAll enc Try.prog W 0 (fun _ => true) true Try.f8.params.toList args.toList ds p := hA0
  rw [Try.params8] at hA hval
  obtain ⟨v0, vs0, d0, ds0, p0, q0, hargs, rfl, rfl, h0, r0⟩ := trodAll_cons hA
  obtain ⟨v1, vs1, d1, ds1, p1, q1, rfl, rfl, rfl, h1, r1⟩ := trodAll_cons r0
  obtain ⟨rfl, rfl, rfl⟩ := trodAll_nil r1
  obtain rfl : args = #[v0, v1] := by cases args; simp_all
  obtain ⟨rfl, rfl⟩ := trodVars_none hV
  have k0 := h0
  have lt0 : ∀ x ∈ p0, x.block < W.heap.size := by obtain ⟨m, hm⟩ := k0; exact DataW.trod_lt m _ _ _ hm
  obtain ⟨t0, u0, rfl, bt0, bu0⟩ := open_hard (hval 0 42 v0 rfl rfl) h0
  obtain ⟨a1, len1, c1, rfl⟩ := okWide_slice Try.underlying22 (hval 1 22 v1 rfl rfl)
  have k1 := h1
  have lt1 : ∀ x ∈ p1, x.block < W.heap.size := by obtain ⟨m, hm⟩ := k1; exact DataW.trod_lt m _ _ _ hm
  obtain ⟨l1, rfl, hc1, hx1, hb1, hz1, hr1⟩ := row8 h1
  clear hA0 hval0
  have hm1 : c1 ≤ 140737488355328 := reach8 hsz (j := 1) (d := d1) rfl rfl hr1
  refine (walk t0 u0 a1 c1 l1 W bt0 bu0 hc1 hm1 hb1 hz1).mono fun e W' ⟨he, bel⟩ => ?_
  subst he
  exact ⟨_, rfl, _, _, _, [], _, [], hW', trodAll_mk1 (shut_bool Try.underlying4 _), (trodAll_cons_mk (Below.trod laidOut (by kernel_rfl) (of_decide_eq_true (by kernel_rfl)) k0 bel lt0) (trodAll_cons_mk (Below.trod laidOut (by kernel_rfl) (of_decide_eq_true (by kernel_rfl)) k1 bel lt1) trodAll_mk0)), rfl, bel.frame _, fun h => by cases h⟩

theorem proved : Rows.WireHardsSaid :=
  OpenClaim.holds_of_wide 8 Try.f8 rfl rfl rfl rfl rfl rfl rfl ⟨rfl, rfl, rfl, rfl, rfl⟩ rfl rfl rfl rfl rfl (by kernel_rfl) Try.func8 (by kernel_rfl)
    (of_decide_eq_true (by kernel_rfl)) (by unfold Func.isWrapper; first | (rw [if_pos (by decide +kernel)]; kernel_rfl) | (rw [if_neg (by decide +kernel)]; exact ⟨rfl, rfl⟩))
    (fun os started H enc _ => lifted os started H enc)
end Go.Proofs.Ytmnpokjccbafdaa.wireHards
namespace Go.Proofs.Ytmnpokjccbafdaa
theorem wireHards_holds : Rows.WireHardsSaid := wireHards.proved
#print axioms wireHards_holds
end Go.Proofs.Ytmnpokjccbafdaa
