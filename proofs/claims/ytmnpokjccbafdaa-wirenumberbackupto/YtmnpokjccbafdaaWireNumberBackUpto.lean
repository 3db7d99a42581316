/- Proved: a number that is put is taken as it was, whatever stands around it; for all numbers and rows of bytes whose values number at most 1048576. -/
import Derived.Test.YtmnpokjccbafdaaArg
import Derived.Test.YtmnpokjccbafdaaWliv
import Derived.Test.YtmnpokjccbafdaaTnum
import Derived.Test.YtmnpokjccbafdaaBulk
import Derived.JoinedCond
namespace Go.Proofs.Ytmnpokjccbafdaa.wireNumberBackUpto
open Go.ChangeShapes Go.WideShapes Go.ChangeAt Go.RowKit
set_option linter.unusedVariables false

theorem own : ownKnob Try.prog.godebug = none := by kernel_rfl
theorem laidOut : laidOutB Try.prog = true := by kernel_rfl

set_option maxHeartbeats 1000000 in
theorem walk (n0 : Int) (a1 : Option Addr) (c1 : Nat) (l1 : List Nat) (a2 : Option Addr) (c2 : Nat) (l2 : List Nat) (w : World) (hn0 : -9223372036854775808 ≤ n0 ∧ n0 ≤ 9223372036854775807)
    (hc1 : l1.length ≤ c1) (hm1 : c1 ≤ 1048576) (hb1 : BytesAt w a1 l1) (hz1 : a1 = none → c1 = 0) (hc2 : l2.length ≤ c2) (hm2 : c2 ≤ 1048576) (hb2 : BytesAt w a2 l2) (hz2 : a2 = none → c2 = 0) :
    Calls Try.prog 5 #[.int .i64 n0, .slice a1 l1.length c1, .slice a2 l2.length c2] w fun e w' => e = .returned (.bool true) ∧ Below w.heap.size w w' := by
  have HB1 := hide hb1
  have HB2 := hide hb2
  have Hz1 := hide hz1
  have Hz2 := hide hz2
  have n1 : l1.length ≤ 1048576 := by omega
  have n2 : l2.length ≤ 1048576 := by omega
  clear hb1 hb2 hz1 hz2 hc1 hc2 hm1 hm2 hn0
  go_enter Try.func5, Try.ntmps5
  go_wp2_with fail
  by_cases h : 0 ≤ n0 ∧ n0 ≤ 1099511627776
  · obtain ⟨n, rfl⟩ := Int.eq_ofNat_of_zero_le h.1
    have hn : n ≤ 1099511627776 := by omega
    clear h
    refine (number_yes n _ hn).mono ?_
    rintro e W1 ⟨sp1, m1, k1, rfl, hm1, ho1, hb1⟩
    have h6 := hide (show m1 ≤ 6 by have := numB_six n hn; have := unhide hm1; omega)
    have B1 := hide ho1.bytes
    have F1 := hide hb1
    have A1 := hide ((unhide HB1).later hb1)
    have A2 := hide ((unhide HB2).later hb1)
    have Z1 := hide (show sp1 = none → k1 = 0 by
      intro e
      subst e
      rcases ho1.owns.2 with ⟨hv, _⟩ | ⟨g, cap, cur, hv, _⟩
      · simp only [Value.slice.injEq] at hv; exact hv.2.2
      · cases hv)
    have o2 := hide (OwnB.empty W1 W1.heap.size (Nat.le_refl _))
    have b2 := hide (show Below W1.heap.size W1 (W1.alloc (.cells #[] 5)) from (Below.refl _ _).alloc (Nat.le_refl _) _)
    have ht := hide (takeN_num l1 l2 n hn)
    have HM1 := hide (unhide hm1)
    clear ho1 hb1 hm1
    go_wp2_with (first
      | (at_builtin; refine wpList_append8 rfl (.tmp 38) (.tmp 39) rfl W1.heap.size (some ⟨W1.heap.size, 0, none⟩) 0 0 [] rfl rfl (by exact unhide o2) a1 l1.length c1 rfl l1 rfl (by exact (unhide A1).later (unhide b2)) (unhide Hz1) (by simp only [List.length_nil]; omega) (by exact (unhide b2).size) ?_; intro sp3 m3 k3 W3 hm3 ho3 hg3 hb3; rw [List.nil_append] at hm3 ho3; have O3 := hide ho3; have F3 := hide ((unhide b2).trans hb3); have B3 := hide ((unhide B1).later (unhide F3)); clear ho3 hg3 hb3)
      | (at_builtin; refine wpList_append8 rfl (.tmp 40) (.tmp 41) rfl W1.heap.size sp3 m3 k3 l1 rfl (unhide hm3) (by exact unhide O3) sp1 m1 k1 rfl (numB n) (unhide HM1) (by exact unhide B3) (unhide Z1) (by have := unhide h6; omega) (by exact (unhide F3).size) ?_; intro sp4 m4 k4 W4 hm4 ho4 hg4 hb4; have O4 := hide ho4; have F4 := hide ((unhide F3).trans hb4); have A4 := hide ((unhide A2).later (unhide F4)); clear ho4 hg4 hb4)
      | (at_builtin; refine wpList_append8 rfl (.tmp 42) (.tmp 43) rfl W1.heap.size sp4 m4 k4 (l1 ++ numB n) rfl (unhide hm4) (by exact unhide O4) a2 l2.length c2 rfl l2 rfl (by exact unhide A4) (unhide Hz2) (by have := unhide h6; have := unhide HM1; simp only [List.length_append]; omega) (by exact (unhide F4).size) ?_; intro sp5 m5 k5 W5 hm5 ho5 hg5 hb5; rw [List.append_assoc] at hm5 ho5; have O5 := hide ho5.bytes; have F5 := hide ((unhide F4).trans hb5); clear ho5 hg5 hb5))
    refine (take_ok sp5 m5 k5 (l1 ++ (numB n ++ l2)) l1.length n (l1.length + (numB n).length) _ _ (unhide hm5) rfl (by have := unhide h6; have := unhide HM1; simp only [List.length_append, maxLen]; omega) (by simp only [List.length_append]; omega) (unhide O5) (unhide ht)).mono ?_
    rintro e W6 ⟨rfl, hb6⟩
    rw [unhide HM1]
    have F6 := hide (((unhide F1).trans ((unhide F5).mono (unhide F1).size)).trans (hb6.mono (Nat.le_trans (unhide F1).size (unhide F5).size)))
    have h7' : m1 ≤ 6 := unhide h6
    have h7 := hide (show decide ((m1 : Int) ≤ 6) = true by have := unhide h6; simp; omega)
    have e7 : (((l1.length + m1 : Nat) : Int) == (l1.length : Int) + (m1 : Int)) = true := by simp
    clear hb6
    go_wp2_with fail
    refine (live2_calls _).mono ?_
    rintro e W7 ⟨rfl, hb7⟩
    have F7 := hide ((unhide F6).trans (hb7.mono (unhide F6).size))
    clear hb7
    go_wp2
    go_ret
    refine ⟨?_, unhide F7⟩
    show Ending.returned (.bool (decide ((m1 : Int) ≤ 6))) = _
    rw [unhide h7]
  · have H := hide h
    refine (number_no n0 _ h).mono ?_
    rintro e W1 ⟨rfl, rfl⟩
    clear h
    go_wp2_with fail
    refine (live2_calls _).mono ?_
    rintro e W3 ⟨rfl, hb3⟩
    have F3 := hide hb3
    clear hb3
    by_cases h0 : 0 ≤ n0
    · have h1 : ¬ n0 ≤ 1099511627776 := fun h1 => unhide H ⟨h0, h1⟩
      go_wp2
      go_ret
      exact ⟨rfl, unhide F3⟩
    · go_wp2
      go_ret
      exact ⟨rfl, unhide F3⟩

set_option maxRecDepth 100000 in
theorem lifted (os : Os) (started : os.Started) (H : Type) (enc : TypeId × Value → H) (F : Stop.Interp) :
    ReturnsInHanded {} Try.checked os 5 .any ((Rows.OpenSpec.upto Rows.wireNumberBackSpec).pre6 enc Try.prog Try.f5 Rows.wireNumberBackUptoRow.domain false) (((Rows.OpenSpec.upto Rows.wireNumberBackSpec).at F).post enc Try.prog Try.f5 false true false false) := by
  refine returnsInHanded_of_cond (C := Try.checked) (s := Rows.OpenSpec.upto Rows.wireNumberBackSpec) (k := Rows.uptoSmall) rfl own started (by kernel_rfl) Try.func5
    (OpenSpec.witness (enc := enc) (C := Try.checked) (s := Rows.OpenSpec.upto Rows.wireNumberBackSpec) (k := Rows.uptoSmall) rfl false ⟨#[], #[.int .i64 0, .slice none 0 0, .slice none 0 0], []⟩ 8 (by kernel_rfl) (by kernel_rfl) (by kernel_rfl)
      (x := ([.lit (.int .i64 0), .nil, .nil], [], [])) (by kernel_rfl) rfl (by kernel_rfl)) ?_
  intro W base args ds gs before hval0 hW hcnd hk _
  have hval : ∀ (j : Nat) t v, Try.f5.params[j]? = some t → args[j]? = some v → Value.okWide Try.prog W .any base t v := hval0
  have hW' := hW
  obtain ⟨p, q, hA0, hV, rfl, hfz, hnd⟩ := hW
  have hA : DataW.TrodAll enc Try.prog W 0 (fun _ => true) true Try.f5.params.toList args.toList ds p := hA0
  rw [Try.params5] at hA hval
  obtain ⟨v0, vs0, d0, ds0, p0, q0, hargs, rfl, rfl, h0, r0⟩ := trodAll_cons hA
  obtain ⟨v1, vs1, d1, ds1, p1, q1, rfl, rfl, rfl, h1, r1⟩ := trodAll_cons r0
  obtain ⟨v2, vs2, d2, ds2, p2, q2, rfl, rfl, rfl, h2, r2⟩ := trodAll_cons r1
  obtain ⟨rfl, rfl, rfl⟩ := trodAll_nil r2
  obtain rfl : args = #[v0, v1, v2] := by cases args; simp_all
  obtain ⟨rfl, rfl⟩ := trodVars_none hV
  obtain ⟨n0, rfl, rfl, rfl, w0⟩ := open_int Try.underlying3 (hval 0 3 v0 rfl rfl) h0
  have hn0 := i64_bounds w0
  obtain ⟨a1, len1, c1, rfl⟩ := okWide_slice Try.underlying22 (hval 1 22 v1 rfl rfl)
  have k1 := h1
  have lt1 : ∀ x ∈ p1, x.block < W.heap.size := by obtain ⟨m, hm⟩ := k1; exact DataW.trod_lt m _ _ _ hm
  obtain ⟨l1, rfl, hc1, hx1, hb1, hz1, hr1⟩ := row8 h1
  obtain ⟨a2, len2, c2, rfl⟩ := okWide_slice Try.underlying22 (hval 2 22 v2 rfl rfl)
  have k2 := h2
  have lt2 : ∀ x ∈ p2, x.block < W.heap.size := by obtain ⟨m, hm⟩ := k2; exact DataW.trod_lt m _ _ _ hm
  obtain ⟨l2, rfl, hc2, hx2, hb2, hz2, hr2⟩ := row8 h2
  clear hA0 hval0
  have hm1 := bulk8 hk (List.mem_append_left _ (by simp : d1 ∈ [_, d1, d2])) hr1
  have hm2 := bulk8 hk (List.mem_append_left _ (by simp : d2 ∈ [_, d1, d2])) hr2
  refine (walk n0 a1 c1 l1 a2 c2 l2 W hn0 hc1 hm1 hb1 hz1 hc2 hm2 hb2 hz2).mono fun e W' ⟨he, bel⟩ => ?_
  subst he
  exact ⟨_, rfl, _, _, _, [], _, [], hW', trodAll_mk1 (shut_bool Try.underlying4 _), (trodAll_cons_mk (shut_int Try.underlying3 w0) (trodAll_cons_mk (Below.trod laidOut (by kernel_rfl) (of_decide_eq_true (by kernel_rfl)) k1 bel lt1) (trodAll_cons_mk (Below.trod laidOut (by kernel_rfl) (of_decide_eq_true (by kernel_rfl)) k2 bel lt2) trodAll_mk0))), rfl, bel.frame _, fun h => by cases h⟩

theorem proved : Rows.WireNumberBackUptoSaid :=
  OpenClaim.holds_of_cond 5 Try.f5 rfl rfl rfl rfl rfl rfl rfl ⟨rfl, rfl, rfl, rfl, rfl⟩ rfl rfl rfl rfl rfl (by kernel_rfl) Try.func5 (by kernel_rfl)
    (of_decide_eq_true (by kernel_rfl)) (by unfold Func.isWrapper; first | (rw [if_pos (by decide +kernel)]; kernel_rfl) | (rw [if_neg (by decide +kernel)]; exact ⟨rfl, rfl⟩))
    (fun os started H enc _ F => lifted os started H enc F)
end Go.Proofs.Ytmnpokjccbafdaa.wireNumberBackUpto
namespace Go.Proofs.Ytmnpokjccbafdaa
theorem wireNumberBackUpto_holds : Rows.WireNumberBackUptoSaid := wireNumberBackUpto.proved
#print axioms wireNumberBackUpto_holds
end Go.Proofs.Ytmnpokjccbafdaa
