/- Proved: what is framed is read as it was, whatever stands around it; for all rows of bytes whose values number at most 1048576. -/
import Derived.Test.YtmjojfngdfnabaaArg
import Derived.Test.YtmjojfngdfnabaaApp
import Derived.Test.YtmjojfngdfnabaaBulk
import Derived.JoinedCond
namespace Go.Proofs.Ytmjojfngdfnabaa.frameBackUpto
open Go.ChangeShapes Go.WideShapes Go.ChangeAt Go.RowKit
set_option linter.unusedVariables false

theorem own : ownKnob Try.prog.godebug = none := by kernel_rfl
theorem laidOut : laidOutB Try.prog = true := by kernel_rfl

theorem str_same (l : List Nat) : ((strOf l).toList == (strOf l).toList) = true := by simp

set_option maxHeartbeats 1000000 in
theorem walk (a0 : Option Addr) (c0 : Nat) (l0 : List Nat) (a1 : Option Addr) (c1 : Nat) (l1 : List Nat) (a2 : Option Addr) (c2 : Nat) (l2 : List Nat) (w : World) (hc0 : l0.length ≤ c0) (hm0 : c0 ≤ 1048576) (hb0 : BytesAt w a0 l0) (hz0 : a0 = none → c0 = 0)
    (hc1 : l1.length ≤ c1) (hm1 : c1 ≤ 1048576) (hb1 : BytesAt w a1 l1) (hz1 : a1 = none → c1 = 0) (hc2 : l2.length ≤ c2) (hm2 : c2 ≤ 1048576) (hb2 : BytesAt w a2 l2) (hz2 : a2 = none → c2 = 0) :
    Calls Try.prog 8 #[.slice a0 l0.length c0, .slice a1 l1.length c1, .slice a2 l2.length c2] w fun e w' => e = .returned (.bool true) ∧ Below w.heap.size w w' := by
  have HB0 := hide hb0
  have HB1 := hide hb1
  have HB2 := hide hb2
  have Hz0 := hide hz0
  have Hz1 := hide hz1
  have Hz2 := hide hz2
  have n0 : l0.length ≤ 1048576 := by omega
  have n1 : l1.length ≤ 1048576 := by omega
  have n2 : l2.length ≤ 1048576 := by omega
  clear hb0 hb1 hb2 hz0 hz1 hz2 hc0 hc1 hc2 hm0 hm1 hm2
  go_enter Try.func8, Try.ntmps8
  go_wp2_with fail
  by_cases hlong : 65536 < l1.length
  · refine (frame_long _ _ l1 _ (by simp only [maxLen]; omega) hlong).mono ?_
    rintro e W1 ⟨rfl, rfl⟩
    go_wp2_with fail
    refine (live_calls _).mono ?_
    rintro e W2 ⟨rfl, hb2⟩
    go_wp2
    go_ret
    exact ⟨rfl, hb2⟩
  · refine (frame_ok _ _ l1 _ (unhide HB1) (by omega)).mono ?_
    rintro e W1 ⟨g, rfl, hb1, hg1, hcell⟩
    have hlf := frameB_length l1
    have BF := hide (bytesAt_block hcell (frameB_lt (unhide HB1).lt (by omega)))
    have HLF := hide hlf
    have A1 := hide ((unhide HB0).later hb1)
    have C1 := hide ((unhide HB2).later hb1)
    have D1 := hide ((unhide HB1).later hb1)
    obtain ⟨e2, h2⟩ := frame_next l0 l1 l2 (by omega)
    have E2 := hide e2
    have H2 := hide h2
    clear hcell hg1 hlf e2 h2
    generalize frameB l1 = fb at *
    have hfl : fb.length ≤ 65544 := by rw [unhide HLF]; omega
    have o1 := hide (OwnB.empty W1 W1.heap.size (Nat.le_refl _))
    have b1 := hide (show Below W1.heap.size W1 (W1.alloc (.cells #[] 5)) from (Below.refl _ _).alloc (Nat.le_refl _) _)
    have r1 := hide (show ([] : List Nat).length + l0.length ≤ 140737488355328 by simp only [List.length_nil]; omega)
    have r2 := hide (show ([] ++ l0).length + (8 + l1.length) ≤ 140737488355328 by simp only [List.nil_append]; omega)
    have r3 := hide (show ([] ++ l0 ++ fb).length + l2.length ≤ 140737488355328 by simp only [List.nil_append, List.length_append]; omega)
    go_wp2_with (first
      | (at_builtin; refine wpList_append8 rfl (.tmp 35) (.tmp 36) rfl W1.heap.size (some ⟨W1.heap.size, 0, none⟩) 0 0 [] rfl rfl (by exact unhide o1) a0 l0.length c0 rfl l0 rfl (by exact (unhide A1).later (unhide b1)) (unhide Hz0) (unhide r1) (by simp) ?_; intro sp3 m3 k3 W3 hn3 ho3 hg3 hb3)
      | (at_builtin; refine wpList_append8 rfl (.tmp 37) (.tmp 38) rfl W1.heap.size sp3 m3 k3 ([] ++ l0) rfl (unhide hn3) (by exact ho3) (some ⟨g, 0, none⟩) (8 + l1.length) (8 + l1.length) rfl fb (unhide HLF) (by exact (unhide BF).later ((unhide b1).trans hb3)) (fun h => by cases h) (unhide r2) ((unhide b1).trans hb3).size ?_; intro sp4 m4 k4 W4 hn4 ho4 hg4 hb4)
      | (at_builtin; refine wpList_append8 rfl (.tmp 39) (.tmp 40) rfl W1.heap.size sp4 m4 k4 ([] ++ l0 ++ fb) rfl (unhide hn4) (by exact ho4) a2 l2.length c2 rfl l2 rfl (by exact (unhide C1).later (((unhide b1).trans hb3).trans hb4)) (unhide Hz2) (unhide r3) (((unhide b1).trans hb3).trans hb4).size ?_; intro sp5 m5 k5 W5 hn5 ho5 hg5 hb5))
    have bW5 := hide ((((unhide b1).trans hb3).trans hb4).trans hb5)
    have happ : [] ++ l0 ++ fb ++ l2 = l0 ++ (fb ++ l2) := by rw [List.nil_append, List.append_assoc]
    rw [happ] at hn5 ho5
    have HO5 := hide ho5.bytes
    have HC5 := hide ho5.cap
    have D5 := hide ((unhide D1).later (unhide bW5))
    clear ho3 hg3 hb3 hn3 ho4 hg4 hb4 hn4 ho5 hg5 hb5 happ o1 b1 r1 r2 r3
    have hl5 : (l0 ++ (fb ++ l2)).length ≤ 4000000 := by simp only [List.length_append]; omega
    have h85 : ¬ (l0 ++ (fb ++ l2)).length - l0.length < 8 := by simp only [List.length_append]; rw [unhide HLF]; omega
    have hk5 : l0.length ≤ (l0 ++ (fb ++ l2)).length := by simp only [List.length_append]; omega
    have Hl5 := hide hl5
    have H85 := hide h85
    have Hk5 := hide hk5
    clear hl5 h85 hk5
    refine (next_ok' _ _ _ (l0 ++ (fb ++ l2)) l1 l0.length _ _ rfl (unhide hn5) (Nat.le_trans (unhide Hl5) (by simp [maxLen])) (unhide HC5).1 (unhide Hk5) (unhide H85) (unhide HO5) (unhide E2) (unhide H2)).mono ?_
    rintro e W6 ⟨g6, rfl, hb6, hg6, hc6⟩
    have B6 := hide (bytesAt_block hc6 (unhide HB1).lt)
    have D6 := hide ((unhide D5).later hb6)
    clear hc6
    go_wp2_with fail
    refine (live_calls _).mono ?_
    rintro e W7 ⟨rfl, hb7⟩
    have s1 := run_string8 (c := l1.length) l1.length rfl ((unhide B6).later hb7)
    have s2 := run_string8 (c := c1) l1.length rfl ((unhide D6).later hb7)
    have t1 := str_same l1
    go_wp2
    go_ret
    exact ⟨rfl, hb1.trans (((unhide bW5).trans ((hb6.trans (hb7.mono hb6.size)).mono (unhide bW5).size)).mono hb1.size)⟩

set_option maxRecDepth 100000 in
theorem lifted (os : Os) (started : os.Started) (H : Type) (enc : TypeId × Value → H) (F : Stop.Interp) :
    ReturnsInHanded {} Try.checked os 8 .any ((Rows.OpenSpec.upto Rows.frameBackSpec).pre6 enc Try.prog Try.f8 Rows.frameBackUptoRow.domain false) (((Rows.OpenSpec.upto Rows.frameBackSpec).at F).post enc Try.prog Try.f8 false true false false) := by
  refine returnsInHanded_of_cond (C := Try.checked) (s := Rows.OpenSpec.upto Rows.frameBackSpec) (k := Rows.uptoSmall) rfl own started (by kernel_rfl) Try.func8
    (OpenSpec.witness (enc := enc) (C := Try.checked) (s := Rows.OpenSpec.upto Rows.frameBackSpec) (k := Rows.uptoSmall) rfl false ⟨#[], #[.slice none 0 0, .slice none 0 0, .slice none 0 0], []⟩ 8 (by kernel_rfl) (by kernel_rfl) (by kernel_rfl)
      (x := ([.nil, .nil, .nil], [], [])) (by kernel_rfl) rfl (by kernel_rfl)) ?_
  intro W base args ds gs before hval0 hW hcnd hk _
  have hval : ∀ (j : Nat) t v, Try.f8.params[j]? = some t → args[j]? = some v → Value.okWide Try.prog W .any base t v := hval0
  have hW' := hW
  obtain ⟨p, q, hA0, hV, rfl, hfz, hnd⟩ := hW
  have hA : DataW.TrodAll enc Try.prog W 0 (fun _ => true) true Try.f8.params.toList args.toList ds p := hA0
  rw [Try.params8] at hA hval
  obtain ⟨v0, vs0, d0, ds0, p0, q0, hargs, rfl, rfl, h0, r0⟩ := trodAll_cons hA
  obtain ⟨v1, vs1, d1, ds1, p1, q1, rfl, rfl, rfl, h1, r1⟩ := trodAll_cons r0
  obtain ⟨v2, vs2, d2, ds2, p2, q2, rfl, rfl, rfl, h2, r2⟩ := trodAll_cons r1
  obtain ⟨rfl, rfl, rfl⟩ := trodAll_nil r2
  obtain rfl : args = #[v0, v1, v2] := by cases args; simp_all
  obtain ⟨rfl, rfl⟩ := trodVars_none hV
  obtain ⟨a0, len0, c0, rfl⟩ := okWide_slice Try.underlying23 (hval 0 23 v0 rfl rfl)
  have k0 := h0
  have lt0 : ∀ x ∈ p0, x.block < W.heap.size := by obtain ⟨m, hm⟩ := k0; exact DataW.trod_lt m _ _ _ hm
  obtain ⟨l0, rfl, hc0, hx0, hb0, hz0, hr0⟩ := row8 h0
  obtain ⟨a1, len1, c1, rfl⟩ := okWide_slice Try.underlying23 (hval 1 23 v1 rfl rfl)
  have k1 := h1
  have lt1 : ∀ x ∈ p1, x.block < W.heap.size := by obtain ⟨m, hm⟩ := k1; exact DataW.trod_lt m _ _ _ hm
  obtain ⟨l1, rfl, hc1, hx1, hb1, hz1, hr1⟩ := row8 h1
  obtain ⟨a2, len2, c2, rfl⟩ := okWide_slice Try.underlying23 (hval 2 23 v2 rfl rfl)
  have k2 := h2
  have lt2 : ∀ x ∈ p2, x.block < W.heap.size := by obtain ⟨m, hm⟩ := k2; exact DataW.trod_lt m _ _ _ hm
  obtain ⟨l2, rfl, hc2, hx2, hb2, hz2, hr2⟩ := row8 h2
  clear hA0 hval0
  have hm0 := bulk8 hk (List.mem_append_left _ (by simp : d0 ∈ [d0, d1, d2])) hr0
  have hm1 := bulk8 hk (List.mem_append_left _ (by simp : d1 ∈ [d0, d1, d2])) hr1
  have hm2 := bulk8 hk (List.mem_append_left _ (by simp : d2 ∈ [d0, d1, d2])) hr2
  refine (walk a0 c0 l0 a1 c1 l1 a2 c2 l2 W hc0 hm0 hb0 hz0 hc1 hm1 hb1 hz1 hc2 hm2 hb2 hz2).mono fun e W' ⟨he, bel⟩ => ?_
  subst he
  exact ⟨_, rfl, _, _, _, [], _, [], hW', trodAll_mk1 (shut_bool Try.underlying4 _), (trodAll_cons_mk (Below.trod laidOut (by kernel_rfl) (of_decide_eq_true (by kernel_rfl)) k0 bel lt0) (trodAll_cons_mk (Below.trod laidOut (by kernel_rfl) (of_decide_eq_true (by kernel_rfl)) k1 bel lt1) (trodAll_cons_mk (Below.trod laidOut (by kernel_rfl) (of_decide_eq_true (by kernel_rfl)) k2 bel lt2) trodAll_mk0))), rfl, bel.frame _, fun h => by cases h⟩

theorem proved : Rows.FrameBackUptoSaid :=
  OpenClaim.holds_of_cond 8 Try.f8 rfl rfl rfl rfl rfl rfl rfl ⟨rfl, rfl, rfl, rfl, rfl⟩ rfl rfl rfl rfl rfl (by kernel_rfl) Try.func8 (by kernel_rfl)
    (of_decide_eq_true (by kernel_rfl)) (by unfold Func.isWrapper; first | (rw [if_pos (by decide +kernel)]; kernel_rfl) | (rw [if_neg (by decide +kernel)]; exact ⟨rfl, rfl⟩))
    (fun os started H enc _ F => lifted os started H enc F)
end Go.Proofs.Ytmjojfngdfnabaa.frameBackUpto
namespace Go.Proofs.Ytmjojfngdfnabaa
theorem frameBackUpto_holds : Rows.FrameBackUptoSaid := frameBackUpto.proved
#print axioms frameBackUpto_holds
end Go.Proofs.Ytmjojfngdfnabaa
