/- Proved: bytes that are taken for a message are just its bytes, no other row is; for all bytes; no condition. -/
import Derived.Test.YtcficfjgddjeeabArg
import Derived.Test.YtcficfjgddjeeabWliv
import Derived.Test.YtcficfjgddjeeabRgmsg
import Derived.Test.YtcficfjgddjeeabPutn
namespace Go.Proofs.Ytcficfjgddjeeab.wireAgain
open Go.ChangeShapes Go.WideShapes Go.ChangeAt Go.RowKit
set_option linter.unusedVariables false

theorem own : ownKnob Try.prog.godebug = none := by kernel_rfl
theorem laidOut : laidOutB Try.prog = true := by kernel_rfl

theorem str_same (l : List Nat) : ((strOf l).toList == (strOf l).toList) = true := by simp
theorem ob_of (n : Nat) (h : n ≤ 1) : n = if ((n : Int) == 1) then 1 else 0 := by
  rcases (by omega : n = 0 ∨ n = 1) with rfl | rfl <;> rfl
set_option maxRecDepth 20000 in
set_option maxHeartbeats 2000000 in
theorem walk (a0 : Option Addr) (c0 : Nat) (l0 : List Nat) (w : World) (hc0 : l0.length ≤ c0) (hm0 : c0 ≤ 140737488355328) (hb0 : BytesAt w a0 l0) (hz0 : a0 = none → c0 = 0) :
    Calls Try.prog 6 #[.slice a0 l0.length c0] w fun e w' => e = .returned (.bool true) ∧ Below w.heap.size w w' := by
  have HB := hide hb0
  have HL := hide (show l0.length ≤ 140737488355328 by omega)
  have HC := hide hc0
  have HZ := hide hz0
  have hnil : ∀ (W : World), BytesAt W none [] := fun W => ⟨by simp, by simp⟩
  have HN := hide hnil
  clear hb0 hc0 hm0 hz0 hnil
  go_enter Try.func6, Try.ntmps6
  go_wp2_with fail
  refine (getMsg_calls a0 _ c0 l0 _ rfl (unhide HL) (unhide HC) (unhide HZ) (unhide HB)).mono ?_
  rintro e W1 ⟨⟨v1, rfl, h1⟩, hb1⟩
  cases hr : wholeE l0 (msgE l0 0) with
  | error x =>
    rw [hr] at h1
    obtain rfl := h1
    have hx : ¬ (x : Int) = 0 := by have := wholeE_pos hr (fun y hy => msgE_pos hy); omega
    have b2 : Below W1.heap.size W1 (W1.alloc (.cells #[.int .i64 0, .int .i64 0, .int .i64 0, .int .i64 0, .int .i64 0, .int .i64 0, .int .i64 0, .int .i64 0, .int .i64 0, .bool false, .slice none 0 0, .slice none 0 0] 26)) := (Below.refl _ _).alloc (Nat.le_refl _) _
    have X2 := hide (heap_new W1 (.cells #[.int .i64 0, .int .i64 0, .int .i64 0, .int .i64 0, .int .i64 0, .int .i64 0, .int .i64 0, .int .i64 0, .int .i64 0, .bool false, .slice none 0 0, .slice none 0 0] 26))
    have F2 := hide (hb1.trans (b2.mono hb1.size))
    clear hb1 b2 hr
    go_wp2_with fail
    generalize W1.alloc (.cells #[.int .i64 0, .int .i64 0, .int .i64 0, .int .i64 0, .int .i64 0, .int .i64 0, .int .i64 0, .int .i64 0, .int .i64 0, .bool false, .slice none 0 0, .slice none 0 0] 26) = W2 at *
    refine (live2_calls _).mono ?_
    rintro e W5 ⟨rfl, hb5⟩
    obtain ⟨c0, c1, c2, c3, c4, c5, c6, c7, c8, c9, c10, c11⟩ := twelve_cells ((hb5.block _ (Array.getElem?_eq_some_iff.1 (unhide X2)).1).trans (unhide X2))
    have F5 := hide ((unhide F2).trans (hb5.mono (unhide F2).size))
    clear hb5
    go_wp2_with fail
    refine (sameMsg_yes 0 0 0 0 0 0 0 0 0 false none none 0 0 0 none none 0 0 0 0 [] [] _ rfl (by decide) ⟨by simp⟩ ⟨by simp⟩ rfl rfl (unhide HN _) (unhide HN _)).mono ?_
    rintro e W6 ⟨rfl, hb6⟩
    have F6 := hide ((unhide F5).trans (hb6.mono (unhide F5).size))
    clear hb6
    go_wp2
    go_ret
    exact ⟨rfl, unhide F6⟩
  | ok m =>
    rw [hr] at h1
    obtain ⟨ep, en, ec, sp, mm, cc, rfl, hen, hoe, hlen, hod⟩ := h1
    obtain ⟨hl, hok, h1⟩ := msg_back (unhide HB).lt hr
    have HLB := hide hl
    have HOK := hide hok
    have H1 := hide h1
    have b2 : Below W1.heap.size W1 (W1.alloc (.cells (msgCells m (.slice ep en ec) (.slice sp mm cc)) 26)) := (Below.refl _ _).alloc (Nat.le_refl _) _
    have X2 := hide (heap_new W1 (.cells (msgCells m (.slice ep en ec) (.slice sp mm cc)) 26))
    have F2 := hide (hb1.trans (b2.mono hb1.size))
    have E2 := hide (hoe.ents.later b2)
    have D2 := hide (hod.bytes.later b2)
    have Z2 := hide (show sp = none → cc = 0 by
      intro e
      subst e
      rcases hod.owns.2 with ⟨hv, _⟩ | ⟨g, cap, cur, hv, _⟩
      · simp only [Value.slice.injEq] at hv; exact hv.2.2
      · cases hv)
    obtain ⟨c0, c1, c2, c3, c4, c5, c6, c7, c8, c9, c10, c11⟩ := twelve_cells (unhide X2)
    clear hb1 b2 hl hok h1 hoe hod hr
    go_wp2_with fail
    generalize W1.alloc (.cells (msgCells m (.slice ep en ec) (.slice sp mm cc)) 26) = W2 at *
    refine (putMsg_yes m.kd m.fr m.to m.t m.ix m.lt m.cm m.hi m.ro m.ok ((m.ok : Int) == 1) (ob_of _ (unhide H1)) ep en ec sp mm cc m.es m.d _ (unhide HOK) (unhide hen) (unhide hlen) (unhide E2) (unhide D2) (unhide Z2)).mono ?_
    rw [← unhide HLB]
    rintro e W3 ⟨sp3, n3, c3', rfl, hn3, ho3, hb3⟩
    have B3 := hide ho3.bytes
    have F3 := hide ((unhide F2).trans (hb3.mono (unhide F2).size))
    clear hb3 ho3 c0 c1 c2 c3 c4 c5 c6 c7 c8 c9 c10 c11
    go_wp2_with fail
    refine (live2_calls _).mono ?_
    rintro e W5 ⟨rfl, hb5⟩
    have F5 := hide ((unhide F3).trans (hb5.mono (unhide F3).size))
    have s1 := run_string8 (c := c3') n3 (unhide hn3) ((unhide B3).later hb5)
    have s2 := run_string8 (c := c0) l0.length rfl ((unhide HB).later (unhide F5))
    have t1 := str_same l0
    clear hb5
    go_wp2
    go_ret
    exact ⟨rfl, unhide F5⟩

set_option maxRecDepth 100000 in
theorem lifted (os : Os) (started : os.Started) (H : Type) (enc : TypeId × Value → H) :
    ReturnsInHanded {} Try.checked os 6 .any (Rows.wireAgainSpec.pre6 enc Try.prog Try.f6 Rows.wireAgainRow.domain false) (Rows.wireAgainSpec.post enc Try.prog Try.f6 false true false false) := by
  refine returnsInHanded_of_change_sized (C := Try.checked) own started (by kernel_rfl) Try.func6
    (ChangeSpec.witness6 (enc := enc) (C := Try.checked) false ⟨#[], #[.slice none 0 0], []⟩ 8 (by kernel_rfl) (by kernel_rfl) (by kernel_rfl) (by kernel_rfl)) ?_
  intro W base args ds gs before hval0 hW hcnd hsz _
  have hval : ∀ (j : Nat) t v, Try.f6.params[j]? = some t → args[j]? = some v → Value.okWide Try.prog W .any base t v := hval0
  have hW' := hW
  obtain ⟨p, q, hA0, hV, rfl, hfz, hnd⟩ := hW
  have hA : DataW.TrodAll enc Try.prog W 0 (fun _ => true) true Try.f6.params.toList args.toList ds p := hA0
  rw [Try.params6] at hA hval
  obtain ⟨v0, vs0, d0, ds0, p0, q0, hargs, rfl, rfl, h0, r0⟩ := trodAll_cons hA
  obtain ⟨rfl, rfl, rfl⟩ := trodAll_nil r0
  obtain rfl : args = #[v0] := by cases args; simp_all
  obtain ⟨rfl, rfl⟩ := trodVars_none hV
  obtain ⟨a0, len0, c0, rfl⟩ := okWide_slice Try.underlying24 (hval 0 24 v0 rfl rfl)
  have k0 := h0
  have lt0 : ∀ x ∈ p0, x.block < W.heap.size := by obtain ⟨m, hm⟩ := k0; exact DataW.trod_lt m _ _ _ hm
  obtain ⟨l0, rfl, hc0, hx0, hb0, hz0, hr0⟩ := row8 h0
  clear hA0 hval0
  have hm0 : c0 ≤ 140737488355328 := reach8 hsz (j := 0) (d := d0) rfl rfl hr0
  refine (walk a0 c0 l0 W hc0 hm0 hb0 hz0).mono fun e W' ⟨he, bel⟩ => ?_
  subst he
  exact ⟨_, rfl, _, _, _, [], _, [], hW', trodAll_mk1 (shut_bool Try.underlying4 _), (trodAll_cons_mk (Below.trod laidOut (by kernel_rfl) (of_decide_eq_true (by kernel_rfl)) k0 bel lt0) trodAll_mk0), rfl, bel.frame _, fun h => by cases h⟩

theorem proved : Rows.WireAgainSaid :=
  OpenClaim.holds_of_wide 6 Try.f6 rfl rfl rfl rfl rfl rfl rfl ⟨rfl, rfl, rfl, rfl, rfl⟩ rfl rfl rfl rfl rfl (by kernel_rfl) Try.func6 (by kernel_rfl)
    (of_decide_eq_true (by kernel_rfl)) (by unfold Func.isWrapper; first | (rw [if_pos (by decide +kernel)]; kernel_rfl) | (rw [if_neg (by decide +kernel)]; exact ⟨rfl, rfl⟩))
    (fun os started H enc _ => lifted os started H enc)
end Go.Proofs.Ytcficfjgddjeeab.wireAgain
namespace Go.Proofs.Ytcficfjgddjeeab
theorem wireAgain_holds : Rows.WireAgainSaid := wireAgain.proved
#print axioms wireAgain_holds
end Go.Proofs.Ytcficfjgddjeeab
