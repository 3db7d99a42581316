/- Proved: for all bytes and every place frame.Next tells what the frame there holds, where it ends, or the error, as the document's answer does; no condition. -/
import Derived.Test.YtmjojfngdfnabaaArg
import Derived.Test.YtmjojfngdfnabaaRefNxt
namespace Go.Proofs.Ytmjojfngdfnabaa.frameReads
open Go.ChangeShapes Go.WideShapes Go.ChangeAt Go.RowKit
set_option linter.unusedVariables false

theorem own : ownKnob Try.prog.godebug = none := by kernel_rfl
theorem laidOut : laidOutB Try.prog = true := by kernel_rfl

theorem str_same (l : List Nat) : ((strOf l).toList == (strOf l).toList) = true := by simp

set_option maxHeartbeats 1000000 in
theorem walk (a0 : Option Addr) (c0 : Nat) (l0 : List Nat) (k : Int) (w : World) (hc0 : l0.length ≤ c0) (hm0 : c0 ≤ 140737488355328) (hb0 : BytesAt w a0 l0) (hz0 : a0 = none → c0 = 0)
    (hk : -9223372036854775808 ≤ k ∧ k ≤ 9223372036854775807) :
    Calls Try.prog 7 #[.slice a0 l0.length c0, .int .i64 k] w fun e w' => e = .returned (.bool true) ∧ Below w.heap.size w w' := by
  have hlm : l0.length ≤ maxLen := by simp only [maxLen]; omega
  have hl47 : l0.length ≤ 140737488355328 := by omega
  have HB := hide hb0
  have Hz := hide hz0
  have HM := hide hlm
  have hnil : ∀ (W : World), BytesAt W none [] := fun W => ⟨by simp, by simp⟩
  have HN := hide hnil
  clear hb0 hz0 hlm hnil
  by_cases hr : k < 0 ∨ (l0.length : Int) < k
  · have Hr := hide hr
    clear hr
    go_enter Try.func7, Try.ntmps7
    go_wp2_with fail
    refine (next_arg _ _ l0 k _ (unhide Hr)).mono ?_
    rintro e W1 ⟨rfl, rfl⟩
    go_wp2_with fail
    refine (refNext_arg _ _ l0 k _ (unhide Hr)).mono ?_
    rintro e W2 ⟨rfl, rfl⟩
    go_wp2_with fail
    refine (live_calls _).mono ?_
    rintro e W3 ⟨rfl, hb3⟩
    have s1 := run_string8 (w := W3) (c := 0) 0 rfl (unhide HN W3)
    have s2 := str_same []
    go_wp2
    go_ret
    exact ⟨rfl, hb3⟩
  · obtain ⟨j, rfl⟩ : ∃ j : Nat, k = (j : Int) := ⟨k.toNat, by omega⟩
    have hj : j ≤ l0.length := by omega
    by_cases h8 : l0.length - j < 8
    · have Hr := hide hr
      have H8 := hide h8
      clear hr h8
      go_enter Try.func7, Try.ntmps7
      go_wp2_with fail
      refine (next_short _ _ l0 j _ (unhide HM) hj (unhide H8)).mono ?_
      rintro e W1 ⟨rfl, rfl⟩
      go_wp2_with fail
      refine (refNext_short _ _ l0 j _ (unhide HM) hj (unhide H8)).mono ?_
      rintro e W2 ⟨rfl, rfl⟩
      go_wp2_with fail
      refine (live_calls _).mono ?_
      rintro e W3 ⟨rfl, hb3⟩
      have s1 := run_string8 (w := W3) (c := 0) 0 rfl (unhide HN W3)
      have s2 := str_same []
      go_wp2
      go_ret
      exact ⟨rfl, hb3⟩
    · have H8 := hide h8
      have Hr := hide hr
      clear h8 hr
      go_enter Try.func7, Try.ntmps7
      go_wp2_with fail
      refine (next_calls _ _ l0 j _ (unhide HM) hc0 hj (unhide H8) (unhide HB)).mono ?_
      rintro e W1 ⟨hb1, ⟨hp, rfl⟩ | ⟨he, g, rfl, hg, hcell⟩⟩
      · have HB1 := hide ((unhide HB).later hb1)
        have Hp := hide hp
        clear hp
        generalize hE : nextE l0 j = E at *
        have HE := hide hE
        clear hE
        go_wp2_with fail
        refine (refNext_calls _ _ l0 j _ hl47 hc0 (unhide Hz) hj (unhide H8) (unhide HB1)).mono ?_
        rintro e W2 ⟨hb2, ⟨hp2, rfl⟩ | ⟨he2, _⟩⟩
        · rw [unhide HE]
          go_wp2_with fail
          refine (live_calls _).mono ?_
          rintro e W3 ⟨rfl, hb3⟩
          have s1 := run_string8 (w := W3) (c := 0) 0 rfl (unhide HN W3)
          have s2 := str_same []
          go_wp2
          go_ret
          exact ⟨rfl, hb1.trans ((hb2.trans (hb3.mono hb2.size)).mono hb1.size)⟩
        · have := unhide Hp
          have := unhide HE
          omega
      · have HB1 := hide ((unhide HB).later hb1)
        have He := hide he
        have hlt : ∀ c ∈ nextH l0 j, c < 256 := fun c hc => (unhide HB).lt c (List.mem_of_mem_drop (List.mem_of_mem_take hc))
        have BG := hide (bytesAt_block hcell hlt)
        clear he hlt hcell
        generalize hH : nextH l0 j = H at *
        have HH := hide hH
        clear hH
        go_wp2_with fail
        refine (refNext_calls _ _ l0 j _ hl47 hc0 (unhide Hz) hj (unhide H8) (unhide HB1)).mono ?_
        rintro e W2 ⟨hb2, ⟨hp2, rfl⟩ | ⟨he2, sp, c', rfl, hown⟩⟩
        · have := unhide He
          omega
        · rw [unhide HH] at hown ⊢
          have BG2 := hide ((unhide BG).later hb2)
          have BO2 := hide hown.bytes
          clear hown
          go_wp2_with fail
          refine (live_calls _).mono ?_
          rintro e W3 ⟨rfl, hb3⟩
          have s1 := run_string8 (c := H.length) H.length rfl ((unhide BG2).later hb3)
          have s1' := run_string8 (c := c') H.length rfl ((unhide BO2).later hb3)
          have s2 := str_same H
          go_wp2
          go_ret
          exact ⟨rfl, hb1.trans ((hb2.trans (hb3.mono hb2.size)).mono hb1.size)⟩

set_option maxRecDepth 100000 in
theorem lifted (os : Os) (started : os.Started) (H : Type) (enc : TypeId × Value → H) :
    ReturnsInHanded {} Try.checked os 7 .any (Rows.frameReadsSpec.pre6 enc Try.prog Try.f7 Rows.frameReadsRow.domain false) (Rows.frameReadsSpec.post enc Try.prog Try.f7 false true false false) := by
  refine returnsInHanded_of_change_sized (C := Try.checked) own started (by kernel_rfl) Try.func7
    (ChangeSpec.witness6 (enc := enc) (C := Try.checked) false ⟨#[], #[.slice none 0 0, .int .i64 0], []⟩ 8 (by kernel_rfl) (by kernel_rfl) (by kernel_rfl) (by kernel_rfl)) ?_
  intro W base args ds gs before hval0 hW hcnd hsz _
  have hval : ∀ (j : Nat) t v, Try.f7.params[j]? = some t → args[j]? = some v → Value.okWide Try.prog W .any base t v := hval0
  have hW' := hW
  obtain ⟨p, q, hA0, hV, rfl, hfz, hnd⟩ := hW
  have hA : DataW.TrodAll enc Try.prog W 0 (fun _ => true) true Try.f7.params.toList args.toList ds p := hA0
  rw [Try.params7] at hA hval
  obtain ⟨v0, vs0, d0, ds0, p0, q0, hargs, rfl, rfl, h0, r0⟩ := trodAll_cons hA
  obtain ⟨v1, vs1, d1, ds1, p1, q1, rfl, rfl, rfl, h1, r1⟩ := trodAll_cons r0
  obtain ⟨rfl, rfl, rfl⟩ := trodAll_nil r1
  obtain rfl : args = #[v0, v1] := by cases args; simp_all
  obtain ⟨rfl, rfl⟩ := trodVars_none hV
  obtain ⟨a0, len0, c0, rfl⟩ := okWide_slice Try.underlying23 (hval 0 23 v0 rfl rfl)
  have k0 := h0
  have lt0 : ∀ x ∈ p0, x.block < W.heap.size := by obtain ⟨m, hm⟩ := k0; exact DataW.trod_lt m _ _ _ hm
  obtain ⟨l0, rfl, hc0, hx0, hb0, hz0, hr0⟩ := row8 h0
  obtain ⟨n1, rfl, rfl, rfl, w1⟩ := open_int Try.underlying3 (hval 1 3 v1 rfl rfl) h1
  have hn1 := i64_bounds w1
  clear hA0 hval0
  have hm0 : c0 ≤ 140737488355328 := reach8 hsz (j := 0) (d := d0) rfl rfl hr0
  refine (walk a0 c0 l0 n1 W hc0 hm0 hb0 hz0 hn1).mono fun e W' ⟨he, bel⟩ => ?_
  subst he
  exact ⟨_, rfl, _, _, _, [], _, [], hW', trodAll_mk1 (shut_bool Try.underlying4 _), (trodAll_cons_mk (Below.trod laidOut (by kernel_rfl) (of_decide_eq_true (by kernel_rfl)) k0 bel lt0) (trodAll_cons_mk (shut_int Try.underlying3 w1) trodAll_mk0)), rfl, bel.frame _, fun h => by cases h⟩

theorem proved : Rows.FrameReadsSaid :=
  OpenClaim.holds_of_wide 7 Try.f7 rfl rfl rfl rfl rfl rfl rfl ⟨rfl, rfl, rfl, rfl, rfl⟩ rfl rfl rfl rfl rfl (by kernel_rfl) Try.func7 (by kernel_rfl)
    (of_decide_eq_true (by kernel_rfl)) (by unfold Func.isWrapper; first | (rw [if_pos (by decide +kernel)]; kernel_rfl) | (rw [if_neg (by decide +kernel)]; exact ⟨rfl, rfl⟩))
    (fun os started H enc _ => lifted os started H enc)
end Go.Proofs.Ytmjojfngdfnabaa.frameReads
namespace Go.Proofs.Ytmjojfngdfnabaa
theorem frameReads_holds : Rows.FrameReadsSaid := frameReads.proved
#print axioms frameReads_holds
end Go.Proofs.Ytmjojfngdfnabaa
