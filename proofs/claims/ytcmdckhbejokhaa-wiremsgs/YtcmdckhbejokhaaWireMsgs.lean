/- Proved: a message's bytes, or its error, are those of the document's own reckoning, and the message stays as it was, whatever the message; no condition. (open_msgS) -/
import Derived.Test.YtcmdckhbejokhaaArg
import Derived.Test.YtcmdckhbejokhaaWliv
import Derived.Test.YtcmdckhbejokhaaPutx
import Derived.Test.YtcmdckhbejokhaaRpm
namespace Go.Proofs.Ytcmdckhbejokhaa.wireMsgs
open Go.ChangeShapes Go.WideShapes Go.ChangeAt Go.RowKit
set_option linter.unusedVariables false

theorem own : ownKnob Try.prog.godebug = none := by kernel_rfl
theorem laidOut : laidOutB Try.prog = true := by kernel_rfl

theorem later_block {w w' : World} {j : Nat} {o : Obj} (hb : Below w.heap.size w w') (h : w.heap[j]? = some o) : w'.heap[j]? = some o := (hb.block j (Array.getElem?_eq_some_iff.1 h).1).trans h
set_option maxRecDepth 20000 in
set_option maxHeartbeats 4000000 in
theorem walk (kd fr to t ix lt cm hi ro : Int) (bo : Bool) (ep : Option Addr) (ec : Nat) (es : List EntI) (dp : Option Addr) (dc : Nat) (dl : List Nat) (w : World) (hl : es.length * 48 ≤ 140737488355328) (hE : EntsAt w ep es) (hbd : ∀ e ∈ es, e.2.2.2.length ≤ 140737488355328) (hc : dl.length ≤ dc) (hx : dc ≤ 140737488355328) (hB : BytesAt w dp dl) (hz : dp = none → dc = 0) :
    Calls Try.prog 3 #[.agg #[.int .i64 kd, .int .i64 fr, .int .i64 to, .int .i64 t, .int .i64 ix, .int .i64 lt, .int .i64 cm, .int .i64 hi, .int .i64 ro, .bool bo, .slice ep es.length ec, .slice dp dl.length dc]] w fun e w' => e = .returned (.bool true) ∧ Below w.heap.size w w' := by
  have HE := hide hE
  have HB := hide hB
  have HZ := hide hz
  have HD := hide hbd
  have hdl : dl.length ≤ 140737488355328 := by omega
  have hL : es.length ≤ 4611686018427387904 := by omega
  clear hE hB hz hc hx hbd
  have X0 := hide (heap_new w (.cells #[.int .i64 kd, .int .i64 fr, .int .i64 to, .int .i64 t, .int .i64 ix, .int .i64 lt, .int .i64 cm, .int .i64 hi, .int .i64 ro, .bool bo, .slice ep es.length ec, .slice dp dl.length dc] 26))
  have F0 := hide (show Below w.heap.size w (w.alloc (.cells #[.int .i64 kd, .int .i64 fr, .int .i64 to, .int .i64 t, .int .i64 ix, .int .i64 lt, .int .i64 cm, .int .i64 hi, .int .i64 ro, .bool bo, .slice ep es.length ec, .slice dp dl.length dc] 26)) from (Below.refl _ _).alloc (Nat.le_refl _) _)
  obtain ⟨c0, c1, c2, c3, c4, c5, c6, c7, c8, c9, c10, c11⟩ := twelve_cells (unhide X0)
  go_enter Try.func3, Try.ntmps3
  go_wp2_with fail
  generalize w.alloc (.cells #[.int .i64 kd, .int .i64 fr, .int .i64 to, .int .i64 t, .int .i64 ix, .int .i64 lt, .int .i64 cm, .int .i64 hi, .int .i64 ro, .bool bo, .slice ep es.length ec, .slice dp dl.length dc] 26) = W0 at *
  refine (copyMsg_calls kd fr to t ix lt cm hi ro bo ep es.length ec dp dl.length dc es dl _ rfl hl (unhide HD) ((unhide HE).later (unhide F0)) rfl hdl ((unhide HB).later (unhide F0)) (unhide HZ)).mono ?_
  rintro e W1 ⟨ep1, ec1, dp1, dc1, rfl, hE1, hD1, hz1, hb1⟩
  have b2 : Below W1.heap.size W1 (W1.alloc (.cells #[.int .i64 kd, .int .i64 fr, .int .i64 to, .int .i64 t, .int .i64 ix, .int .i64 lt, .int .i64 cm, .int .i64 hi, .int .i64 ro, .bool bo, .slice ep1 es.length ec1, .slice dp1 dl.length dc1] 26)) := (Below.refl _ _).alloc (Nat.le_refl _) _
  have X2 := hide (later_block b2 (later_block hb1 (unhide X0)))
  have Y2 := hide (heap_new W1 (.cells #[.int .i64 kd, .int .i64 fr, .int .i64 to, .int .i64 t, .int .i64 ix, .int .i64 lt, .int .i64 cm, .int .i64 hi, .int .i64 ro, .bool bo, .slice ep1 es.length ec1, .slice dp1 dl.length dc1] 26))
  have F2 := hide (((unhide F0).trans (hb1.mono (unhide F0).size)).trans (b2.mono (Nat.le_trans (unhide F0).size hb1.size)))
  have E2 := hide (hE1.later b2)
  have D2 := hide (hD1.later b2)
  have Z1 := hide hz1
  clear hb1 b2 hE1 hD1 hz1 c0 c1 c2 c3 c4 c5 c6 c7 c8 c9 c10 c11
  obtain ⟨c0, c1, c2, c3, c4, c5, c6, c7, c8, c9, c10, c11⟩ := twelve_cells (unhide Y2)
  go_wp2_with fail
  have hs2 := hide (show W1.heap.size < (W1.alloc (.cells #[.int .i64 kd, .int .i64 fr, .int .i64 to, .int .i64 t, .int .i64 ix, .int .i64 lt, .int .i64 cm, .int .i64 hi, .int .i64 ro, .bool bo, .slice ep1 es.length ec1, .slice dp1 dl.length dc1] 26)).heap.size by rw [size_alloc]; omega)
  generalize W1.alloc (.cells #[.int .i64 kd, .int .i64 fr, .int .i64 to, .int .i64 t, .int .i64 ix, .int .i64 lt, .int .i64 cm, .int .i64 hi, .int .i64 ro, .bool bo, .slice ep1 es.length ec1, .slice dp1 dl.length dc1] 26) = W2 at *
  by_cases hmf : MayM kd fr to t ix lt cm hi ro es ∧ FitsM es dl.length
  · obtain ⟨kd', fr', to', t', ix', lt', cm', hi', ro', es', ⟨rfl, rfl, rfl, rfl, rfl, rfl, rfl, rfl, rfl⟩, rfl, hok⟩ := msg_nat hmf.1 hmf.2
    have HOK := hide hok
    have HMF := hide hmf
    have hlen' := hide (show es'.length = (es'.map toI).length by simp)
    clear hok hmf
    refine (putMsg_yes kd' fr' to' t' ix' lt' cm' hi' ro' (if bo then 1 else 0) bo rfl ep1 _ ec1 dp1 _ dc1 es' dl _ (unhide HOK) (unhide hlen') rfl (unhide E2) (unhide D2) (unhide Z1)).mono ?_
    rintro e W3 ⟨sp3, n3, k3, rfl, hn3, ho3, hb3⟩
    have B3 := hide ho3.bytes
    have X3 := hide (later_block hb3 (unhide X2))
    have Y3 := hide (later_block hb3 (unhide Y2))
    have F3 := hide ((unhide F2).trans (hb3.mono (unhide F2).size))
    have E3 := hide ((unhide E2).later hb3)
    have D3 := hide ((unhide D2).later hb3)
    clear ho3 hb3 c0 c1 c2 c3 c4 c5 c6 c7 c8 c9 c10 c11
    obtain ⟨c0, c1, c2, c3, c4, c5, c6, c7, c8, c9, c10, c11⟩ := twelve_cells (unhide X3)
    go_wp2_with fail
    refine (refPutMsg_yes kd' fr' to' t' ix' lt' cm' hi' ro' (if bo then 1 else 0) bo rfl ep es'.length ec dp dl.length dc es' dl _ (unhide HMF).1 (unhide HMF).2 (unhide HOK) rfl rfl ((unhide HE).later (unhide F3)) ((unhide HB).later (unhide F3)) (unhide HZ)).mono ?_
    rintro e W4 ⟨sp4, n4, k4, rfl, hn4, ho4, hb4⟩
    have B4 := hide ho4.bytes
    have B3' := hide ((unhide B3).later hb4)
    have X4 := hide (later_block hb4 (unhide X3))
    have Y4 := hide (later_block hb4 (unhide Y3))
    have F4 := hide ((unhide F3).trans (hb4.mono (unhide F3).size))
    have E4 := hide ((unhide E3).later hb4)
    have D4 := hide ((unhide D3).later hb4)
    clear ho4 hb4 c0 c1 c2 c3 c4 c5 c6 c7 c8 c9 c10 c11
    go_wp2_with fail
    refine (live2_calls _).mono ?_
    rintro e W5 ⟨rfl, hb5⟩
    have s1 := run_string8 (c := k3) n3 (unhide hn3) ((unhide B3').later hb5)
    have s2 := run_string8 (c := k4) n4 (unhide hn4) ((unhide B4).later hb5)
    have t1 := str_eq_same (msgB kd' fr' to' t' ix' lt' cm' hi' ro' (if bo then 1 else 0) es' dl)
    have F5 := hide ((unhide F4).trans (hb5.mono (unhide F4).size))
    have E5 := hide ((unhide E4).later hb5)
    have D5 := hide ((unhide D4).later hb5)
    obtain ⟨c0, c1, c2, c3, c4, c5, c6, c7, c8, c9, c10, c11⟩ := twelve_cells (later_block hb5 (unhide Y4))
    obtain ⟨d0, d1, d2, d3, d4, d5, d6, d7, d8, d9, d10, d11⟩ := twelve_cells (later_block hb5 (unhide X4))
    generalize strOf (msgB kd' fr' to' t' ix' lt' cm' hi' ro' (if bo then 1 else 0) es' dl) = ss at *
    clear hb5 X4 Y4 X3 Y3 X2 Y2 B3 B3' B4 hn3 hn4
    go_wp2_with fail
    refine (sameMsg_yes kd' fr' to' t' ix' lt' cm' hi' ro' bo ep1 ep es'.length ec1 ec dp1 dp dl.length dl.length dc1 dc (es'.map toI) dl _ (List.length_map _) (by first | exact hL | simpa using hL) (unhide E5) ((unhide HE).later (unhide F5)) rfl rfl (unhide D5) ((unhide HB).later (unhide F5))).mono ?_
    rintro e W6 ⟨rfl, hb6⟩
    have F6 := hide ((unhide F5).trans (hb6.mono (unhide F5).size))
    clear hb6
    go_wp2
    go_ret
    exact ⟨rfl, unhide F6⟩
  · have HMF := hide hmf
    clear hmf
    refine (putMsg_badX kd fr to t ix lt cm hi ro bo ep1 _ ec1 dp1 _ dc1 es _ rfl (by omega) (unhide E2) (unhide HMF)).mono ?_
    rintro e W3 ⟨⟨x, rfl, hx⟩, hb3⟩
    have RX := hide hx
    have X3 := hide (later_block hb3 (unhide X2))
    have Y3 := hide (later_block hb3 (unhide Y2))
    have F3 := hide ((unhide F2).trans (hb3.mono (unhide F2).size))
    have E3 := hide ((unhide E2).later hb3)
    have D3 := hide ((unhide D2).later hb3)
    clear hx hb3 c0 c1 c2 c3 c4 c5 c6 c7 c8 c9 c10 c11
    obtain ⟨c0, c1, c2, c3, c4, c5, c6, c7, c8, c9, c10, c11⟩ := twelve_cells (unhide X3)
    go_wp2_with fail
    refine (refPutMsg_no kd fr to t ix lt cm hi ro bo ep _ ec dp _ dc es _ rfl hL ((unhide HE).later (unhide F3)) (unhide HMF)).mono ?_
    rintro e W4 ⟨y, rfl, hy, hb4⟩
    obtain rfl : x = y := (unhide RX).same hy
    have X4 := hide (later_block hb4 (unhide X3))
    have Y4 := hide (later_block hb4 (unhide Y3))
    have F4 := hide ((unhide F3).trans (hb4.mono (unhide F3).size))
    have E4 := hide ((unhide E3).later hb4)
    have D4 := hide ((unhide D3).later hb4)
    clear hy hb4 c0 c1 c2 c3 c4 c5 c6 c7 c8 c9 c10 c11
    go_wp2_with fail
    refine (live2_calls _).mono ?_
    rintro e W5 ⟨rfl, hb5⟩
    have s1 := run_string8 (w := W5) (a := none) (l := []) (c := 0) 0 rfl ⟨by simp, by simp⟩
    have F5 := hide ((unhide F4).trans (hb5.mono (unhide F4).size))
    have E5 := hide ((unhide E4).later hb5)
    have D5 := hide ((unhide D4).later hb5)
    obtain ⟨c0, c1, c2, c3, c4, c5, c6, c7, c8, c9, c10, c11⟩ := twelve_cells (later_block hb5 (unhide Y4))
    obtain ⟨d0, d1, d2, d3, d4, d5, d6, d7, d8, d9, d10, d11⟩ := twelve_cells (later_block hb5 (unhide X4))
    clear hb5 X4 Y4 X3 Y3 X2 Y2
    go_wp2_with fail
    refine (sameMsg_yes kd fr to t ix lt cm hi ro bo ep1 ep es.length ec1 ec dp1 dp dl.length dl.length dc1 dc es dl _ rfl hL (unhide E5) ((unhide HE).later (unhide F5)) rfl rfl (unhide D5) ((unhide HB).later (unhide F5))).mono ?_
    rintro e W6 ⟨rfl, hb6⟩
    have F6 := hide ((unhide F5).trans (hb6.mono (unhide F5).size))
    clear hb6
    go_wp2
    go_ret
    exact ⟨rfl, unhide F6⟩

set_option maxRecDepth 100000 in
theorem lifted (os : Os) (started : os.Started) (H : Type) (enc : TypeId × Value → H) :
    ReturnsInHanded {} Try.checked os 3 .any (Rows.wireMsgsSpec.pre6 enc Try.prog Try.f3 Rows.wireMsgsRow.domain false) (Rows.wireMsgsSpec.post enc Try.prog Try.f3 false true false false) := by
  refine returnsInHanded_of_change_sized (C := Try.checked) own started (by kernel_rfl) Try.func3
    (ChangeSpec.witness6 (enc := enc) (C := Try.checked) false ⟨#[], #[.agg #[.int .i64 0, .int .i64 0, .int .i64 0, .int .i64 0, .int .i64 0, .int .i64 0, .int .i64 0, .int .i64 0, .int .i64 0, .bool false, .slice none 0 0, .slice none 0 0]], []⟩ 8 (by kernel_rfl) (by kernel_rfl) (by kernel_rfl) (by kernel_rfl)) ?_
  intro W base args ds gs before hval0 hW hcnd hsz _
  have hval : ∀ (j : Nat) t v, Try.f3.params[j]? = some t → args[j]? = some v → Value.okWide Try.prog W .any base t v := hval0
  have hW' := hW
  obtain ⟨p, q, hA0, hV, rfl, hfz, hnd⟩ := hW
  have hA : DataW.TrodAll enc Try.prog W 0 (fun _ => true) true Try.f3.params.toList args.toList ds p := hA0
  rw [Try.params3] at hA hval
  obtain ⟨v0, vs0, d0, ds0, p0, q0, hargs, rfl, rfl, h0, r0⟩ := trodAll_cons hA
  obtain ⟨rfl, rfl, rfl⟩ := trodAll_nil r0
  obtain rfl : args = #[v0] := by cases args; simp_all
  obtain ⟨rfl, rfl⟩ := trodVars_none hV
  have k0 := h0
  have lt0 : ∀ x ∈ p0, x.block < W.heap.size := by obtain ⟨m, hm⟩ := k0; exact DataW.trod_lt m _ _ _ hm
  obtain ⟨kd0, fr0, to0, t0, ix0, lg0, cm0, hi0, ro0, bo0, ep0, ec0, es0, dp0, dc0, dl0, rfl, hl0, hE0, hbd0, hc0, hx0, hB0, hz0⟩ := open_msgS (hval 0 26 v0 rfl rfl) h0 (fun n hn => of_decide_eq_true (List.all_eq_true.1 hsz n (DataW.weights_mem_each (j := 0) (d := d0) rfl rfl n hn)))
  clear hA0 hval0
  refine (walk kd0 fr0 to0 t0 ix0 lg0 cm0 hi0 ro0 bo0 ep0 ec0 es0 dp0 dc0 dl0 W hl0 hE0 hbd0 hc0 hx0 hB0 hz0).mono fun e W' ⟨he, bel⟩ => ?_
  subst he
  exact ⟨_, rfl, _, _, _, [], _, [], hW', trodAll_mk1 (shut_bool Try.underlying4 _), (trodAll_cons_mk (Below.trod laidOut (by kernel_rfl) (of_decide_eq_true (by kernel_rfl)) k0 bel lt0) trodAll_mk0), rfl, bel.frame _, fun h => by cases h⟩

theorem proved : Rows.WireMsgsSaid :=
  OpenClaim.holds_of_wide 3 Try.f3 rfl rfl rfl rfl rfl rfl rfl ⟨rfl, rfl, rfl, rfl, rfl⟩ rfl rfl rfl rfl rfl (by kernel_rfl) Try.func3 (by kernel_rfl)
    (of_decide_eq_true (by kernel_rfl)) (by unfold Func.isWrapper; first | (rw [if_pos (by decide +kernel)]; kernel_rfl) | (rw [if_neg (by decide +kernel)]; exact ⟨rfl, rfl⟩))
    (fun os started H enc _ => lifted os started H enc)
end Go.Proofs.Ytcmdckhbejokhaa.wireMsgs
namespace Go.Proofs.Ytcmdckhbejokhaa
theorem wireMsgs_holds : Rows.WireMsgsSaid := wireMsgs.proved
#print axioms wireMsgs_holds
end Go.Proofs.Ytcmdckhbejokhaa
