/- Proved: a message that is put is got as it was, whatever the message; no condition. -/
import Derived.Test.YtcficfjgddjeeabArg
import Derived.Test.YtcficfjgddjeeabWliv
import Derived.Test.YtcficfjgddjeeabRgmsg
import Derived.Test.YtcficfjgddjeeabPutg
import Derived.Test.YtcficfjgddjeeabTmat
import Derived.Test.YtcficfjgddjeeabMarg
namespace Go.Proofs.Ytcficfjgddjeeab.wireBack
open Go.ChangeShapes Go.WideShapes Go.ChangeAt Go.RowKit
set_option linter.unusedVariables false

theorem own : ownKnob Try.prog.godebug = none := by kernel_rfl
theorem laidOut : laidOutB Try.prog = true := by kernel_rfl

theorem later_block {w w' : World} {j : Nat} {o : Obj} (hb : Below w.heap.size w w') (h : w.heap[j]? = some o) : w'.heap[j]? = some o := (hb.block j (Array.getElem?_eq_some_iff.1 h).1).trans h
theorem nilCap {base : Nat} {w : World} {sp : Option Addr} {c : Nat} {l : List Nat} (h : OwnB base w sp c l) : sp = none → c = 0 := by
  intro e
  subst e
  rcases h.owns.2 with ⟨hv, _⟩ | ⟨g, cap, cur, hv, _⟩
  · simp only [Value.slice.injEq] at hv; exact hv.2.2
  · cases hv
theorem msgB_len {kd fr to t ix lt cm hi ro ob : Nat} {es : List EntN} {d : List Nat} (h : MsgOk kd fr to t ix lt cm hi ro es d) : (msgB kd fr to t ix lt cm hi ro ob es d).length ≤ 140737488355328 := by
  have h1 := numsB_len [t, ix, lt, cm, hi, ro] (by have := h.ht; have := h.hix; have := h.hlt; have := h.hcm; have := h.hhi; have := h.hro; simp; omega)
  have h2 := entsB_len es h.hes
  have h3 := numB_six es.length (by have := h.hfew; omega)
  have h4 := numB_six d.length (by have := h.hd; omega)
  have h5 := h.hfew
  have h6 := h.hd
  simp only [msgB, headB, List.length_append, List.length_cons, List.length_nil] at h1 ⊢
  omega
theorem ob_eq (bo : Bool) : ((((if bo then 1 else 0 : Nat) : Nat) : Int) == 1) = bo := by cases bo <;> rfl
set_option maxRecDepth 20000 in
set_option maxHeartbeats 2000000 in
theorem walk (kd fr to t ix lt cm hi ro : Int) (bo : Bool) (ep : Option Addr) (ec : Nat) (es : List EntI) (dp : Option Addr) (dc : Nat) (dl : List Nat) (w : World) (hl : es.length ≤ maxLen) (hE : EntsAt w ep es) (hbd : ∀ e ∈ es, EntBd e) (hc : dl.length ≤ dc) (hx : dc ≤ maxLen) (hB : BytesAt w dp dl) (hz : dp = none → dc = 0) :
    Calls Try.prog 5 #[.agg #[.int .i64 kd, .int .i64 fr, .int .i64 to, .int .i64 t, .int .i64 ix, .int .i64 lt, .int .i64 cm, .int .i64 hi, .int .i64 ro, .bool bo, .slice ep es.length ec, .slice dp dl.length dc]] w fun e w' => e = .returned (.bool true) ∧ Below w.heap.size w w' := by
  have HE := hide hE
  have HB := hide hB
  have HZ := hide hz
  have hL : es.length ≤ 9223372036854775807 := by simp only [maxLen] at hl; omega
  clear hE hB hz hc hx hbd hl
  have X0 := hide (heap_new w (.cells #[.int .i64 kd, .int .i64 fr, .int .i64 to, .int .i64 t, .int .i64 ix, .int .i64 lt, .int .i64 cm, .int .i64 hi, .int .i64 ro, .bool bo, .slice ep es.length ec, .slice dp dl.length dc] 26))
  have F0 := hide (show Below w.heap.size w (w.alloc (.cells #[.int .i64 kd, .int .i64 fr, .int .i64 to, .int .i64 t, .int .i64 ix, .int .i64 lt, .int .i64 cm, .int .i64 hi, .int .i64 ro, .bool bo, .slice ep es.length ec, .slice dp dl.length dc] 26)) from (Below.refl _ _).alloc (Nat.le_refl _) _)
  obtain ⟨c0, c1, c2, c3, c4, c5, c6, c7, c8, c9, c10, c11⟩ := twelve_cells (unhide X0)
  go_enter Try.func5, Try.ntmps5
  go_wp2_with fail
  generalize w.alloc (.cells #[.int .i64 kd, .int .i64 fr, .int .i64 to, .int .i64 t, .int .i64 ix, .int .i64 lt, .int .i64 cm, .int .i64 hi, .int .i64 ro, .bool bo, .slice ep es.length ec, .slice dp dl.length dc] 26) = W0 at *
  clear c0 c1 c2 c3 c4 c5 c6 c7 c8 c9 c10 c11
  by_cases hmf : MayM kd fr to t ix lt cm hi ro es ∧ FitsM es dl.length
  · obtain ⟨kd', fr', to', t', ix', lt', cm', hi', ro', es', ⟨rfl, rfl, rfl, rfl, rfl, rfl, rfl, rfl, rfl⟩, rfl, hok⟩ := msg_nat hmf.1 hmf.2
    have HOK := hide hok
    have hlen' := hide (show es'.length = (es'.map toI).length by simp)
    have hgot := hide (msg_got hok (ob := if bo then 1 else 0) (by cases bo <;> simp))
    have hml := hide (msgB_len (ob := if bo then 1 else 0) hok)
    clear hok hmf
    refine (putMsg_yes kd' fr' to' t' ix' lt' cm' hi' ro' (if bo then 1 else 0) bo rfl ep _ ec dp _ dc es' dl _ (unhide HOK) (unhide hlen') rfl ((unhide HE).later (unhide F0)) ((unhide HB).later (unhide F0)) (unhide HZ)).mono ?_
    rintro e W1 ⟨sp1, n1, k1, rfl, hn1, ho1, hb1⟩
    have O1 := hide ho1
    have X1 := hide (later_block hb1 (unhide X0))
    have F1 := hide ((unhide F0).trans (hb1.mono (unhide F0).size))
    clear ho1 hb1
    go_wp2_with fail
    refine (getMsg_calls sp1 n1 k1 _ _ (unhide hn1) (unhide hml) (unhide O1).cap.1 (nilCap (unhide O1)) (unhide O1).bytes).mono ?_
    rw [unhide hgot]
    rintro e W2 ⟨⟨v2, rfl, ep2, en2, ec2, sp2, mm2, cc2, rfl, hen2, hoe2, hmm2, hod2⟩, hb2⟩
    simp only [msgCells, ob_eq]
    simp only at hen2 hmm2
    have X2 := hide (later_block hb2 (unhide X1))
    have F2 := hide ((unhide F1).trans (hb2.mono (unhide F1).size))
    have b3 : Below W2.heap.size W2 (W2.alloc (.cells #[.int .i64 (kd' : Int), .int .i64 (fr' : Int), .int .i64 (to' : Int), .int .i64 (t' : Int), .int .i64 (ix' : Int), .int .i64 (lt' : Int), .int .i64 (cm' : Int), .int .i64 (hi' : Int), .int .i64 (ro' : Int), .bool bo, .slice ep2 en2 ec2, .slice sp2 mm2 cc2] 26)) := (Below.refl _ _).alloc (Nat.le_refl _) _
    have Y3 := hide (heap_new W2 (.cells #[.int .i64 (kd' : Int), .int .i64 (fr' : Int), .int .i64 (to' : Int), .int .i64 (t' : Int), .int .i64 (ix' : Int), .int .i64 (lt' : Int), .int .i64 (cm' : Int), .int .i64 (hi' : Int), .int .i64 (ro' : Int), .bool bo, .slice ep2 en2 ec2, .slice sp2 mm2 cc2] 26))
    have X3 := hide (later_block b3 (unhide X2))
    have F3 := hide ((unhide F2).trans (b3.mono (unhide F2).size))
    have E3 := hide (hoe2.ents.later b3)
    have D3 := hide (hod2.bytes.later b3)
    clear hoe2 hod2 b3 hb2
    go_wp2_with fail
    generalize W2.alloc (.cells #[.int .i64 (kd' : Int), .int .i64 (fr' : Int), .int .i64 (to' : Int), .int .i64 (t' : Int), .int .i64 (ix' : Int), .int .i64 (lt' : Int), .int .i64 (cm' : Int), .int .i64 (hi' : Int), .int .i64 (ro' : Int), .bool bo, .slice ep2 en2 ec2, .slice sp2 mm2 cc2] 26) = W3 at *
    refine (live2_calls _).mono ?_
    rintro e W4 ⟨rfl, hb4⟩
    have F4 := hide ((unhide F3).trans (hb4.mono (unhide F3).size))
    have E4 := hide ((unhide E3).later hb4)
    have D4 := hide ((unhide D3).later hb4)
    obtain ⟨c0, c1, c2, c3, c4, c5, c6, c7, c8, c9, c10, c11⟩ := twelve_cells (later_block hb4 (unhide Y3))
    obtain ⟨d0, d1, d2, d3, d4, d5, d6, d7, d8, d9, d10, d11⟩ := twelve_cells (later_block hb4 (unhide X3))
    clear hb4
    go_wp2_with fail
    have hen := unhide hen2
    subst hen
    refine (sameMsg_yes kd' fr' to' t' ix' lt' cm' hi' ro' bo ep2 ep _ ec2 ec sp2 dp mm2 _ cc2 dc (es'.map toI) dl _ (by simp) (by have := (unhide HOK).hfew; omega) (unhide E4) ((unhide HE).later (unhide F4)) (unhide hmm2) rfl (unhide D4) ((unhide HB).later (unhide F4))).mono ?_
    rintro e W5 ⟨rfl, hb5⟩
    have F5 := hide ((unhide F4).trans (hb5.mono (unhide F4).size))
    clear hb5
    go_wp2
    go_ret
    exact ⟨rfl, unhide F5⟩
  · refine (putMsg_bad kd fr to t ix lt cm hi ro bo ep _ ec dp _ dc es _ rfl hL ((unhide HE).later (unhide F0)) hmf).mono ?_
    rintro e W1 ⟨⟨x, hx, rfl⟩, hb1⟩
    have F1 := hide ((unhide F0).trans (hb1.mono (unhide F0).size))
    have hx0 : ¬ x = 0 := by omega
    clear hb1 hmf
    rcases hx with rfl | rfl
    all_goals
      go_wp2_with fail
      refine (live2_calls _).mono ?_
      rintro e W2 ⟨rfl, hb2⟩
      have F2 := hide ((unhide F1).trans (hb2.mono (unhide F1).size))
      clear hb2
      go_wp2
      go_ret
      exact ⟨rfl, unhide F2⟩

set_option maxRecDepth 100000 in
theorem lifted (os : Os) (started : os.Started) (H : Type) (enc : TypeId × Value → H) :
    ReturnsInHanded {} Try.checked os 5 .any (Rows.wireBackSpec.pre6 enc Try.prog Try.f5 Rows.wireBackRow.domain false) (Rows.wireBackSpec.post enc Try.prog Try.f5 false true false false) := by
  refine returnsInHanded_of_change_sized (C := Try.checked) own started (by kernel_rfl) Try.func5
    (ChangeSpec.witness6 (enc := enc) (C := Try.checked) false ⟨#[], #[.agg #[.int .i64 0, .int .i64 0, .int .i64 0, .int .i64 0, .int .i64 0, .int .i64 0, .int .i64 0, .int .i64 0, .int .i64 0, .bool false, .slice none 0 0, .slice none 0 0]], []⟩ 8 (by kernel_rfl) (by kernel_rfl) (by kernel_rfl) (by kernel_rfl)) ?_
  intro W base args ds gs before hval0 hW hcnd hsz _
  have hval : ∀ (j : Nat) t v, Try.f5.params[j]? = some t → args[j]? = some v → Value.okWide Try.prog W .any base t v := hval0
  have hW' := hW
  obtain ⟨p, q, hA0, hV, rfl, hfz, hnd⟩ := hW
  have hA : DataW.TrodAll enc Try.prog W 0 (fun _ => true) true Try.f5.params.toList args.toList ds p := hA0
  rw [Try.params5] at hA hval
  obtain ⟨v0, vs0, d0, ds0, p0, q0, hargs, rfl, rfl, h0, r0⟩ := trodAll_cons hA
  obtain ⟨rfl, rfl, rfl⟩ := trodAll_nil r0
  obtain rfl : args = #[v0] := by cases args; simp_all
  obtain ⟨rfl, rfl⟩ := trodVars_none hV
  have k0 := h0
  have lt0 : ∀ x ∈ p0, x.block < W.heap.size := by obtain ⟨m, hm⟩ := k0; exact DataW.trod_lt m _ _ _ hm
  obtain ⟨kd0, fr0, to0, t0, ix0, lg0, cm0, hi0, ro0, bo0, ep0, ec0, es0, dp0, dc0, dl0, rfl, hl0, hE0, hbd0, hc0, hx0, hB0, hz0⟩ := open_msg (hval 0 26 v0 rfl rfl) h0
  clear hA0 hval0
  refine (walk kd0 fr0 to0 t0 ix0 lg0 cm0 hi0 ro0 bo0 ep0 ec0 es0 dp0 dc0 dl0 W hl0 hE0 hbd0 hc0 hx0 hB0 hz0).mono fun e W' ⟨he, bel⟩ => ?_
  subst he
  exact ⟨_, rfl, _, _, _, [], _, [], hW', trodAll_mk1 (shut_bool Try.underlying4 _), (trodAll_cons_mk (Below.trod laidOut (by kernel_rfl) (of_decide_eq_true (by kernel_rfl)) k0 bel lt0) trodAll_mk0), rfl, bel.frame _, fun h => by cases h⟩

theorem proved : Rows.WireBackSaid :=
  OpenClaim.holds_of_wide 5 Try.f5 rfl rfl rfl rfl rfl rfl rfl ⟨rfl, rfl, rfl, rfl, rfl⟩ rfl rfl rfl rfl rfl (by kernel_rfl) Try.func5 (by kernel_rfl)
    (of_decide_eq_true (by kernel_rfl)) (by unfold Func.isWrapper; first | (rw [if_pos (by decide +kernel)]; kernel_rfl) | (rw [if_neg (by decide +kernel)]; exact ⟨rfl, rfl⟩))
    (fun os started H enc _ => lifted os started H enc)
end Go.Proofs.Ytcficfjgddjeeab.wireBack
namespace Go.Proofs.Ytcficfjgddjeeab
theorem wireBack_holds : Rows.WireBackSaid := wireBack.proved
#print axioms wireBack_holds
end Go.Proofs.Ytcficfjgddjeeab
