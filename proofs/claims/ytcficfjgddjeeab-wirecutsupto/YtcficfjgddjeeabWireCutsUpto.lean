/- Proved: a message's bytes that are cut short are ErrShort, with bytes behind ErrForm; for all messages, numbers and bytes whose values number at most 1048576. -/
import Derived.Test.YtcficfjgddjeeabArg
import Derived.Test.YtcficfjgddjeeabWliv
import Derived.Test.YtcficfjgddjeeabRgmsg
import Derived.Test.YtcficfjgddjeeabPutg
import Derived.Test.YtcficfjgddjeeabTcut
import Derived.Test.YtcficfjgddjeeabMarg
import Derived.Test.YtcficfjgddjeeabBulk
import Derived.JoinedCond
namespace Go.Proofs.Ytcficfjgddjeeab.wireCutsUpto
open Go.ChangeShapes Go.WideShapes Go.ChangeAt Go.RowKit
set_option linter.unusedVariables false

theorem own : ownKnob Try.prog.godebug = none := by kernel_rfl
theorem laidOut : laidOutB Try.prog = true := by kernel_rfl

theorem nilCap {base : Nat} {w : World} {sp : Option Addr} {c : Nat} {l : List Nat} (h : OwnB base w sp c l) : sp = none → c = 0 := by
  intro e
  subst e
  rcases h.owns.2 with ⟨hv, _⟩ | ⟨g, cap, cur, hv, _⟩
  · simp only [Value.slice.injEq] at hv; exact hv.2.2
  · cases hv
theorem msgB_len {kd fr to t ix lt cm hi ro ob : Nat} {es : List EntN} {d : List Nat} (h : MsgOk kd fr to t ix lt cm hi ro es d) : 4 ≤ (msgB kd fr to t ix lt cm hi ro ob es d).length ∧ (msgB kd fr to t ix lt cm hi ro ob es d).length ≤ 1000000 := by
  have h1 := numsB_len [t, ix, lt, cm, hi, ro] (by have := h.ht; have := h.hix; have := h.hlt; have := h.hcm; have := h.hhi; have := h.hro; simp; omega)
  have h2 := entsB_len es h.hes
  have h3 := numB_six es.length (by have := h.hfew; omega)
  have h4 := numB_six d.length (by have := h.hd; omega)
  have h5 := h.hfew
  have h6 := h.hd
  simp only [msgB, headB, List.length_append, List.length_cons, List.length_nil] at h1 ⊢
  omega
/-- GetMsg of bytes that are no message: the error alone. -/
theorem getMsg_bad (a : Option Addr) (m c : Nat) (l : List Nat) (w : World) (x : Nat) (hx : wholeE l (msgE l 0) = .error x) (hm : l.length = m) (hl : l.length ≤ 140737488355328) (hc : l.length ≤ c) (hz : a = none → c = 0) (hb : BytesAt w a l) :
    Calls Try.prog 14 #[.slice a m c] w fun e w' => e = .returned (.tuple #[.agg #[.int .i64 0, .int .i64 0, .int .i64 0, .int .i64 0, .int .i64 0, .int .i64 0, .int .i64 0, .int .i64 0, .int .i64 0, .bool false, .slice none 0 0, .slice none 0 0], .int .i64 (x : Int)]) ∧ Below w.heap.size w w' := by
  refine (getMsg_calls a m c l w hm hl hc hz hb).mono ?_
  rw [hx]
  rintro e W ⟨⟨v, rfl, h⟩, hb⟩
  exact ⟨by rw [show v = _ from h], hb⟩
set_option maxRecDepth 20000 in
set_option maxHeartbeats 2000000 in
theorem walk (kd fr to t ix lt cm hi ro : Int) (bo : Bool) (ep : Option Addr) (ec : Nat) (es : List EntI) (dp : Option Addr) (dc : Nat) (dl : List Nat) (k1 : Int) (a2 : Option Addr) (c2 : Nat) (l2 : List Nat) (w : World) (hl : es.length ≤ maxLen) (hE : EntsAt w ep es) (hbd : ∀ e ∈ es, EntBd e) (hc : dl.length ≤ dc) (hx : dc ≤ maxLen) (hB : BytesAt w dp dl) (hz : dp = none → dc = 0)
    (hk1 : -9223372036854775808 ≤ k1 ∧ k1 ≤ 9223372036854775807) (hc2 : l2.length ≤ c2) (hm2 : c2 ≤ 1048576) (hb2 : BytesAt w a2 l2) (hz2 : a2 = none → c2 = 0) :
    Calls Try.prog 8 #[.agg #[.int .i64 kd, .int .i64 fr, .int .i64 to, .int .i64 t, .int .i64 ix, .int .i64 lt, .int .i64 cm, .int .i64 hi, .int .i64 ro, .bool bo, .slice ep es.length ec, .slice dp dl.length dc], .int .i64 k1, .slice a2 l2.length c2] w fun e w' => e = .returned (.bool true) ∧ Below w.heap.size w w' := by
  have HE := hide hE
  have HB := hide hB
  have HZ := hide hz
  have HB2 := hide hb2
  have HZ2 := hide hz2
  have n2 : l2.length ≤ 1048576 := by omega
  have hL : es.length ≤ 9223372036854775807 := by simp only [maxLen] at hl; omega
  clear hE hB hz hc hx hbd hl hb2 hz2 hc2 hm2 hk1
  have F0 := hide (show Below w.heap.size w (w.alloc (.cells #[.int .i64 kd, .int .i64 fr, .int .i64 to, .int .i64 t, .int .i64 ix, .int .i64 lt, .int .i64 cm, .int .i64 hi, .int .i64 ro, .bool bo, .slice ep es.length ec, .slice dp dl.length dc] 26)) from (Below.refl _ _).alloc (Nat.le_refl _) _)
  obtain ⟨c0, c1, c2', c3, c4, c5, c6, c7, c8, c9, c10, c11⟩ := twelve_cells (heap_new w (.cells #[.int .i64 kd, .int .i64 fr, .int .i64 to, .int .i64 t, .int .i64 ix, .int .i64 lt, .int .i64 cm, .int .i64 hi, .int .i64 ro, .bool bo, .slice ep es.length ec, .slice dp dl.length dc] 26))
  go_enter Try.func8, Try.ntmps8
  go_wp2_with fail
  generalize w.alloc (.cells #[.int .i64 kd, .int .i64 fr, .int .i64 to, .int .i64 t, .int .i64 ix, .int .i64 lt, .int .i64 cm, .int .i64 hi, .int .i64 ro, .bool bo, .slice ep es.length ec, .slice dp dl.length dc] 26) = W0 at *
  clear c0 c1 c2' c3 c4 c5 c6 c7 c8 c9 c10 c11
  by_cases hmf : MayM kd fr to t ix lt cm hi ro es ∧ FitsM es dl.length
  · obtain ⟨kd', fr', to', t', ix', lt', cm', hi', ro', es', ⟨rfl, rfl, rfl, rfl, rfl, rfl, rfl, rfl, rfl⟩, rfl, hok⟩ := msg_nat hmf.1 hmf.2
    have HOK := hide hok
    have hlen' := hide (show es'.length = (es'.map toI).length by simp)
    have hgot := hide (msg_got hok (ob := if bo then 1 else 0) (by cases bo <;> simp))
    have hml := hide (msgB_len (ob := if bo then 1 else 0) hok)
    clear hok hmf
    refine (putMsg_yes kd' fr' to' t' ix' lt' cm' hi' ro' (if bo then 1 else 0) bo rfl ep _ ec dp _ dc es' dl _ (unhide HOK) (unhide hlen') rfl ((unhide HE).later (unhide F0)) ((unhide HB).later (unhide F0)) (unhide HZ)).mono ?_
    generalize msgB kd' fr' to' t' ix' lt' cm' hi' ro' (if bo then 1 else 0) es' dl = L at *
    rintro e W1 ⟨sp1, m1, q1, rfl, hm1, ho1, hb1⟩
    have O1 := hide ho1
    have F1 := hide ((unhide F0).trans (hb1.mono (unhide F0).size))
    have hq1 : m1 ≤ q1 := by have := ho1.cap.1; have := unhide hm1; omega
    have hm4 : 4 ≤ m1 := by have := (unhide hml).1; have := unhide hm1; omega
    have hm9 : m1 ≤ 1000000 := by have := (unhide hml).2; have := unhide hm1; omega
    clear ho1 hb1
    have hne : ¬ (m1 : Int) = 0 := by omega
    obtain ⟨N, hN, hNl⟩ := rem_nat k1 m1 (by omega) (by omega)
    have hs := run_slice_h8 sp1 m1 q1 N (by omega)
    have hLen := hide (show (L.take N).length = N by rw [List.length_take, unhide hm1]; omega)
    have B1 := hide ((unhide O1).bytes.head q1 N (by rw [unhide hm1]; exact hq1))
    have HX := hide (msg_cut (unhide hgot) (n := N) (by rw [unhide hm1]; exact hNl))
    have hZp := hide (show slp sp1 0 q1 = none → q1 = 0 by
      intro e
      apply nilCap (unhide O1)
      unfold slp at e
      split at e
      · exact e
      · cases sp1 with
        | none => rfl
        | some a => cases e)
    generalize slp sp1 0 q1 = p at *
    generalize L.take N = F at *
    have hNq : N ≤ q1 := by omega
    go_wp2_with fail
    refine (getMsg_bad p N q1 F _ 3 (unhide HX) (unhide hLen) (by rw [unhide hLen]; omega) (by rw [unhide hLen]; omega) (unhide hZp) (unhide B1)).mono ?_
    rintro e W2 ⟨rfl, hb2⟩
    have F2 := hide ((unhide F1).trans (hb2.mono (unhide F1).size))
    have D2 := hide ((unhide O1).bytes.later hb2)
    have Z2 := hide (nilCap (unhide O1))
    have A2 := hide ((unhide HB2).later (unhide F2))
    clear hb2
    have bV : Below W2.heap.size W2 (W2.alloc (.cells #[.int .i64 0, .int .i64 0, .int .i64 0, .int .i64 0, .int .i64 0, .int .i64 0, .int .i64 0, .int .i64 0, .int .i64 0, .bool false, .slice none 0 0, .slice none 0 0] 26)) := (Below.refl _ _).alloc (Nat.le_refl _) _
    have FV := hide ((unhide F2).trans (bV.mono (unhide F2).size))
    have DV := hide ((unhide D2).later bV)
    have AV := hide ((unhide A2).later bV)
    clear bV
    by_cases h0 : l2.length = 0
    · go_wp2_with fail
      refine (live2_calls _).mono ?_
      rintro e W3 ⟨rfl, hb3⟩
      have F3 := hide ((unhide FV).trans (hb3.mono (unhide FV).size))
      clear hb3
      go_wp2
      go_ret
      exact ⟨rfl, unhide F3⟩
    · have HY := hide (msg_behind (b := l2) (unhide hgot) (by omega))
      have o2' := OwnB.empty (W2.alloc (.cells #[.int .i64 0, .int .i64 0, .int .i64 0, .int .i64 0, .int .i64 0, .int .i64 0, .int .i64 0, .int .i64 0, .int .i64 0, .bool false, .slice none 0 0, .slice none 0 0] 26)) (W2.heap.size + 1) (by rw [size_alloc]; exact Nat.le_refl _)
      have b2' : Below (W2.alloc (.cells #[.int .i64 0, .int .i64 0, .int .i64 0, .int .i64 0, .int .i64 0, .int .i64 0, .int .i64 0, .int .i64 0, .int .i64 0, .bool false, .slice none 0 0, .slice none 0 0] 26)).heap.size (W2.alloc (.cells #[.int .i64 0, .int .i64 0, .int .i64 0, .int .i64 0, .int .i64 0, .int .i64 0, .int .i64 0, .int .i64 0, .int .i64 0, .bool false, .slice none 0 0, .slice none 0 0] 26)) ((W2.alloc (.cells #[.int .i64 0, .int .i64 0, .int .i64 0, .int .i64 0, .int .i64 0, .int .i64 0, .int .i64 0, .int .i64 0, .int .i64 0, .bool false, .slice none 0 0, .slice none 0 0] 26)).alloc (.cells #[] 5)) := (Below.refl _ _).alloc (Nat.le_refl _) _
      rw [size_alloc] at o2' b2'
      have o2 := hide o2'
      have b2 := hide b2'
      clear o2' b2'
      go_wp2_with (first
        | (at_builtin; refine wpList_append8 rfl _ _ rfl (W2.heap.size + 1) (some ⟨W2.heap.size + 1, 0, none⟩) 0 0 [] rfl rfl (by exact unhide o2) sp1 m1 q1 rfl L (unhide hm1) (by exact ((unhide DV).later (by rw [size_alloc]; exact unhide b2))) (unhide Z2) (by simp only [List.length_nil]; omega) (by rw [size_alloc, size_alloc]; omega) ?_; intro sp3 m3 k3 W3 hm3 ho3 hg3 hb3; rw [List.nil_append] at hm3 ho3; have O3 := hide ho3; have F3 := hide ((unhide b2).trans hb3); have A3 := hide ((unhide AV).later (by rw [size_alloc]; exact unhide F3)); clear ho3 hg3 hb3)
        | (at_builtin; refine wpList_append8 rfl _ _ rfl (W2.heap.size + 1) sp3 m3 k3 L rfl (unhide hm3) (by exact unhide O3) a2 l2.length c2 rfl l2 rfl (by exact unhide A3) (unhide HZ2) (by have := (unhide hml).2; omega) (by have := (unhide F3).size; rw [size_alloc] at this; exact this) ?_; intro sp4 m4 k4 W4 hm4 ho4 hg4 hb4; have O4 := hide ho4; have F4 := hide ((unhide F3).trans hb4); clear ho4 hg4 hb4))
      have F4' := hide ((unhide FV).trans ((unhide F4).mono (by have := (unhide F2).size; omega)))
      refine (getMsg_bad sp4 m4 k4 (L ++ l2) _ 4 (unhide HY) (unhide hm4) (by have := (unhide hml).2; rw [List.length_append]; omega) (unhide O4).cap.1 (nilCap (unhide O4)) (unhide O4).bytes).mono ?_
      rintro e W5 ⟨rfl, hb5⟩
      have b6 : Below W5.heap.size W5 (W5.alloc (.cells #[.int .i64 0, .int .i64 0, .int .i64 0, .int .i64 0, .int .i64 0, .int .i64 0, .int .i64 0, .int .i64 0, .int .i64 0, .bool false, .slice none 0 0, .slice none 0 0] 26)) := (Below.refl _ _).alloc (Nat.le_refl _) _
      have F5 := hide ((unhide F4').trans (hb5.mono (unhide F4').size))
      have F6 := hide ((unhide F5).trans (b6.mono (unhide F5).size))
      clear hb5 b6
      go_wp2_with fail
      refine (live2_calls _).mono ?_
      rintro e W7 ⟨rfl, hb7⟩
      have F7 := hide ((unhide F6).trans (hb7.mono (unhide F6).size))
      clear hb7
      go_wp2
      go_ret
      exact ⟨rfl, unhide F7⟩
  · refine (putMsg_bad kd fr to t ix lt cm hi ro bo ep _ ec dp _ dc es _ rfl hL ((unhide HE).later (unhide F0)) hmf).mono ?_
    rintro e W1 ⟨⟨x, hx, rfl⟩, hb1⟩
    have F1 := hide ((unhide F0).trans (hb1.mono (unhide F0).size))
    clear hb1 hmf
    rcases hx with rfl | rfl
    all_goals
      go_wp2_with fail
      refine (live2_calls _).mono ?_
      rintro e W2 ⟨rfl, hb2⟩
      have F2 := hide ((unhide F1).trans (hb2.mono (unhide F1).size))
      clear hb2
      go_wp2
      go_ret
      exact ⟨rfl, unhide F2⟩

set_option maxRecDepth 100000 in
theorem lifted (os : Os) (started : os.Started) (H : Type) (enc : TypeId × Value → H) (F : Stop.Interp) :
    ReturnsInHanded {} Try.checked os 8 .any ((Rows.OpenSpec.upto Rows.wireCutsSpec).pre6 enc Try.prog Try.f8 Rows.wireCutsUptoRow.domain false) (((Rows.OpenSpec.upto Rows.wireCutsSpec).at F).post enc Try.prog Try.f8 false true false false) := by
  refine returnsInHanded_of_cond (C := Try.checked) (s := Rows.OpenSpec.upto Rows.wireCutsSpec) (k := Rows.uptoSmall) rfl own started (by kernel_rfl) Try.func8
    (OpenSpec.witness (enc := enc) (C := Try.checked) (s := Rows.OpenSpec.upto Rows.wireCutsSpec) (k := Rows.uptoSmall) rfl false ⟨#[], #[.agg #[.int .i64 0, .int .i64 0, .int .i64 0, .int .i64 0, .int .i64 0, .int .i64 0, .int .i64 0, .int .i64 0, .int .i64 0, .bool false, .slice none 0 0, .slice none 0 0], .int .i64 0, .slice none 0 0], []⟩ 8 (by kernel_rfl) (by kernel_rfl) (by kernel_rfl)
      (x := ([.agg [.lit (.int .i64 0), .lit (.int .i64 0), .lit (.int .i64 0), .lit (.int .i64 0), .lit (.int .i64 0), .lit (.int .i64 0), .lit (.int .i64 0), .lit (.int .i64 0), .lit (.int .i64 0), .lit (.bool false), .nil, .nil], .lit (.int .i64 0), .nil], [], [])) (by kernel_rfl) rfl (by kernel_rfl)) ?_
  intro W base args ds gs before hval0 hW hcnd hk _
  have hval : ∀ (j : Nat) t v, Try.f8.params[j]? = some t → args[j]? = some v → Value.okWide Try.prog W .any base t v := hval0
  have hW' := hW
  obtain ⟨p, q, hA0, hV, rfl, hfz, hnd⟩ := hW
  have hA : DataW.TrodAll enc Try.prog W 0 (fun _ => true) true Try.f8.params.toList args.toList ds p := hA0
  rw [Try.params8] at hA hval
  obtain ⟨v0, vs0, d0, ds0, p0, q0, hargs, rfl, rfl, h0, r0⟩ := trodAll_cons hA
  obtain ⟨v1, vs1, d1, ds1, p1, q1, rfl, rfl, rfl, h1, r1⟩ := trodAll_cons r0
  obtain ⟨v2, vs2, d2, ds2, p2, q2, rfl, rfl, rfl, h2, r2⟩ := trodAll_cons r1
  obtain ⟨rfl, rfl, rfl⟩ := trodAll_nil r2
  obtain rfl : args = #[v0, v1, v2] := by cases args; simp_all
  obtain ⟨rfl, rfl⟩ := trodVars_none hV
  have k0 := h0
  have lt0 : ∀ x ∈ p0, x.block < W.heap.size := by obtain ⟨m, hm⟩ := k0; exact DataW.trod_lt m _ _ _ hm
  obtain ⟨kd0, fr0, to0, t0, ix0, lg0, cm0, hi0, ro0, bo0, ep0, ec0, es0, dp0, dc0, dl0, rfl, hl0, hE0, hbd0, hc0, hx0, hB0, hz0⟩ := open_msg (hval 0 26 v0 rfl rfl) h0
  obtain ⟨n1, rfl, rfl, rfl, w1⟩ := open_int Try.underlying3 (hval 1 3 v1 rfl rfl) h1
  have hn1 := i64_bounds w1
  obtain ⟨a2, len2, c2, rfl⟩ := okWide_slice Try.underlying24 (hval 2 24 v2 rfl rfl)
  have k2 := h2
  have lt2 : ∀ x ∈ p2, x.block < W.heap.size := by obtain ⟨m, hm⟩ := k2; exact DataW.trod_lt m _ _ _ hm
  obtain ⟨l2, rfl, hc2, hx2, hb2, hz2, hr2⟩ := row8 h2
  clear hA0 hval0
  have hm2 := bulk8 hk (List.mem_append_left _ (by simp : d2 ∈ [_, _, d2])) hr2
  refine (walk kd0 fr0 to0 t0 ix0 lg0 cm0 hi0 ro0 bo0 ep0 ec0 es0 dp0 dc0 dl0 n1 a2 c2 l2 W hl0 hE0 hbd0 hc0 hx0 hB0 hz0 hn1 hc2 hm2 hb2 hz2).mono fun e W' ⟨he, bel⟩ => ?_
  subst he
  exact ⟨_, rfl, _, _, _, [], _, [], hW', trodAll_mk1 (shut_bool Try.underlying4 _), (trodAll_cons_mk (Below.trod laidOut (by kernel_rfl) (of_decide_eq_true (by kernel_rfl)) k0 bel lt0) (trodAll_cons_mk (shut_int Try.underlying3 w1) (trodAll_cons_mk (Below.trod laidOut (by kernel_rfl) (of_decide_eq_true (by kernel_rfl)) k2 bel lt2) trodAll_mk0))), rfl, bel.frame _, fun h => by cases h⟩

theorem proved : Rows.WireCutsUptoSaid :=
  OpenClaim.holds_of_cond 8 Try.f8 rfl rfl rfl rfl rfl rfl rfl ⟨rfl, rfl, rfl, rfl, rfl⟩ rfl rfl rfl rfl rfl (by kernel_rfl) Try.func8 (by kernel_rfl)
    (of_decide_eq_true (by kernel_rfl)) (by unfold Func.isWrapper; first | (rw [if_pos (by decide +kernel)]; kernel_rfl) | (rw [if_neg (by decide +kernel)]; exact ⟨rfl, rfl⟩))
    (fun os started H enc _ F => lifted os started H enc F)
end Go.Proofs.Ytcficfjgddjeeab.wireCutsUpto
namespace Go.Proofs.Ytcficfjgddjeeab
theorem wireCutsUpto_holds : Rows.WireCutsUptoSaid := wireCutsUpto.proved
#print axioms wireCutsUpto_holds
end Go.Proofs.Ytcficfjgddjeeab
