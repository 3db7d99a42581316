/- Proved: for all bytes wire.GetMsg answers the message of the bytes, or the error, as the document's answer does; no condition. -/
import Derived.Test.YtcficfjgddjeeabArg
import Derived.Test.YtcficfjgddjeeabWliv
import Derived.Test.YtcficfjgddjeeabRrmsg
import Derived.Test.YtcficfjgddjeeabSames
namespace Go.Proofs.Ytcficfjgddjeeab.wireReadsMsg
open Go.ChangeShapes Go.WideShapes Go.ChangeAt Go.RowKit
set_option linter.unusedVariables false

theorem own : ownKnob Try.prog.godebug = none := by kernel_rfl
theorem laidOut : laidOutB Try.prog = true := by kernel_rfl

/-- A message's cells, whatever it was read from. -/
abbrev cellsI (fs : Nat → Int) (bo : Bool) (ep : Option Addr) (en ec : Nat) (dp : Option Addr) (dm dc : Nat) : Array Value := #[.int .i64 (fs 0), .int .i64 (fs 1), .int .i64 (fs 2), .int .i64 (fs 3), .int .i64 (fs 4), .int .i64 (fs 5), .int .i64 (fs 6), .int .i64 (fs 7), .int .i64 (fs 8), .bool bo, .slice ep en ec, .slice dp dm dc]
/-- What GetMsg answers, its parts. -/
theorem msgRes_parts (l : List Nat) : ∃ (fs : Nat → Int) (bo : Bool) (es : List EntI) (d : List Nat) (x : Int), es.length ≤ 8 ∧ ∀ (base : Nat) (w : World) (v : Value), MsgRes base (wholeE l (msgE l 0)) w v →
    ∃ ep en ec dp dm dc, v = .tuple #[.agg (cellsI fs bo ep en ec dp dm dc), .int .i64 x] ∧ Hid (es.length = en) ∧ EntsAt w ep es ∧ Hid (d.length = dm) ∧ BytesAt w dp d := by
  cases hr : wholeE l (msgE l 0) with
  | error x =>
    refine ⟨fun _ => 0, false, [], [], x, by simp, fun base w v h => ?_⟩
    exact ⟨none, 0, 0, none, 0, 0, h, rfl, ⟨by simp⟩, rfl, ⟨by simp, by simp⟩⟩
  | ok m =>
    refine ⟨fun i => (#[(m.kd : Int), m.fr, m.to, m.t, m.ix, m.lt, m.cm, m.hi, m.ro] : Array Int).getD i 0, (m.ok : Int) == 1, m.es.map toI, m.d, 0, by rw [List.length_map]; exact msg_few hr, fun base w v h => ?_⟩
    obtain ⟨ep, en, ec, sp, mm, cc, rfl, h1, h2, h3, h4⟩ := h
    exact ⟨ep, en, ec, sp, mm, cc, rfl, hide (by rw [List.length_map]; exact unhide h1), h2.ents, h3, h4.bytes⟩
set_option maxRecDepth 20000 in
set_option maxHeartbeats 2000000 in
theorem walk (a0 : Option Addr) (c0 : Nat) (l0 : List Nat) (w : World) (hc0 : l0.length ≤ c0) (hm0 : c0 ≤ 140737488355328) (hb0 : BytesAt w a0 l0) (hz0 : a0 = none → c0 = 0) :
    Calls Try.prog 4 #[.slice a0 l0.length c0] w fun e w' => e = .returned (.bool true) ∧ Below w.heap.size w w' := by
  have HB := hide hb0
  have HL := hide (show l0.length ≤ 140737488355328 by omega)
  have HC := hide hc0
  have HZ := hide hz0
  clear hb0 hc0 hm0 hz0
  obtain ⟨fs, bo, es, d, x, hfew, hparts⟩ := msgRes_parts l0
  have HP := hide hparts
  have HFew := hide hfew
  clear hparts hfew
  go_enter Try.func4, Try.ntmps4
  go_wp2_with fail
  refine (getMsg_calls a0 _ c0 l0 _ rfl (unhide HL) (unhide HC) (unhide HZ) (unhide HB)).mono ?_
  rintro e W1 ⟨⟨v1, rfl, h1⟩, hb1⟩
  obtain ⟨ep1, en1, ec1, dp1, dm1, dc1, rfl, hn1, hE1, hd1, hB1⟩ := unhide HP _ _ _ h1
  clear h1
  have b2 : Below W1.heap.size W1 (W1.alloc (.cells (cellsI fs bo ep1 en1 ec1 dp1 dm1 dc1) 26)) := (Below.refl _ _).alloc (Nat.le_refl _) _
  have X2 := hide (heap_new W1 (.cells (cellsI fs bo ep1 en1 ec1 dp1 dm1 dc1) 26))
  have F2 := hide (hb1.trans (b2.mono hb1.size))
  have E2 := hide (hE1.later b2)
  have B2 := hide (hB1.later b2)
  clear hb1 hE1 hB1 b2
  go_wp2_with fail
  generalize W1.alloc _ = W2 at *
  refine (refGetMsg_calls a0 _ c0 l0 _ rfl (unhide HL) (unhide HC) (unhide HZ) ((unhide HB).later (unhide F2))).mono ?_
  rintro e W3 ⟨⟨v3, rfl, h3⟩, hb3⟩
  obtain ⟨ep3, en3, ec3, dp3, dm3, dc3, rfl, hn3, hE3, hd3, hB3⟩ := unhide HP _ _ _ h3
  clear h3
  have hen : en3 = en1 := by have := unhide hn1; have := unhide hn3; omega
  subst hen
  have b4 : Below W3.heap.size W3 (W3.alloc (.cells (cellsI fs bo ep3 en3 ec3 dp3 dm3 dc3) 26)) := (Below.refl _ _).alloc (Nat.le_refl _) _
  have X4 := hide (heap_new W3 (.cells (cellsI fs bo ep3 en3 ec3 dp3 dm3 dc3) 26))
  have hb34 := hb3.trans (b4.mono hb3.size)
  have Y4 := hide ((hb34.block _ (Array.getElem?_eq_some_iff.1 (unhide X2)).1).trans (unhide X2))
  have F4 := hide ((unhide F2).trans (hb34.mono (unhide F2).size))
  have E4 := hide (hE3.later b4)
  have B4 := hide (hB3.later b4)
  have D4 := hide ((unhide E2).later hb34)
  have C4 := hide ((unhide B2).later hb34)
  clear hb3 hE3 hB3 b4 hb34 F2 E2 B2 X2
  go_wp2_with fail
  generalize W3.alloc _ = W4 at *
  refine (live2_calls _).mono ?_
  rintro e W5 ⟨rfl, hb5⟩
  obtain ⟨c0, c1, c2, c3, c4, c5, c6, c7, c8, c9, c10, c11⟩ := twelve_cells ((hb5.block _ (Array.getElem?_eq_some_iff.1 (unhide Y4)).1).trans (unhide Y4))
  obtain ⟨q0, q1, q2, q3, q4, q5, q6, q7, q8, q9, q10, q11⟩ := twelve_cells ((hb5.block _ (Array.getElem?_eq_some_iff.1 (unhide X4)).1).trans (unhide X4))
  have F5 := hide ((unhide F4).trans (hb5.mono (unhide F4).size))
  have E5 := hide ((unhide E4).later hb5)
  have B5 := hide ((unhide B4).later hb5)
  have D5 := hide ((unhide D4).later hb5)
  have C5 := hide ((unhide C4).later hb5)
  clear hb5 F4 E4 B4 D4 C4
  go_wp2_with fail
  refine (sameMsg_yes (fs 0) (fs 1) (fs 2) (fs 3) (fs 4) (fs 5) (fs 6) (fs 7) (fs 8) bo ep1 ep3 _ ec1 ec3 dp1 dp3 dm1 dm3 dc1 dc3 es d _ (unhide hn1) (by have := unhide hn1; have := unhide HFew; omega) (unhide D5) (unhide E5) (unhide hd1) (unhide hd3) (unhide C5) (unhide B5)).mono ?_
  rintro e W6 ⟨rfl, hb6⟩
  have F6 := hide ((unhide F5).trans (hb6.mono (unhide F5).size))
  clear hb6
  go_wp2
  go_ret
  exact ⟨rfl, unhide F6⟩

set_option maxRecDepth 100000 in
theorem lifted (os : Os) (started : os.Started) (H : Type) (enc : TypeId × Value → H) :
    ReturnsInHanded {} Try.checked os 4 .any (Rows.wireReadsMsgSpec.pre6 enc Try.prog Try.f4 Rows.wireReadsMsgRow.domain false) (Rows.wireReadsMsgSpec.post enc Try.prog Try.f4 false true false false) := by
  refine returnsInHanded_of_change_sized (C := Try.checked) own started (by kernel_rfl) Try.func4
    (ChangeSpec.witness6 (enc := enc) (C := Try.checked) false ⟨#[], #[.slice none 0 0], []⟩ 8 (by kernel_rfl) (by kernel_rfl) (by kernel_rfl) (by kernel_rfl)) ?_
  intro W base args ds gs before hval0 hW hcnd hsz _
  have hval : ∀ (j : Nat) t v, Try.f4.params[j]? = some t → args[j]? = some v → Value.okWide Try.prog W .any base t v := hval0
  have hW' := hW
  obtain ⟨p, q, hA0, hV, rfl, hfz, hnd⟩ := hW
  have hA : DataW.TrodAll enc Try.prog W 0 (fun _ => true) true Try.f4.params.toList args.toList ds p := hA0
  rw [Try.params4] at hA hval
  obtain ⟨v0, vs0, d0, ds0, p0, q0, hargs, rfl, rfl, h0, r0⟩ := trodAll_cons hA
  obtain ⟨rfl, rfl, rfl⟩ := trodAll_nil r0
  obtain rfl : args = #[v0] := by cases args; simp_all
  obtain ⟨rfl, rfl⟩ := trodVars_none hV
  obtain ⟨a0, len0, c0, rfl⟩ := okWide_slice Try.underlying24 (hval 0 24 v0 rfl rfl)
  have k0 := h0
  have lt0 : ∀ x ∈ p0, x.block < W.heap.size := by obtain ⟨m, hm⟩ := k0; exact DataW.trod_lt m _ _ _ hm
  obtain ⟨l0, rfl, hc0, hx0, hb0, hz0, hr0⟩ := row8 h0
  clear hA0 hval0
  have hm0 : c0 ≤ 140737488355328 := reach8 hsz (j := 0) (d := d0) rfl rfl hr0
  refine (walk a0 c0 l0 W hc0 hm0 hb0 hz0).mono fun e W' ⟨he, bel⟩ => ?_
  subst he
  exact ⟨_, rfl, _, _, _, [], _, [], hW', trodAll_mk1 (shut_bool Try.underlying4 _), (trodAll_cons_mk (Below.trod laidOut (by kernel_rfl) (of_decide_eq_true (by kernel_rfl)) k0 bel lt0) trodAll_mk0), rfl, bel.frame _, fun h => by cases h⟩

theorem proved : Rows.WireReadsMsgSaid :=
  OpenClaim.holds_of_wide 4 Try.f4 rfl rfl rfl rfl rfl rfl rfl ⟨rfl, rfl, rfl, rfl, rfl⟩ rfl rfl rfl rfl rfl (by kernel_rfl) Try.func4 (by kernel_rfl)
    (of_decide_eq_true (by kernel_rfl)) (by unfold Func.isWrapper; first | (rw [if_pos (by decide +kernel)]; kernel_rfl) | (rw [if_neg (by decide +kernel)]; exact ⟨rfl, rfl⟩))
    (fun os started H enc _ => lifted os started H enc)
end Go.Proofs.Ytcficfjgddjeeab.wireReadsMsg
namespace Go.Proofs.Ytcficfjgddjeeab
theorem wireReadsMsg_holds : Rows.WireReadsMsgSaid := wireReadsMsg.proved
#print axioms wireReadsMsg_holds
end Go.Proofs.Ytcficfjgddjeeab
