/- A head's bytes, or the error, and the host of a text are just what the document says: tollgatelaw09.HeadWrites answers true, for all heads and texts of the bound of the second form. The tables of the library's are as the card ties them (lz_of). -/
import Derived.Test.YtmmiadlmdjfepaaDoorHw2
import Derived.Test.YtmmiadlmdjfepaaDoorLzu
import Derived.Test.YtmmiadlmdjfepaaDoorHdf
import Derived.Test.YtmmiadlmdjfepaaDoorTie
import Derived.Test.YtmmiadlmdjfepaaDoorCards
import Derived.Lay
import Derived.MakeChecks
import Derived.SevenTiedAt
import Derived.Stop.Joined
import Derived.Test.YtmmiadlmdjfepaaDoorBulk
import Derived.JoinedCond
namespace Go.Proofs.YtmmiadlmdjfepaaDoor.headWritesUpto
open Go.ChangeShapes Go.WideShapes Go.ChangeAt Go.RowKit
set_option linter.unusedVariables false

theorem own : ownKnob Tryd.prog.godebug = none := by kernel_rfl
theorem laidOut : laidOutB Tryd.prog = true := by kernel_rfl

theorem le47 {h : Hd} (hl : HdLe 1048576 h) : HdLe 140737488355328 h := hl.mono (by decide)
theorem wr47 {h : Hd} (hl : HdLe 1048576 h) : h.fields.length ≤ 32 → (writtenL h).length ≤ 140737488355328 := fun hk => by
  have := written_bound hl 32 hk
  omega
/-- What a writer answers: bytes and an error. -/
theorem wv_of (h : Hd) : ∃ (n : Nat) (l : List Nat) (er : Int), l.length = n ∧ n ≤ 2048 ∧ ∀ B ed W, WriteEnd h B ed W → ∃ sp c, ed = .returned (.tuple #[.slice sp n c, .int .i64 er]) ∧ BytesAt W sp l := by
  cases hw : writeL h with
  | ok b =>
    obtain ⟨_, _, h3, rfl⟩ := write_ok hw
    refine ⟨(writtenL h).length, numsT (writtenL h), 0, numsT_len _, h3, fun B ed W hr => ?_⟩
    unfold WriteEnd at hr
    rw [hw] at hr
    obtain ⟨g, k, h1, h2⟩ := hr
    exact ⟨some ⟨g, 0, none⟩, k, h1, h2.bytes⟩
  | bad n =>
    refine ⟨0, [], n, rfl, by omega, fun B ed W hr => ?_⟩
    unfold WriteEnd at hr
    rw [hw] at hr
    exact ⟨none, 0, hr, ⟨by simp, fun i hi => by simp at hi⟩⟩
theorem hv_of (s : Tx) : ∃ (x : ByteArray) (b : Bool), hostV s = .tuple #[.string x, .bool b] ∧ x.size ≤ 64 := by
  unfold hostV
  cases hh : hostL s with
  | none => exact ⟨_, _, rfl, by decide⟩
  | some y => exact ⟨_, _, rfl, by rw [stS_size]; exact hostL_len hh⟩
set_option maxRecDepth 20000 in
set_option maxHeartbeats 8000000 in
theorem walk (h : Hd) (sp : Option Addr) (c : Nat) (s : ByteArray) (w : World) (hF : FdsAt w sp h.fields) (hl : HdLe 1048576 h) (hs0 : s.size ≤ maxLen) (hs1 : s.size ≤ 1048576) (hLz : Lz w) :
    Calls Tryd.prog 4 #[hdVal h sp c, .string s] w fun e w' => e = .returned (.bool true) ∧ Below w.heap.size w w' := by
  have B1 := hide (show Below w.heap.size w (w.alloc (.cells #[.string (stS h.method), .string (stS h.path), .string (stS h.query), .string (stS h.host), .slice sp h.fields.length c] 25)) from (Below.refl _ _).alloc (Nat.le_refl _) _)
  have X1 := hide (heap_new w (.cells #[.string (stS h.method), .string (stS h.path), .string (stS h.query), .string (stS h.host), .slice sp h.fields.length c] 25))
  have k0 := box_cell (unhide X1) 0 _ rfl
  have k1 := box_cell (unhide X1) 1 _ rfl
  have k2 := box_cell (unhide X1) 2 _ rfl
  have k3 := box_cell (unhide X1) 3 _ rfl
  have k4 := box_cell (unhide X1) 4 _ rfl
  have LV := hide (show ∀ U, Below w.heap.size w U → Calls Tryd.prog 12 #[] U fun e w' => e = .returned (.bool true) ∧ Below U.heap.size U w' from fun U hb => live9_calls U (hLz.later hb))
  have WC := hide (fun U (hu : Below w.heap.size w U) => write_calls h sp c U (hF.later hu) (le47 hl) (wr47 hl))
  have WR := hide (fun U (hu : Below w.heap.size w U) => writeR_calls h sp c U (hF.later hu) hl)
  have HC := hide (fun U => host_calls s hs0 U)
  have HR := hide (fun U => hostR_calls s (by omega) U)
  obtain ⟨n, l, er, hln, hn, hres⟩ := wv_of h
  obtain ⟨x, b, hv, hx⟩ := hv_of s.data.toList
  rw [hv] at HC HR
  have RS := hide hres
  have HN := hide hln
  have hxx : (x.toList == x.toList) = true := by simp
  have hx9 : x.size ≤ 9223372036854775807 := by omega
  have hst : ((strOf l).toList == (strOf l).toList) = true := by simp
  have hsz : (strOf l).size ≤ 9223372036854775807 := by rw [strOf_tx, stS_size, txN_len, hln]; omega
  clear hF hl hLz hv hres hln X1
  unfold hdVal at WC WR ⊢
  go_enter Tryd.func4, Tryd.ntmps4
  go_wp2_with (first
    | (go_at_call 14; refine (unhide WC _ (unhide B1)).mono ?_; rintro e W1 ⟨he1, hb1⟩
       obtain ⟨sp1, c1, rfl, y1⟩ := unhide RS _ _ _ he1
       have H1 := chain B1 hb1
       have Y1 := hide y1
       have p0 := cell_later hb1 k0
       have p1 := cell_later hb1 k1
       have p2 := cell_later hb1 k2
       have p3 := cell_later hb1 k3
       have p4 := cell_later hb1 k4
       clear he1 hb1 y1)
    | (go_at_call 15; refine (unhide WR _ (unhide H1)).mono ?_; rintro e W2 ⟨he2, hb2⟩
       obtain ⟨sp2, c2, rfl, y2⟩ := unhide RS _ _ _ he2
       have H2 := chain H1 hb2
       have Y2 := hide y2
       have Z2 := hide ((unhide Y1).later hb2)
       clear he2 hb2 y2)
    | (go_at_call 16; refine (unhide HC _).mono ?_; rintro e W3 ⟨rfl, hb3⟩
       have H3 := chain H2 hb3
       have Y3 := hide ((unhide Y2).later hb3)
       have Z3 := hide ((unhide Z2).later hb3)
       clear hb3)
    | (go_at_call 17; refine (unhide HR _).mono ?_; rintro e W4 ⟨rfl, hb4⟩
       have H4 := chain H3 hb4
       have Y4 := hide ((unhide Y3).later hb4)
       have Z4 := hide ((unhide Z3).later hb4)
       clear hb4)
    | (go_at_call 12; refine (unhide LV _ (unhide H4)).mono ?_; rintro e W5 ⟨rfl, hb5⟩
       have H5 := chain H4 hb5
       have hk1 := run_string8 (w := W5) n c1 (unhide HN) ((unhide Z4).later hb5)
       have hk2 := run_string8 (w := W5) n c2 (unhide HN) ((unhide Y4).later hb5)
       clear hb5))
  go_ret
  exact ⟨rfl, unhide H5⟩

set_option maxRecDepth 100000 in
theorem lifted (os : Os) (started : os.Started) (H : Type) (enc : TypeId × Value → H) (F : Stop.Interp) :
    ReturnsInHanded {} Tryd.checked os 4 .any ((Rows.OpenSpec.upto Rows.headWritesSpec).preRow enc Tryd.prog Tryd.f4 Rows.headWritesUptoRow.domain false Rows.headWritesUptoRow.laid) (((Rows.OpenSpec.upto Rows.headWritesSpec).at F).post enc Tryd.prog Tryd.f4 false true false false) := by
  refine returnsInHanded_of_row (C := Tryd.checked) (s := Rows.OpenSpec.upto Rows.headWritesSpec) own started (by kernel_rfl) Tryd.func4
    (witness_rowZ (enc := enc) (C := Tryd.checked) (World.laidAll Tryd.prog os Rows.headWritesUptoRow.laid) #[.agg #[.string ⟨#[]⟩, .string ⟨#[]⟩, .string ⟨#[]⟩, .string ⟨#[]⟩, .slice none 0 0], .string ⟨#[]⟩] (World.laidAll_os _ _ _) (World.shaped_of_ZipB (by kernel_rfl) (by kernel_rfl)) (by kernel_rfl)
      (OpenSpec.preRow_of_cond 8 (x := ([.agg [.lit (.string []), .lit (.string []), .lit (.string []), .lit (.string []), .nil], .lit (.string [])], [], [])) (by kernel_rfl) (by kernel_rfl) (fun k hk => by cases hk; kernel_rfl) (by kernel_rfl)
        (by rw [MakeChecks.laidMetH_plain _ _ _ (by kernel_rfl)]; exact laidMet_laidAll _ (by kernel_rfl) (by kernel_rfl)))) ?_
  intro W base args ds gs before hval0 hW hcnd hcond hsz hL hsh _
  have hk := hcond _ rfl
  have hLz : Lz W := lz_of (by rw [MakeChecks.laidMetH_plain _ _ _ (by kernel_rfl)] at hL; exact hL) hsh
  have hval : ∀ (j : Nat) t v, Tryd.f4.params[j]? = some t → args[j]? = some v → Value.okWide Tryd.prog W .any base t v := hval0
  have hW' := hW
  obtain ⟨p, q, hA0, hV, rfl, hfz, hnd⟩ := hW
  have hA : DataW.TrodAll enc Tryd.prog W 0 (fun _ => true) true Tryd.f4.params.toList args.toList ds p := hA0
  rw [Tryd.params4] at hA hval
  obtain ⟨v0, vs0, d0, ds0, p0, q0, hargs, rfl, rfl, h0, r0⟩ := trodAll_cons hA
  obtain ⟨v1, vs1, d1, ds1, p1, q1, rfl, rfl, rfl, h1, r1⟩ := trodAll_cons r0
  obtain ⟨rfl, rfl, rfl⟩ := trodAll_nil r1
  obtain rfl : args = #[v0, v1] := by cases args; simp_all
  obtain ⟨rfl, rfl⟩ := trodVars_none hV
  have k0 := h0
  have lt0 : ∀ x ∈ p0, x.block < W.heap.size := by obtain ⟨m, hm⟩ := k0; exact DataW.trod_lt m _ _ _ hm
  obtain ⟨e0, a0, c0, rfl, hc0, hF0, hu0, hm0⟩ := open_head (hval 0 25 v0 rfl rfl) h0
  have hl0 : HdLe 1048576 e0 := hu0.mono (Nat.le_trans (bulk_mem (List.mem_append_left _ (by simp : d0 ∈ [d0, _]))) (bulk_bound hk))
  obtain ⟨n1, rfl, rfl, rfl, hn1⟩ := ChangeMaps.open_string Tryd.underlying9 (hval 1 9 v1 rfl rfl) h1
  have hr1 : n1.size ≤ 1048576 := by
    have := Nat.le_trans (bulk_mem (List.mem_append_left _ (by simp : (DataW.lit (.string n1.data.toList) : DataW H) ∈ [_, DataW.lit (.string n1.data.toList)]))) (bulk_bound hk)
    simp [Rows.uptoBulk] at this
    omega
  clear hA0 hval0
  refine (walk e0 a0 c0 n1 W hF0 hl0 hn1 hr1 hLz).mono fun e W' ⟨he, bel⟩ => ?_
  subst he
  exact ⟨_, rfl, _, _, _, [], _, [], hW', trodAll_mk1 (shut_bool Tryd.underlying4 _), (trodAll_cons_mk (Below.trod laidOut (by kernel_rfl) (of_decide_eq_true (by kernel_rfl)) k0 bel lt0) (trodAll_cons_mk (ChangeMaps.shut_string Tryd.underlying9 hn1) trodAll_mk0)), rfl, bel.frame _, fun h => by cases h⟩

theorem proved : Rows.HeadWritesUptoSaid :=
  OpenClaim.holds_of_cond 4 Tryd.f4 rfl rfl rfl rfl rfl rfl rfl ⟨rfl, rfl, rfl, rfl, rfl⟩ rfl rfl rfl rfl rfl (by kernel_rfl) Tryd.func4 (by kernel_rfl)
    (of_decide_eq_true (by kernel_rfl)) (by unfold Func.isWrapper; first | (rw [if_pos (by decide +kernel)]; kernel_rfl) | (rw [if_neg (by decide +kernel)]; exact ⟨rfl, rfl⟩))
    (fun os started H enc _ F => by rw [OpenClaim.pre_eq_preRow]; exact lifted os started H enc F)
theorem card : Rows.HeadWritesUptoCardSaid :=
  Claim7.holds_tied_plain_at .later [] _ _ _ _ proved (fun _ h => by cases h) (by kernel_rfl) (fun _ h => by cases h) headWritesUpto_row_tie rfl ⟨rfl, rfl⟩ (by kernel_rfl) rfl
    (fun f fn hf hfn => by
      obtain rfl : f = 4 := Option.some.inj ((show Tryd.prog.funcNamed "tollgate/tollgatelaw09.HeadWrites" = some 4 by kernel_rfl).symm.trans hf) |>.symm
      obtain rfl : fn = Tryd.f4 := (Option.some.inj (Tryd.func4.symm.trans hfn)).symm
      exact ⟨by kernel_rfl, fun j t ht => by
        rw [Tryd.params4] at ht
        have hm : t ∈ [25, 9] := by simpa using Array.mem_of_getElem? ht
        have hall : ([25, 9].all fun u => !Tryd.prog.wantsStandIn u) = true := by kernel_rfl
        exact (show Tryd.prog.wantsStandIn t = false by simpa using List.all_eq_true.1 hall t hm)⟩)
    (by kernel_rfl)
end Go.Proofs.YtmmiadlmdjfepaaDoor.headWritesUpto
namespace Go.Proofs.YtmmiadlmdjfepaaDoor
theorem headWritesUpto_holds : Rows.HeadWritesUptoCardSaid := headWritesUpto.card
#print axioms headWritesUpto_holds
end Go.Proofs.YtmmiadlmdjfepaaDoor
