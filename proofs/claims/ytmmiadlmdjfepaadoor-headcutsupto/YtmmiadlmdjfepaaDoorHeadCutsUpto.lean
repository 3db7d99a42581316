/- A head that is cut short is ErrShort: tollgatelaw09.HeadCuts answers true, for all heads of the bound of the second form and all places. The tables of the library's are as the card ties them (lz_of). -/
import Derived.Test.YtmmiadlmdjfepaaDoorHdu
import Derived.Test.YtmmiadlmdjfepaaDoorHdr
import Derived.Test.YtmmiadlmdjfepaaDoorLzu
import Derived.Test.YtmmiadlmdjfepaaDoorTie
import Derived.Test.YtmmiadlmdjfepaaDoorCards
import Derived.Lay
import Derived.MakeChecks
import Derived.SevenTiedAt
import Derived.Stop.Joined
import Derived.Test.YtmmiadlmdjfepaaDoorBulk
import Derived.JoinedCond
namespace Go.Proofs.YtmmiadlmdjfepaaDoor.headCutsUpto
open Go.ChangeShapes Go.WideShapes Go.ChangeAt Go.RowKit
set_option linter.unusedVariables false

theorem own : ownKnob Tryd.prog.godebug = none := by kernel_rfl
theorem laidOut : laidOutB Tryd.prog = true := by kernel_rfl

theorem le47 {h : Hd} (hl : HdLe 1048576 h) : HdLe 140737488355328 h := hl.mono (by decide)
theorem wr47 {h : Hd} (hl : HdLe 1048576 h) : h.fields.length ≤ 32 → (writtenL h).length ≤ 140737488355328 := fun hk => by
  have := written_bound hl 32 hk
  omega
theorem wr_pos (h : Hd) : 0 < (writtenL h).length := by rw [written_len]; omega
theorem got_bad {t : Tx} {n : Nat} {e : Ending} {W : World} (hp : parseL t = .bad n) (hr : ParseRes t e W) : e = .returned (.tuple #[.agg #[.string ⟨#[]⟩, .string ⟨#[]⟩, .string ⟨#[]⟩, .string ⟨#[]⟩, .slice none 0 0], .int .i64 0, .int .i64 (n : Int)]) := by
  unfold ParseRes at hr
  rw [hp] at hr
  exact hr
def h0 : Hd := ⟨[], [], [], [], []⟩
theorem zero_fds (W : World) : FdsAt W none h0.fields := fun i hi => by simp [h0] at hi
set_option maxRecDepth 20000 in
set_option maxHeartbeats 8000000 in
theorem walk (h : Hd) (sp : Option Addr) (c : Nat) (k : Int) (w : World) (hF : FdsAt w sp h.fields) (hl : HdLe 1048576 h) (hk : -9223372036854775808 ≤ k ∧ k ≤ 9223372036854775807) (hLz : Lz w) :
    Calls Tryd.prog 7 #[hdVal h sp c, .int .i64 k] w fun e w' => e = .returned (.bool true) ∧ Below w.heap.size w w' := by
  have B1 := hide (show Below w.heap.size w (w.alloc (.cells #[.string (stS h.method), .string (stS h.path), .string (stS h.query), .string (stS h.host), .slice sp h.fields.length c] 25)) from (Below.refl _ _).alloc (Nat.le_refl _) _)
  have X1 := hide (heap_new w (.cells #[.string (stS h.method), .string (stS h.path), .string (stS h.query), .string (stS h.host), .slice sp h.fields.length c] 25))
  have k0 := box_cell (unhide X1) 0 _ rfl
  have k1 := box_cell (unhide X1) 1 _ rfl
  have k2 := box_cell (unhide X1) 2 _ rfl
  have k3 := box_cell (unhide X1) 3 _ rfl
  have k4 := box_cell (unhide X1) 4 _ rfl
  have LV := hide (show ∀ U, Below w.heap.size w U → Calls Tryd.prog 12 #[] U fun e w' => e = .returned (.bool true) ∧ Below U.heap.size U w' from fun U hb => live9_calls U (hLz.later hb))
  have WC := hide (fun U (hu : Below w.heap.size w U) => write_calls h sp c U (hF.later hu) (le47 hl) (wr47 hl))
  cases hw : writeL h with
  | bad n =>
    have WC2 := hide (show ∀ U, Below w.heap.size w U → Calls Tryd.prog 14 #[hdVal h sp c] U fun e w' => e = .returned (.tuple #[.slice none 0 0, .int .i64 (n : Int)]) ∧ Below U.heap.size U w' from fun U hu => (unhide WC U hu).mono fun e w' he => by
      obtain ⟨h1, h2⟩ := he
      unfold WriteEnd at h1
      rw [hw] at h1
      exact ⟨h1, h2⟩)
    have hn : n = 4 ∨ n = 6 := by
      unfold writeL at hw
      split at hw
      · split at hw
        · cases hw; exact .inr rfl
        · split at hw
          · cases hw; exact .inr rfl
          · cases hw
      · cases hw; exact .inl rfl
    clear hw WC hF hl hLz
    unfold hdVal at WC2 ⊢
    rcases hn with rfl | rfl
    all_goals
      go_enter Tryd.func7, Tryd.ntmps7
      go_wp2_with (first
        | (go_at_call 14; refine (unhide WC2 _ (unhide B1)).mono ?_; rintro e W1 ⟨rfl, hb1⟩; have H1 := chain B1 hb1)
        | (go_at_call 12; refine (unhide LV _ (unhide H1)).mono ?_; rintro e W2 ⟨rfl, hb2⟩; have H2 := chain H1 hb2))
      go_ret
      exact ⟨rfl, unhide H2⟩
  | ok b =>
    have WC2 := hide (show ∀ U, Below w.heap.size w U → Calls Tryd.prog 14 #[hdVal h sp c] U fun e w' => (∃ g q, e = .returned (.tuple #[.slice (some ⟨g, 0, none⟩) b.length q, .int .i64 0]) ∧ BytesAt w' (some ⟨g, 0, none⟩) (numsT b) ∧ b.length ≤ q) ∧ Below U.heap.size U w' from fun U hu => (unhide WC U hu).mono fun e w' he => by
      obtain ⟨h1, h2⟩ := he
      unfold WriteEnd at h1
      rw [hw] at h1
      obtain ⟨g, q, h3, h4⟩ := h1
      exact ⟨⟨g, q, h3, h4.bytes, by have := h4.le; rwa [numsT_len] at this⟩, h2⟩)
    have hbl : b.length ≤ 2048 ∧ 0 < b.length := by obtain ⟨_, _, h3, rfl⟩ := write_ok hw; exact ⟨h3, wr_pos h⟩
    have CS := hide (show ∀ j, j < b.length → parseL (b.take j) = .bad 3 from fun j hj => cut_short hw j hj)
    have NB := hide (numsT_len b)
    have NT := hide (show ∀ j, txN ((numsT b).take j) = b.take j from fun j => by rw [txN_take, numsT_tx])
    have SC := hide (show ∀ U, Calls Tryd.prog 13 #[.agg #[.string ⟨#[]⟩, .string ⟨#[]⟩, .string ⟨#[]⟩, .string ⟨#[]⟩, .slice none 0 0], .agg #[.string ⟨#[]⟩, .string ⟨#[]⟩, .string ⟨#[]⟩, .string ⟨#[]⟩, .slice none 0 0]] U fun e w' => e = .returned (.bool true) ∧ Below U.heap.size U w' from fun U => sameH_calls (w := U) (h := h0) 0 0 (zero_fds U) (zero_fds U) ⟨by simp [h0], by simp [h0], by simp [h0], by simp [h0], by simp [h0], by simp [h0]⟩)
    have HL := hide (show ∀ U, Below w.heap.size w U → Lz U from fun U hu => hLz.later hu)
    obtain ⟨hb1, hb2⟩ := hbl
    clear hw WC hF hl hLz
    unfold hdVal at WC2 ⊢
    generalize b.length = nb at *
    obtain ⟨N, hN, hNl⟩ := rem_nat k nb (by omega) (by omega)
    have nb0 : ((nb : Int) == 0) = false := by rw [beq_eq_false_iff_ne]; omega
    go_enter Tryd.func7, Tryd.ntmps7
    go_wp2_with fail
    refine (unhide WC2 _ (unhide B1)).mono ?_
    rintro e W1 ⟨⟨g, q, rfl, hy, hq⟩, hx1⟩
    have H1 := chain B1 hx1
    have hs := run_slice_h8 (some ⟨g, 0, none⟩) nb q N (by omega)
    have hLen : ((numsT b).take N).length = N := by rw [List.length_take, unhide NB]; omega
    have Y1 := hide (hy.head q N (by rw [unhide NB]; exact hq))
    have hmin : (N : Int) ≤ (nb : Int) := by omega
    have hmin2 : (N : Int) ≤ (q : Int) := by omega
    have hp0 : slp (some ⟨g, 0, none⟩) 0 q = none → q = 0 := fun e => by unfold slp at e; split at e <;> simp at e
    have PC := hide (parse_calls (slp (some ⟨g, 0, none⟩) 0 q) N q ((numsT b).take N) W1 hLen (by omega) (unhide Y1) hp0 (unhide HL _ (unhide H1)))
    rw [unhide NT] at PC
    have PE := hide (unhide CS N hNl)
    generalize slp (some ⟨g, 0, none⟩) 0 q = p at *
    clear hy hx1 hLen hp0
    go_wp2_with (first
      | (go_at_call 10; refine (unhide PC).mono ?_; rintro e W4 ⟨he4, hb4⟩
         obtain rfl : e = _ := got_bad (unhide PE) he4
         have H5 := chain H1 hb4
         have H6 := hide ((unhide H5).alloc (unhide H5).size (.cells #[.string ⟨#[]⟩, .string ⟨#[]⟩, .string ⟨#[]⟩, .string ⟨#[]⟩, .slice none 0 0] 25))
         have X6 := heap_new W4 (.cells #[.string ⟨#[]⟩, .string ⟨#[]⟩, .string ⟨#[]⟩, .string ⟨#[]⟩, .slice none 0 0] 25)
         have p0 := box_cell X6 0 _ rfl
         have p1 := box_cell X6 1 _ rfl
         have p2 := box_cell X6 2 _ rfl
         have p3 := box_cell X6 3 _ rfl
         have p4 := box_cell X6 4 _ rfl
         clear he4 hb4 X6)
      | (go_at_call 12; refine (unhide LV _ (unhide H6)).mono ?_; rintro e W5 ⟨rfl, hb5⟩; have H7 := chain H6 hb5
         have r0 := cell_later hb5 p0
         have r1 := cell_later hb5 p1
         have r2 := cell_later hb5 p2
         have r3 := cell_later hb5 p3
         have r4 := cell_later hb5 p4
         clear hb5)
      | (go_at_call 13; refine (unhide SC _).mono ?_; rintro e W6 ⟨rfl, hb6⟩; have H8 := chain H7 hb6))
    go_ret
    exact ⟨rfl, unhide H8⟩

set_option maxRecDepth 100000 in
theorem lifted (os : Os) (started : os.Started) (H : Type) (enc : TypeId × Value → H) (F : Stop.Interp) :
    ReturnsInHanded {} Tryd.checked os 7 .any ((Rows.OpenSpec.upto Rows.headCutsSpec).preRow enc Tryd.prog Tryd.f7 Rows.headCutsUptoRow.domain false Rows.headCutsUptoRow.laid) (((Rows.OpenSpec.upto Rows.headCutsSpec).at F).post enc Tryd.prog Tryd.f7 false true false false) := by
  refine returnsInHanded_of_row (C := Tryd.checked) (s := Rows.OpenSpec.upto Rows.headCutsSpec) own started (by kernel_rfl) Tryd.func7
    (witness_rowZ (enc := enc) (C := Tryd.checked) (World.laidAll Tryd.prog os Rows.headCutsUptoRow.laid) #[.agg #[.string ⟨#[]⟩, .string ⟨#[]⟩, .string ⟨#[]⟩, .string ⟨#[]⟩, .slice none 0 0], .int .i64 0] (World.laidAll_os _ _ _) (World.shaped_of_ZipB (by kernel_rfl) (by kernel_rfl)) (by kernel_rfl)
      (OpenSpec.preRow_of_cond 8 (x := ([.agg [.lit (.string []), .lit (.string []), .lit (.string []), .lit (.string []), .nil], .lit (.int .i64 0)], [], [])) (by kernel_rfl) (by kernel_rfl) (fun k hk => by cases hk; kernel_rfl) (by kernel_rfl)
        (by rw [MakeChecks.laidMetH_plain _ _ _ (by kernel_rfl)]; exact laidMet_laidAll _ (by kernel_rfl) (by kernel_rfl)))) ?_
  intro W base args ds gs before hval0 hW hcnd hcond hsz hL hsh _
  have hk := hcond _ rfl
  have hLz : Lz W := lz_of (by rw [MakeChecks.laidMetH_plain _ _ _ (by kernel_rfl)] at hL; exact hL) hsh
  have hval : ∀ (j : Nat) t v, Tryd.f7.params[j]? = some t → args[j]? = some v → Value.okWide Tryd.prog W .any base t v := hval0
  have hW' := hW
  obtain ⟨p, q, hA0, hV, rfl, hfz, hnd⟩ := hW
  have hA : DataW.TrodAll enc Tryd.prog W 0 (fun _ => true) true Tryd.f7.params.toList args.toList ds p := hA0
  rw [Tryd.params7] at hA hval
  obtain ⟨v0, vs0, d0, ds0, p0, q0, hargs, rfl, rfl, h0, r0⟩ := trodAll_cons hA
  obtain ⟨v1, vs1, d1, ds1, p1, q1, rfl, rfl, rfl, h1, r1⟩ := trodAll_cons r0
  obtain ⟨rfl, rfl, rfl⟩ := trodAll_nil r1
  obtain rfl : args = #[v0, v1] := by cases args; simp_all
  obtain ⟨rfl, rfl⟩ := trodVars_none hV
  have k0 := h0
  have lt0 : ∀ x ∈ p0, x.block < W.heap.size := by obtain ⟨m, hm⟩ := k0; exact DataW.trod_lt m _ _ _ hm
  obtain ⟨e0, a0, c0, rfl, hc0, hF0, hu0, hm0⟩ := open_head (hval 0 25 v0 rfl rfl) h0
  have hl0 : HdLe 1048576 e0 := hu0.mono (Nat.le_trans (bulk_mem (List.mem_append_left _ (by simp : d0 ∈ [d0, _]))) (bulk_bound hk))
  obtain ⟨n1, rfl, rfl, rfl, w1⟩ := open_int Tryd.underlying3 (hval 1 3 v1 rfl rfl) h1
  have hn1 := i64_bounds w1
  clear hA0 hval0
  refine (walk e0 a0 c0 n1 W hF0 hl0 hn1 hLz).mono fun e W' ⟨he, bel⟩ => ?_
  subst he
  exact ⟨_, rfl, _, _, _, [], _, [], hW', trodAll_mk1 (shut_bool Tryd.underlying4 _), (trodAll_cons_mk (Below.trod laidOut (by kernel_rfl) (of_decide_eq_true (by kernel_rfl)) k0 bel lt0) (trodAll_cons_mk (shut_int Tryd.underlying3 w1) trodAll_mk0)), rfl, bel.frame _, fun h => by cases h⟩

theorem proved : Rows.HeadCutsUptoSaid :=
  OpenClaim.holds_of_cond 7 Tryd.f7 rfl rfl rfl rfl rfl rfl rfl ⟨rfl, rfl, rfl, rfl, rfl⟩ rfl rfl rfl rfl rfl (by kernel_rfl) Tryd.func7 (by kernel_rfl)
    (of_decide_eq_true (by kernel_rfl)) (by unfold Func.isWrapper; first | (rw [if_pos (by decide +kernel)]; kernel_rfl) | (rw [if_neg (by decide +kernel)]; exact ⟨rfl, rfl⟩))
    (fun os started H enc _ F => by rw [OpenClaim.pre_eq_preRow]; exact lifted os started H enc F)
theorem card : Rows.HeadCutsUptoCardSaid :=
  Claim7.holds_tied_plain_at .later [] _ _ _ _ proved (fun _ h => by cases h) (by kernel_rfl) (fun _ h => by cases h) headCutsUpto_row_tie rfl ⟨rfl, rfl⟩ (by kernel_rfl) rfl
    (fun f fn hf hfn => by
      obtain rfl : f = 7 := Option.some.inj ((show Tryd.prog.funcNamed "tollgate/tollgatelaw09.HeadCuts" = some 7 by kernel_rfl).symm.trans hf) |>.symm
      obtain rfl : fn = Tryd.f7 := (Option.some.inj (Tryd.func7.symm.trans hfn)).symm
      exact ⟨by kernel_rfl, fun j t ht => by
        rw [Tryd.params7] at ht
        have hm : t ∈ [25, 3] := by simpa using Array.mem_of_getElem? ht
        have hall : ([25, 3].all fun u => !Tryd.prog.wantsStandIn u) = true := by kernel_rfl
        exact (show Tryd.prog.wantsStandIn t = false by simpa using List.all_eq_true.1 hall t hm)⟩)
    (by kernel_rfl)
end Go.Proofs.YtmmiadlmdjfepaaDoor.headCutsUpto
namespace Go.Proofs.YtmmiadlmdjfepaaDoor
theorem headCutsUpto_holds : Rows.HeadCutsUptoCardSaid := headCutsUpto.card
#print axioms headCutsUpto_holds
end Go.Proofs.YtmmiadlmdjfepaaDoor
