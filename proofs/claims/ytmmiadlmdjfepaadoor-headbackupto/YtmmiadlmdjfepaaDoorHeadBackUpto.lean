/- What is written of a head is parsed as it was, whatever stands behind it: tollgatelaw09.HeadBack answers true, for all heads and bytes of the bound of the second form. The tables of the library's are as the card ties them (lz_of). -/
import Derived.Test.YtmmiadlmdjfepaaDoorHdu
import Derived.Test.YtmmiadlmdjfepaaDoorHdr
import Derived.Test.YtmmiadlmdjfepaaDoorLzu
import Derived.Test.YtmmiadlmdjfepaaDoorApp
import Derived.Test.YtmmiadlmdjfepaaDoorTie
import Derived.Test.YtmmiadlmdjfepaaDoorCards
import Derived.Lay
import Derived.MakeChecks
import Derived.SevenTiedAt
import Derived.Stop.Joined
import Derived.Test.YtmmiadlmdjfepaaDoorBulk
import Derived.JoinedCond
namespace Go.Proofs.YtmmiadlmdjfepaaDoor.headBackUpto
open Go.ChangeShapes Go.WideShapes Go.ChangeAt Go.RowKit
set_option linter.unusedVariables false

theorem own : ownKnob Tryd.prog.godebug = none := by kernel_rfl
theorem laidOut : laidOutB Tryd.prog = true := by kernel_rfl

theorem got_ok {t : Tx} {h : Hd} {k : Nat} {e : Ending} {W : World} (hp : parseL t = .ok h k) (hr : ParseRes t e W) : ∃ sp cc, e = .returned (.tuple #[.agg #[.string (stS h.method), .string (stS h.path), .string (stS h.query), .string (stS h.host), .slice sp h.fields.length cc], .int .i64 (k : Int), .int .i64 0]) ∧ FdsAt W sp h.fields := by
  unfold ParseRes at hr
  rw [hp] at hr
  obtain ⟨sp, cc, h1, h2, _⟩ := hr
  exact ⟨sp, cc, h1, h2⟩
theorem own_nil {base : Nat} {w : World} {sp : Option Addr} {c : Nat} {l : List Nat} (h : OwnB base w sp c l) : sp = none → c = 0 := by
  intro e
  subst e
  rcases h.owns.2 with ⟨hv, _⟩ | ⟨g, cap, cur, hv, _⟩
  · simp only [Value.slice.injEq] at hv; exact hv.2.2
  · simp at hv
theorem txN_app (a b : List Nat) : txN (a ++ b) = txN a ++ txN b := by unfold txN; exact List.map_append
theorem le47 {h : Hd} (hl : HdLe 1048576 h) : HdLe 140737488355328 h := hl.mono (by decide)
theorem wr47 {h : Hd} (hl : HdLe 1048576 h) : h.fields.length ≤ 32 → (writtenL h).length ≤ 140737488355328 := fun hk => by
  have := written_bound hl 32 hk
  omega
set_option maxRecDepth 20000 in
set_option maxHeartbeats 8000000 in
theorem walk (h : Hd) (sp : Option Addr) (c : Nat) (a2 : Option Addr) (c2 : Nat) (l2 : List Nat) (w : World) (hF : FdsAt w sp h.fields) (hl : HdLe 1048576 h) (hc2 : l2.length ≤ c2) (hm2 : c2 ≤ 1048576) (hb2 : BytesAt w a2 l2) (hz2 : a2 = none → c2 = 0) (hLz : Lz w) :
    Calls Tryd.prog 5 #[hdVal h sp c, .slice a2 l2.length c2] w fun e w' => e = .returned (.bool true) ∧ Below w.heap.size w w' := by
  have B1 := hide (show Below w.heap.size w (w.alloc (.cells #[.string (stS h.method), .string (stS h.path), .string (stS h.query), .string (stS h.host), .slice sp h.fields.length c] 25)) from (Below.refl _ _).alloc (Nat.le_refl _) _)
  have X1 := hide (heap_new w (.cells #[.string (stS h.method), .string (stS h.path), .string (stS h.query), .string (stS h.host), .slice sp h.fields.length c] 25))
  have k0 := box_cell (unhide X1) 0 _ rfl
  have k1 := box_cell (unhide X1) 1 _ rfl
  have k2 := box_cell (unhide X1) 2 _ rfl
  have k3 := box_cell (unhide X1) 3 _ rfl
  have k4 := box_cell (unhide X1) 4 _ rfl
  have LV := hide (show ∀ U, Below w.heap.size w U → Calls Tryd.prog 12 #[] U fun e w' => e = .returned (.bool true) ∧ Below U.heap.size U w' from fun U hb => live9_calls U (hLz.later hb))
  have WC := hide (fun U (hu : Below w.heap.size w U) => write_calls h sp c U (hF.later hu) (le47 hl) (wr47 hl))
  cases hw : writeL h with
  | bad n =>
    have WC2 := hide (show ∀ U, Below w.heap.size w U → Calls Tryd.prog 14 #[hdVal h sp c] U fun e w' => e = .returned (.tuple #[.slice none 0 0, .int .i64 (n : Int)]) ∧ Below U.heap.size U w' from fun U hu => (unhide WC U hu).mono fun e w' he => by
      obtain ⟨h1, h2⟩ := he
      unfold WriteEnd at h1
      rw [hw] at h1
      exact ⟨h1, h2⟩)
    have hn : ((n : Int) == 0) = false := by
      unfold writeL at hw
      have : n = 4 ∨ n = 6 := by
        split at hw
        · split at hw
          · cases hw; exact .inr rfl
          · split at hw
            · cases hw; exact .inr rfl
            · cases hw
        · cases hw; exact .inl rfl
      rcases this with rfl | rfl <;> rfl
    clear hw WC hF hl hLz hb2
    unfold hdVal at WC2 ⊢
    go_enter Tryd.func5, Tryd.ntmps5
    go_wp2_with (first
      | (go_at_call 14; refine (unhide WC2 _ (unhide B1)).mono ?_; rintro e W1 ⟨rfl, hb1⟩; have H1 := chain B1 hb1)
      | (go_at_call 12; refine (unhide LV _ (unhide H1)).mono ?_; rintro e W2 ⟨rfl, hb2⟩; have H2 := chain H1 hb2))
    go_ret
    exact ⟨rfl, unhide H2⟩
  | ok b =>
    have WC2 := hide (show ∀ U, Below w.heap.size w U → Calls Tryd.prog 14 #[hdVal h sp c] U fun e w' => (∃ g k, e = .returned (.tuple #[.slice (some ⟨g, 0, none⟩) b.length k, .int .i64 0]) ∧ BytesAt w' (some ⟨g, 0, none⟩) (numsT b)) ∧ Below U.heap.size U w' from fun U hu => (unhide WC U hu).mono fun e w' he => by
      obtain ⟨h1, h2⟩ := he
      unfold WriteEnd at h1
      rw [hw] at h1
      obtain ⟨g, k, h3, h4⟩ := h1
      exact ⟨⟨g, k, h3, h4.bytes⟩, h2⟩)
    have hbl : b.length ≤ 2048 := by obtain ⟨_, _, h3, rfl⟩ := write_ok hw; exact h3
    have PB := hide (show ∀ t, parseL (b ++ t) = .ok h b.length from fun t => write_back hw t)
    have NB := hide (numsT_len b)
    have NE := hide (show ∀ l, txN ([] ++ numsT b ++ l) = b ++ txN l from fun l => by rw [List.nil_append, txN_app, numsT_tx])
    have SC := hide (fun U (hu : Below w.heap.size w U) sp' c' (h' : FdsAt U sp' h.fields) => sameH_calls c' c h' (hF.later hu) (hl.mono (by decide)))
    have HB := hide hb2
    have HZ := hide hz2
    have HL := hide (show ∀ U, Below w.heap.size w U → Lz U from fun U hu => hLz.later hu)
    generalize hn2 : l2.length = n2 at *
    have HN2 := hide hn2
    clear hw WC hF hl hLz hb2 hn2 hz2
    unfold hdVal at WC2 SC ⊢
    generalize b.length = nb at *
    go_enter Tryd.func5, Tryd.ntmps5
    go_wp2_with (first
      | (go_at_call 14; refine (unhide WC2 _ (unhide B1)).mono ?_; rintro e W1 ⟨⟨g, k, rfl, hy⟩, hb1⟩; have H1 := chain B1 hb1
         have k0b := cell_later hb1 k0; have k1b := cell_later hb1 k1; have k2b := cell_later hb1 k2; have k3b := cell_later hb1 k3; have k4b := cell_later hb1 k4
         have b2 : Below W1.heap.size W1 (W1.alloc (.cells #[] 5)) := (Below.refl _ _).alloc (Nat.le_refl _) _
         have Y2 := hide (hy.later b2)
         have O2 := hide (OwnB.empty W1 W1.heap.size (Nat.le_refl _))
         have Q2 := hide b2.size
         have B2 := hide b2
         clear hy b2 hb1)
      | (at_builtin; have hV : Q2 = Q2 := rfl; clear hV; refine wpList_append8 rfl (.tmp 24) (.tmp 25) rfl W1.heap.size (some ⟨W1.heap.size, 0, none⟩) 0 0 [] rfl rfl (by exact unhide O2) (some ⟨g, 0, none⟩) nb k rfl (numsT b) (unhide NB) (by exact unhide Y2) (fun h => by cases h) (by simp only [List.length_nil]; omega) (by exact unhide Q2) ?_; intro sp1 n1 c1 W2 hn1 ho1 hg1 hx1; clear hg1 Q2
         have B3 := hide ((unhide B2).trans hx1)
         have Y3 := hide (show BytesAt W2 a2 l2 from ((unhide HB).later (unhide H1)).later (unhide B3))
         have Q3 := hide (unhide B3).size
         have O3 := hide ho1
         have HS1 := hide (show n1 = nb by rw [← unhide hn1, List.nil_append, unhide NB])
         clear ho1 hx1)
      | (at_builtin; have hV : Q3 = Q3 := rfl; clear hV; refine wpList_append8 rfl (.tmp 26) (.tmp 27) rfl W1.heap.size sp1 n1 c1 ([] ++ numsT b) rfl (unhide hn1) (by exact unhide O3) a2 n2 c2 rfl l2 (unhide HN2) (by exact unhide Y3) (unhide HZ) (by rw [unhide hn1, unhide HS1]; omega) (by exact unhide Q3) ?_; intro sp2 nn2 cc2 W3 hn3 ho3 hg3 hx3; clear hg3 Q3
         have B4 := hide ((unhide B3).trans hx3)
         have H4 := hide ((unhide H1).trans ((unhide B4).mono (unhide H1).size))
         have PC := hide (parse_calls sp2 nn2 cc2 ([] ++ numsT b ++ l2) W3 (unhide hn3) (by rw [← unhide hn3]; exact ho3.cap.1) ho3.bytes (own_nil ho3) (unhide HL _ (unhide H4)))
         rw [unhide NE] at PC
         have C4 := hide (show ∀ i v, W1.cell? ⟨w.heap.size, i, none⟩ = some v → W3.cell? ⟨w.heap.size, i, none⟩ = some v from fun i v hv => cell_later (unhide B4) hv)
         clear ho3 hx3)
      | (go_at_call 10; refine (unhide PC).mono ?_; rintro e W4 ⟨he4, hb4⟩
         obtain ⟨sp4, cc4, rfl, hf4⟩ := got_ok (unhide PB _) he4
         have H5 := chain H4 hb4
         have H6 := hide ((unhide H5).alloc (unhide H5).size (.cells #[.string (stS h.method), .string (stS h.path), .string (stS h.query), .string (stS h.host), .slice sp4 h.fields.length cc4] 25))
         have F6 := hide (hf4.later ((Below.refl W4.heap.size W4).alloc (Nat.le_refl _) (.cells #[.string (stS h.method), .string (stS h.path), .string (stS h.query), .string (stS h.host), .slice sp4 h.fields.length cc4] 25)))
         have X6 := heap_new W4 (.cells #[.string (stS h.method), .string (stS h.path), .string (stS h.query), .string (stS h.host), .slice sp4 h.fields.length cc4] 25)
         have C6 := hide (show ∀ i v, W1.cell? ⟨w.heap.size, i, none⟩ = some v → (W4.alloc (.cells #[.string (stS h.method), .string (stS h.path), .string (stS h.query), .string (stS h.host), .slice sp4 h.fields.length cc4] 25)).cell? ⟨w.heap.size, i, none⟩ = some v from fun i v hv => cell_later ((Below.refl W4.heap.size W4).alloc (Nat.le_refl _) _) (cell_later hb4 (unhide C4 i v hv)))
         have D6 := hide (show ∀ i v, #[.string (stS h.method), .string (stS h.path), .string (stS h.query), .string (stS h.host), .slice sp4 h.fields.length cc4][i]? = some v → (W4.alloc (.cells #[.string (stS h.method), .string (stS h.path), .string (stS h.query), .string (stS h.host), .slice sp4 h.fields.length cc4] 25)).cell? ⟨W4.heap.size, i, none⟩ = some v from fun i v hv => box_cell X6 i v hv)
         clear he4 hb4 hf4 X6)
      | (go_at_call 12; refine (unhide LV _ (unhide H6)).mono ?_; rintro e W5 ⟨rfl, hb5⟩; have H7 := chain H6 hb5
         have F7 := hide ((unhide F6).later hb5)
         have p0 := cell_later hb5 (unhide C6 0 _ k0b)
         have p1 := cell_later hb5 (unhide C6 1 _ k1b)
         have p2 := cell_later hb5 (unhide C6 2 _ k2b)
         have p3 := cell_later hb5 (unhide C6 3 _ k3b)
         have p4 := cell_later hb5 (unhide C6 4 _ k4b)
         have r0 := cell_later hb5 (unhide D6 0 _ rfl)
         have r1 := cell_later hb5 (unhide D6 1 _ rfl)
         have r2 := cell_later hb5 (unhide D6 2 _ rfl)
         have r3 := cell_later hb5 (unhide D6 3 _ rfl)
         have r4 := cell_later hb5 (unhide D6 4 _ rfl)
         clear hb5)
      | (go_at_call 13; refine (unhide SC _ (unhide H7) _ _ (unhide F7)).mono ?_; rintro e W6 ⟨rfl, hb6⟩; have H8 := chain H7 hb6))
    go_ret
    exact ⟨rfl, unhide H8⟩

set_option maxRecDepth 100000 in
theorem lifted (os : Os) (started : os.Started) (H : Type) (enc : TypeId × Value → H) (F : Stop.Interp) :
    ReturnsInHanded {} Tryd.checked os 5 .any ((Rows.OpenSpec.upto Rows.headBackSpec).preRow enc Tryd.prog Tryd.f5 Rows.headBackUptoRow.domain false Rows.headBackUptoRow.laid) (((Rows.OpenSpec.upto Rows.headBackSpec).at F).post enc Tryd.prog Tryd.f5 false true false false) := by
  refine returnsInHanded_of_row (C := Tryd.checked) (s := Rows.OpenSpec.upto Rows.headBackSpec) own started (by kernel_rfl) Tryd.func5
    (witness_rowZ (enc := enc) (C := Tryd.checked) (World.laidAll Tryd.prog os Rows.headBackUptoRow.laid) #[.agg #[.string ⟨#[]⟩, .string ⟨#[]⟩, .string ⟨#[]⟩, .string ⟨#[]⟩, .slice none 0 0], .slice none 0 0] (World.laidAll_os _ _ _) (World.shaped_of_ZipB (by kernel_rfl) (by kernel_rfl)) (by kernel_rfl)
      (OpenSpec.preRow_of_cond 8 (x := ([.agg [.lit (.string []), .lit (.string []), .lit (.string []), .lit (.string []), .nil], .nil], [], [])) (by kernel_rfl) (by kernel_rfl) (fun k hk => by cases hk; kernel_rfl) (by kernel_rfl)
        (by rw [MakeChecks.laidMetH_plain _ _ _ (by kernel_rfl)]; exact laidMet_laidAll _ (by kernel_rfl) (by kernel_rfl)))) ?_
  intro W base args ds gs before hval0 hW hcnd hcond hsz hL hsh _
  have hk := hcond _ rfl
  have hLz : Lz W := lz_of (by rw [MakeChecks.laidMetH_plain _ _ _ (by kernel_rfl)] at hL; exact hL) hsh
  have hval : ∀ (j : Nat) t v, Tryd.f5.params[j]? = some t → args[j]? = some v → Value.okWide Tryd.prog W .any base t v := hval0
  have hW' := hW
  obtain ⟨p, q, hA0, hV, rfl, hfz, hnd⟩ := hW
  have hA : DataW.TrodAll enc Tryd.prog W 0 (fun _ => true) true Tryd.f5.params.toList args.toList ds p := hA0
  rw [Tryd.params5] at hA hval
  obtain ⟨v0, vs0, d0, ds0, p0, q0, hargs, rfl, rfl, h0, r0⟩ := trodAll_cons hA
  obtain ⟨v1, vs1, d1, ds1, p1, q1, rfl, rfl, rfl, h1, r1⟩ := trodAll_cons r0
  obtain ⟨rfl, rfl, rfl⟩ := trodAll_nil r1
  obtain rfl : args = #[v0, v1] := by cases args; simp_all
  obtain ⟨rfl, rfl⟩ := trodVars_none hV
  have k0 := h0
  have lt0 : ∀ x ∈ p0, x.block < W.heap.size := by obtain ⟨m, hm⟩ := k0; exact DataW.trod_lt m _ _ _ hm
  obtain ⟨e0, a0, c0, rfl, hc0, hF0, hu0, hm0⟩ := open_head (hval 0 25 v0 rfl rfl) h0
  have hl0 : HdLe 1048576 e0 := hu0.mono (Nat.le_trans (bulk_mem (List.mem_append_left _ (by simp : d0 ∈ [d0, _]))) (bulk_bound hk))
  obtain ⟨a1, len1, c1, rfl⟩ := okWide_slice Tryd.underlying22 (hval 1 22 v1 rfl rfl)
  have k1 := h1
  have lt1 : ∀ x ∈ p1, x.block < W.heap.size := by obtain ⟨m, hm⟩ := k1; exact DataW.trod_lt m _ _ _ hm
  obtain ⟨l1, rfl, hc1, hx1, hb1, hz1, hr1⟩ := row8 h1
  clear hA0 hval0
  have hm1 := bulk8 hk (List.mem_append_left _ (by simp : d1 ∈ [_, d1])) hr1
  refine (walk e0 a0 c0 a1 c1 l1 W hF0 hl0 hc1 hm1 hb1 hz1 hLz).mono fun e W' ⟨he, bel⟩ => ?_
  subst he
  exact ⟨_, rfl, _, _, _, [], _, [], hW', trodAll_mk1 (shut_bool Tryd.underlying4 _), (trodAll_cons_mk (Below.trod laidOut (by kernel_rfl) (of_decide_eq_true (by kernel_rfl)) k0 bel lt0) (trodAll_cons_mk (Below.trod laidOut (by kernel_rfl) (of_decide_eq_true (by kernel_rfl)) k1 bel lt1) trodAll_mk0)), rfl, bel.frame _, fun h => by cases h⟩

theorem proved : Rows.HeadBackUptoSaid :=
  OpenClaim.holds_of_cond 5 Tryd.f5 rfl rfl rfl rfl rfl rfl rfl ⟨rfl, rfl, rfl, rfl, rfl⟩ rfl rfl rfl rfl rfl (by kernel_rfl) Tryd.func5 (by kernel_rfl)
    (of_decide_eq_true (by kernel_rfl)) (by unfold Func.isWrapper; first | (rw [if_pos (by decide +kernel)]; kernel_rfl) | (rw [if_neg (by decide +kernel)]; exact ⟨rfl, rfl⟩))
    (fun os started H enc _ F => by rw [OpenClaim.pre_eq_preRow]; exact lifted os started H enc F)
theorem card : Rows.HeadBackUptoCardSaid :=
  Claim7.holds_tied_plain_at .later [] _ _ _ _ proved (fun _ h => by cases h) (by kernel_rfl) (fun _ h => by cases h) headBackUpto_row_tie rfl ⟨rfl, rfl⟩ (by kernel_rfl) rfl
    (fun f fn hf hfn => by
      obtain rfl : f = 5 := Option.some.inj ((show Tryd.prog.funcNamed "tollgate/tollgatelaw09.HeadBack" = some 5 by kernel_rfl).symm.trans hf) |>.symm
      obtain rfl : fn = Tryd.f5 := (Option.some.inj (Tryd.func5.symm.trans hfn)).symm
      exact ⟨by kernel_rfl, fun j t ht => by
        rw [Tryd.params5] at ht
        have hm : t ∈ [25, 22] := by simpa using Array.mem_of_getElem? ht
        have hall : ([25, 22].all fun u => !Tryd.prog.wantsStandIn u) = true := by kernel_rfl
        exact (show Tryd.prog.wantsStandIn t = false by simpa using List.all_eq_true.1 hall t hm)⟩)
    (by kernel_rfl)
end Go.Proofs.YtmmiadlmdjfepaaDoor.headBackUpto
namespace Go.Proofs.YtmmiadlmdjfepaaDoor
theorem headBackUpto_holds : Rows.HeadBackUptoCardSaid := headBackUpto.card
#print axioms headBackUpto_holds
end Go.Proofs.YtmmiadlmdjfepaaDoor
