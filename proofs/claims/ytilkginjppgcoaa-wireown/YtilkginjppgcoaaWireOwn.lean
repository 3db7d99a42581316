/- Proved: what is got of a message's bytes is new memory: the bytes may be changed, and bytes may be put behind what was got, and all the rest stays as it was; for all messages; no condition. -/
import Derived.Test.YtilkginjppgcoaaArg
import Derived.Test.YtilkginjppgcoaaWliv
import Derived.Test.YtilkginjppgcoaaWox
import Derived.Test.YtilkginjppgcoaaPutg
import Derived.Test.YtilkginjppgcoaaTmat
import Derived.Test.YtilkginjppgcoaaMarg
import Derived.BigQuiet
namespace Go.Proofs.Ytilkginjppgcoaa.wireOwn
open Go.ChangeShapes Go.WideShapes Go.ChangeAt Go.RowKit
set_option linter.unusedVariables false

theorem own : ownKnob Try.prog.godebug = none := by kernel_rfl
theorem laidOut : laidOutB Try.prog = true := by kernel_rfl

theorem later_block {w w' : World} {j : Nat} {o : Obj} (hb : Below w.heap.size w w') (h : w.heap[j]? = some o) : w'.heap[j]? = some o := (hb.block j (Array.getElem?_eq_some_iff.1 h).1).trans h
theorem nilCap {base : Nat} {w : World} {sp : Option Addr} {c : Nat} {l : List Nat} (h : OwnB base w sp c l) : sp = none → c = 0 := by
  intro e
  subst e
  rcases h.owns.2 with ⟨hv, _⟩ | ⟨g, cap, cur, hv, _⟩
  · simp only [Value.slice.injEq] at hv; exact hv.2.2
  · cases hv
theorem msgB_len {kd fr to t ix lt cm hi ro ob : Nat} {es : List EntN} {d : List Nat} (h : MsgOk kd fr to t ix lt cm hi ro es d) : (msgB kd fr to t ix lt cm hi ro ob es d).length ≤ 1048576 := by
  have h1 := numsB_len [t, ix, lt, cm, hi, ro] (by have := h.ht; have := h.hix; have := h.hlt; have := h.hcm; have := h.hhi; have := h.hro; simp; omega)
  have h2 := entsB_len es h.hes
  have h3 := numB_six es.length (by have := h.hfew; omega)
  have h4 := numB_six d.length (by have := h.hd; omega)
  have h5 := h.hfew
  have h6 := h.hd
  simp only [msgB, headB, List.length_append, List.length_cons, List.length_nil] at h1 ⊢
  omega
theorem ob_eq (bo : Bool) : ((((if bo then 1 else 0 : Nat) : Nat) : Int) == 1) = bo := by cases bo <;> rfl
set_option maxRecDepth 20000 in
set_option maxHeartbeats 4000000 in
theorem walk (kd fr to t ix lt cm hi ro : Int) (bo : Bool) (ep : Option Addr) (ec : Nat) (es : List EntI) (dp : Option Addr) (dc : Nat) (dl : List Nat) (w : World) (hl : es.length ≤ maxLen) (hE : EntsAt w ep es) (hbd : ∀ e ∈ es, EntBd e) (hc : dl.length ≤ dc) (hx : dc ≤ maxLen) (hB : BytesAt w dp dl) (hz : dp = none → dc = 0) :
    Calls Try.prog 3 #[.agg #[.int .i64 kd, .int .i64 fr, .int .i64 to, .int .i64 t, .int .i64 ix, .int .i64 lt, .int .i64 cm, .int .i64 hi, .int .i64 ro, .bool bo, .slice ep es.length ec, .slice dp dl.length dc]] w fun e w' => e = .returned (.bool true) ∧ Below w.heap.size w w' := by
  have HE := hide hE
  have HB := hide hB
  have HZ := hide hz
  have hL : es.length ≤ 9223372036854775807 := by simp only [maxLen] at hl; omega
  clear hE hB hz hc hx hbd hl
  have X0 := hide (heap_new w (.cells #[.int .i64 kd, .int .i64 fr, .int .i64 to, .int .i64 t, .int .i64 ix, .int .i64 lt, .int .i64 cm, .int .i64 hi, .int .i64 ro, .bool bo, .slice ep es.length ec, .slice dp dl.length dc] 26))
  have F0 := hide (show Below w.heap.size w (w.alloc (.cells #[.int .i64 kd, .int .i64 fr, .int .i64 to, .int .i64 t, .int .i64 ix, .int .i64 lt, .int .i64 cm, .int .i64 hi, .int .i64 ro, .bool bo, .slice ep es.length ec, .slice dp dl.length dc] 26)) from (Below.refl _ _).alloc (Nat.le_refl _) _)
  obtain ⟨c0, c1, c2, c3, c4, c5, c6, c7, c8, c9, c10, c11⟩ := twelve_cells (unhide X0)
  go_enter Try.func3, Try.ntmps3
  go_wp2_with fail
  generalize w.alloc (.cells #[.int .i64 kd, .int .i64 fr, .int .i64 to, .int .i64 t, .int .i64 ix, .int .i64 lt, .int .i64 cm, .int .i64 hi, .int .i64 ro, .bool bo, .slice ep es.length ec, .slice dp dl.length dc] 26) = W0 at *
  clear c0 c1 c2 c3 c4 c5 c6 c7 c8 c9 c10 c11
  by_cases hmf : MayM kd fr to t ix lt cm hi ro es ∧ FitsM es dl.length
  · obtain ⟨kd', fr', to', t', ix', lt', cm', hi', ro', es', ⟨rfl, rfl, rfl, rfl, rfl, rfl, rfl, rfl, rfl⟩, rfl, hok⟩ := msg_nat hmf.1 hmf.2
    have HOK := hide hok
    have hlen' := hide (show es'.length = (es'.map toI).length by simp)
    have hgot := hide (msg_got hok (ob := if bo then 1 else 0) (by cases bo <;> simp))
    have hml := hide (msgB_len (ob := if bo then 1 else 0) hok)
    clear hok hmf
    refine (putMsg_yes kd' fr' to' t' ix' lt' cm' hi' ro' (if bo then 1 else 0) bo rfl ep _ ec dp _ dc es' dl _ (unhide HOK) (unhide hlen') rfl ((unhide HE).later (unhide F0)) ((unhide HB).later (unhide F0)) (unhide HZ)).mono ?_
    rintro e W1 ⟨sp1, n1, k1, rfl, hn1, ho1, hb1⟩
    have O1 := hide (ho1.mono (unhide F0).size)
    have X1 := hide (later_block hb1 (unhide X0))
    have F1 := hide ((unhide F0).trans (hb1.mono (unhide F0).size))
    have L1 := hide (show ∀ g, blk sp1 = some g → g < W1.heap.size from fun g hg => (ho1.blk_lt g hg).2)
    clear ho1 hb1
    go_wp2_with fail
    refine (getMsg_callsD sp1 n1 k1 _ _ (unhide hn1) (Nat.le_trans (unhide hml) (by omega)) (unhide O1).cap.1 (nilCap (unhide O1)) (unhide O1).bytes).mono ?_
    rw [unhide hgot]
    rintro e W2 ⟨⟨v2, rfl, ep2, en2, ec2, sp2, mm2, cc2, rfl, hen2, hoe2, hmm2, hod2⟩, hb2⟩
    simp only [msgCells, ob_eq]
    simp only at hen2 hmm2
    have X2 := hide (later_block hb2 (unhide X1))
    have O2 := hide ((unhide O1).later hb2)
    have F2 := hide ((unhide F1).trans (hb2.mono (unhide F1).size))
    have b3 : Below W2.heap.size W2 (W2.alloc (.cells #[.int .i64 (kd' : Int), .int .i64 (fr' : Int), .int .i64 (to' : Int), .int .i64 (t' : Int), .int .i64 (ix' : Int), .int .i64 (lt' : Int), .int .i64 (cm' : Int), .int .i64 (hi' : Int), .int .i64 (ro' : Int), .bool bo, .slice ep2 en2 ec2, .slice sp2 mm2 cc2] 26)) := (Below.refl _ _).alloc (Nat.le_refl _) _
    have Y3 := hide (heap_new W2 (.cells #[.int .i64 (kd' : Int), .int .i64 (fr' : Int), .int .i64 (to' : Int), .int .i64 (t' : Int), .int .i64 (ix' : Int), .int .i64 (lt' : Int), .int .i64 (cm' : Int), .int .i64 (hi' : Int), .int .i64 (ro' : Int), .bool bo, .slice ep2 en2 ec2, .slice sp2 mm2 cc2] 26))
    have X3 := hide (later_block b3 (unhide X2))
    have O3 := hide ((unhide O2).later b3)
    have F3 := hide ((unhide F2).trans (b3.mono (unhide F2).size))
    have D3 := hide (hod2.toX.later b3)
    have hW1 := hide (unhide F1).size
    have hW12 := hide hb2.size
    have hXB := hide (Array.getElem?_eq_some_iff.1 (unhide X1)).1
    have hW2 := hide (Nat.le_trans (unhide hW1) hb2.size)
    clear hoe2 hod2 b3 hb2 O1 O2 X1 X2 F1 F2
    go_wp2_with fail
    generalize W2.alloc (.cells #[.int .i64 (kd' : Int), .int .i64 (fr' : Int), .int .i64 (to' : Int), .int .i64 (t' : Int), .int .i64 (ix' : Int), .int .i64 (lt' : Int), .int .i64 (cm' : Int), .int .i64 (hi' : Int), .int .i64 (ro' : Int), .bool bo, .slice ep2 en2 ec2, .slice sp2 mm2 cc2] 26) = W3 at *
    generalize hB2 : W2.heap.size = B at *
    generalize hB1 : W1.heap.size = B1 at *
    have hn1m := hide (show n1 ≤ 1048576 by rw [← unhide hn1]; exact unhide hml)
    have hn1b : n1 ≤ 1048576 := unhide hn1m
    go_loopw [7] (fun v wr => ∃ (j : Nat) (k : List Nat), j ≤ n1 ∧ v = .int .i64 (j : Int) ∧ Hid (k.length = n1) ∧ Hid (OwnB w.heap.size wr sp1 k1 k) ∧ Hid (OwnX B1 wr ep2 ec2 es' sp2 cc2 dl) ∧ Hid (Below w.heap.size w wr) ∧
      Hid (wr.heap[w.heap.size]? = some (.cells #[.int .i64 (kd' : Int), .int .i64 (fr' : Int), .int .i64 (to' : Int), .int .i64 (t' : Int), .int .i64 (ix' : Int), .int .i64 (lt' : Int), .int .i64 (cm' : Int), .int .i64 (hi' : Int), .int .i64 (ro' : Int), .bool bo, .slice ep (es'.map toI).length ec, .slice dp dl.length dc] 26 (0, 0))) ∧
      Hid (wr.heap[B]? = some (.cells #[.int .i64 (kd' : Int), .int .i64 (fr' : Int), .int .i64 (to' : Int), .int .i64 (t' : Int), .int .i64 (ix' : Int), .int .i64 (lt' : Int), .int .i64 (cm' : Int), .int .i64 (hi' : Int), .int .i64 (ro' : Int), .bool bo, .slice ep2 en2 ec2, .slice sp2 mm2 cc2] 26 (0, 0)))) (fun v _ => n1 - (intOf v).toNat)
    case atStart => exact ⟨0, _, by omega, rfl, unhide hn1, unhide O3, unhide D3, unhide F3, unhide X3, unhide Y3⟩
    case round =>
      obtain ⟨j, k, hj, rfl, hk, O, D, F, X, Y⟩ := hrel
      by_cases hjn : j < n1
      · have hjk : j < k.length := by rw [unhide hk]; exact hjn
        obtain ⟨y, hy, hy2⟩ := xor_byte (k.getD j 0) 255 ((unhide O).getLt j hjk) (by decide)
        obtain ⟨g, hsg, hgb, p0, p1, o2, gr, _⟩ := (unhide O).setAt j hjk y hy2
        have gX := (unhide O).ne_block (unhide X) (by decide)
        have gY := (unhide O).ne_block (unhide Y) (by decide)
        rw [hsg] at gX gY
        have D2 := hide ((unhide D).far gr (unhide L1 g (by rw [hsg]; rfl)))
        have X2 := hide (grown_block gr (unhide X) (fun e => gX (by rw [e]; rfl)))
        have Y2 := hide (grown_block gr (unhide Y) (fun e => gY (by rw [e]; rfl)))
        have O2 := hide o2
        have K2 := hide (show (k.set j y).length = n1 by rw [List.length_set]; exact unhide hk)
        have F2 := hide ((unhide F).grown gr (unhide F).size (fun g' hg' => by have := Option.some.inj hg'; omega))
        have hj0 : (0 : Int) ≤ (j : Int) := by omega
        have hj1 : (j : Int) < (n1 : Int) := by omega
        have hy' : bits .xor .u8 ((k.getD j 0 : Nat) : Int) 255 = (y : Int) := hy
        clear hy gX gY
        generalize k.getD j 0 = x at p0 hy'
        subst hsg
        clear gr o2
        go_wp2
        exact ⟨⟨j + 1, k.set j y, by omega, by go_num, unhide K2, unhide O2, unhide D2, unhide F2, unhide X2, unhide Y2⟩, by simp [intOf]; omega⟩
      · have hjn' : ¬ ((j : Int) < (n1 : Int)) := by omega
        obtain ⟨c0, c1, c2, c3, c4, c5, c6, c7, c8, c9, c10, c11⟩ := twelve_cells (unhide Y)
        obtain ⟨d0, d1, d2, d3, d4, d5, d6, d7, d8, d9, d10, d11⟩ := twelve_cells (unhide X)
        go_wp2_with fail
        have hen := unhide hen2
        subst hen
        have hfew := (unhide HOK).hfew
        have hdfew := (unhide HOK).hd
        refine (sameMsg_yes kd' fr' to' t' ix' lt' cm' hi' ro' bo ep2 ep _ ec2 ec sp2 dp mm2 _ cc2 dc (es'.map toI) dl _ (by simp) (by omega) (unhide D).ents ((unhide HE).later (unhide F)) (unhide hmm2) rfl (unhide D).data.bytes ((unhide HB).later (unhide F))).mono ?_
        rintro e W5 ⟨rfl, hb5⟩
        have F5 := hide ((unhide F).trans (hb5.mono (unhide F).size))
        have D5 := hide ((unhide D).later hb5)
        have X5 := hide (later_block hb5 (unhide X))
        have Y5 := hide (later_block hb5 (unhide Y))
        clear hb5 D F X Y O c0 c1 c2 c3 c4 c5 c6 c7 c8 c9 c10 c11 d0 d1 d2 d3 d4 d5 d6 d7 d8 d9 d10 d11
        have hfew' : es'.length ≤ 8 := hfew
        go_wp2_with fail
        go_loopw [8] (fun v wr => ∃ (j : Nat), j ≤ es'.length ∧ v = .int .i64 (j : Int) ∧ Hid (OwnX B1 wr ep2 ec2 (es9 es' j) sp2 cc2 dl) ∧ Hid (Below w.heap.size w wr) ∧
          Hid (wr.heap[w.heap.size]? = some (.cells #[.int .i64 (kd' : Int), .int .i64 (fr' : Int), .int .i64 (to' : Int), .int .i64 (t' : Int), .int .i64 (ix' : Int), .int .i64 (lt' : Int), .int .i64 (cm' : Int), .int .i64 (hi' : Int), .int .i64 (ro' : Int), .bool bo, .slice ep (es'.map toI).length ec, .slice dp dl.length dc] 26 (0, 0))) ∧
          Hid (wr.heap[B]? = some (.cells #[.int .i64 (kd' : Int), .int .i64 (fr' : Int), .int .i64 (to' : Int), .int .i64 (t' : Int), .int .i64 (ix' : Int), .int .i64 (lt' : Int), .int .i64 (cm' : Int), .int .i64 (hi' : Int), .int .i64 (ro' : Int), .bool bo, .slice ep2 es'.length ec2, .slice sp2 mm2 cc2] 26 (0, 0)))) (fun v _ => es'.length - (intOf v).toNat)
        case atStart => exact ⟨0, by omega, rfl, by rw [es9_zero]; exact unhide D5, unhide F5, unhide X5, unhide Y5⟩
        case round =>
          obtain ⟨j, hj, rfl, D, F, X, Y⟩ := hrel
          have y10 := box_cell (unhide Y) 10 _ rfl
          by_cases hjn : j < es'.length
          · have hj9 : j < (es9 es' j).length := by rw [es9_length]; exact hjn
            have bN := hide (show Below wr.heap.size wr (wr.alloc (.cells #[.int .u8 9] 5)) from (Below.refl _ _).alloc (Nat.le_refl _) _)
            have BN := hide (bytesAt_block (l := [9]) (heap_new wr (.cells #[.int .u8 9] 5)) (by decide))
            have DN := hide ((unhide D).later (unhide bN))
            have YN := hide (later_block (unhide bN) (unhide Y))
            have XN := hide (later_block (unhide bN) (unhide X))
            have z10 := box_cell (unhide YN) 10 _ rfl
            obtain ⟨g, qp, qc, rfl, hgb, p3, O, _, UP⟩ := (unhide DN).at j hj9
            have p3' : wr.cell? ⟨g, j * 4 + 3, none⟩ = some (.slice qp ((es9 es' j).getD j default).2.2.2.length qc) := by
              obtain ⟨g', qp', qc', e, _, q3, _, _, _⟩ := (unhide D).at j hj9
              simp only [Option.some.injEq, Addr.mk.injEq, and_true] at e
              obtain rfl := e
              have := cell_later (unhide bN) q3
              rw [p3] at this
              rw [this]
              exact q3
            have hdl9 : ((es9 es' j).getD j default).2.2.2.length ≤ 2048 := by
              rw [es9_at _ _ hjn, List.getD_eq_getElem?_getD, List.getElem?_eq_getElem hjn]
              exact ((unhide HOK).hes _ (List.getElem_mem hjn)).2.2.2.2
            have hE9 := hide (es9_at es' j hjn)
            have OD := hide O
            have UPD := hide UP
            have j0 : (0 : Int) ≤ (j : Int) := by omega
            have j1 : (j : Int) < (es'.length : Int) := by omega
            have szN : (wr.alloc (.cells #[.int .u8 9] 5)).heap.size = wr.heap.size + 1 := size_alloc _ _
            have hbs := hide (show B1 ≤ (wr.alloc (.cells #[.int .u8 9] 5)).heap.size from by
              obtain ⟨_, _, _, h1, h2⟩ := (unhide DN).rowBlk j hj9
              have := (Array.getElem?_eq_some_iff.1 h2).1
              omega)
            clear O UP szN
            generalize hlq : ((es9 es' j).getD j default).2.2.2 = ql at *
            generalize hlm : ql.length = qm at *
            go_wp2_with fail
            go_region_law (refine step_append8L rfl (.tmp 59) (.tmp 60) rfl B1 qp qm qc ql rfl hlm (by first | exact unhide OD | exact ⟨(unhide OD).owns, (unhide OD).lt⟩) (some ⟨wr.heap.size, 0, none⟩) 1 1 rfl [9] rfl (by first | exact unhide BN | exact (unhide BN).drew) (fun h => by cases h) (by omega) (by exact unhide hbs) ?_; intro sp6 n6 c6 W6 hn6 hO6 hg6 hl6; have N6 := hide hn6; have GG6 := hide (show (wr.alloc (.cells #[.int .u8 9] 5)).grownBy W6 (blk qp) from ⟨hg6.os, hg6.tape, hg6.output, hg6.size, hg6.block⟩); obtain ⟨r3, f3, u6, cu6⟩ := unhide UPD W6 sp6 n6 c6 _ (unhide GG6) hO6 (unhide hn6) (by first | exact hl6 | exact fun x hx => hl6 x hx); have U6 := hide u6; have CU6 := hide cu6; have v10 := box_cell (((unhide GG6).block B (Array.getElem?_eq_some_iff.1 (unhide YN)).1 (fun e => (unhide OD).ne_block (unhide YN) (by decide) e.symm)).trans (unhide YN)) 10 _ rfl; clear hn6 hO6 hg6 hl6 u6 cu6)
            all_goals
              have hgs := grown_set W6 g (j * 4 + 3) (.slice sp6 n6 c6)
              have Y6 := hide (((unhide GG6).block B (Array.getElem?_eq_some_iff.1 (unhide YN)).1 (fun e => (unhide OD).ne_block (unhide YN) (by decide) e.symm)).trans (unhide YN))
              have X6 := hide (((unhide GG6).block w.heap.size (Array.getElem?_eq_some_iff.1 (unhide XN)).1 (fun e => (unhide OD).ne_block (unhide XN) (by decide) e.symm)).trans (unhide XN))
              have neY : B ≠ g := fun e => by
                obtain ⟨cur, hcur⟩ := unhide CU6
                rw [← e, unhide Y6] at hcur
                simp at hcur
              have neX : w.heap.size ≠ g := fun e => by
                obtain ⟨cur, hcur⟩ := unhide CU6
                rw [← e, unhide X6] at hcur
                simp at hcur
              have Y7 := hide (grown_block hgs (unhide Y6) neY)
              have X7 := hide (grown_block hgs (unhide X6) neX)
              have F6 := hide (((unhide F).trans ((unhide bN).mono (unhide F).size)).grown (unhide GG6) (Nat.le_trans (unhide F).size (unhide bN).size) (fun x hx => by have := ((unhide OD).blk_lt x hx).1; have := unhide hW1; omega))
              have F7 := hide ((unhide F6).grown hgs (unhide F6).size (fun x hx => by have := Option.some.inj hx; have := unhide hW1; omega))
              have D7 := hide (unhide U6)
              rw [unhide hE9] at D7 hlq
              subst hlq
              rw [es9_set es' j hjn] at D7
              clear hgs neY neX
              go_wp2
              exact ⟨⟨j + 1, by omega, by go_num, unhide D7, unhide F7, unhide X7, unhide Y7⟩, by simp [intOf]; omega⟩
          · obtain rfl : j = es'.length := by omega
            have hjj : ¬ ((es'.length : Int) < (es'.length : Int)) := by omega
            have bN := hide (show Below wr.heap.size wr (wr.alloc (.cells #[.int .u8 9] 5)) from (Below.refl _ _).alloc (Nat.le_refl _) _)
            have BN := hide (bytesAt_block (l := [9]) (heap_new wr (.cells #[.int .u8 9] 5)) (by decide))
            have DN := hide ((unhide D).later (unhide bN))
            have YN := hide (later_block (unhide bN) (unhide Y))
            have XN := hide (later_block (unhide bN) (unhide X))
            have y11 := box_cell (unhide Y) 11 (.slice sp2 mm2 cc2) rfl
            have hbs := hide (show B1 ≤ (wr.alloc (.cells #[.int .u8 9] 5)).heap.size from by
              have := (Array.getElem?_eq_some_iff.1 (unhide YN)).1
              have := unhide hW12
              omega)
            have hdd := unhide hmm2
            go_wp2_with (at_builtin; refine wpList_append8L rfl (.tmp 65) (.tmp 66) rfl B1 sp2 mm2 cc2 dl rfl (unhide hmm2) (by exact (unhide DN).data) (some ⟨wr.heap.size, 0, none⟩) 1 1 rfl [9] rfl (by exact unhide BN) (fun h => by cases h) (by omega) (by exact unhide hbs) ?_; intro sp6 n6 c6 W6 hn6 hO6 hg6 hl6; have G6 := hide hg6; have Y6 := hide ((hg6.block B (Array.getElem?_eq_some_iff.1 (unhide YN)).1 (fun e => (unhide DN).data.ne_block (unhide YN) (by decide) e.symm)).trans (unhide YN)); have v11 := box_cell (unhide Y6) 11 (.slice sp2 mm2 cc2) rfl; have f11 := box_free (unhide Y6) 11; clear hn6 hO6 hg6 hl6)
            have hgs := grown_set W6 B 11 (.slice sp6 n6 c6)
            have X6 := hide (((unhide G6).block w.heap.size (Array.getElem?_eq_some_iff.1 (unhide XN)).1 (fun e => (unhide DN).data.ne_block (unhide XN) (by decide) e.symm)).trans (unhide XN))
            have F6 := hide (((unhide F).trans ((unhide bN).mono (unhide F).size)).grown (unhide G6) (Nat.le_trans (unhide F).size (unhide bN).size) (fun x hx => by have := ((unhide DN).data.blk_lt x hx).1; have := unhide hW1; omega))
            have D7 := hide (((unhide DN).other (unhide G6)).box (unhide Y6) (by decide) (by decide) hgs)
            have X7 := hide (grown_block hgs (unhide X6) (by have := unhide hXB; have := unhide hW12; omega))
            have F7 := hide ((unhide F6).grown hgs (unhide F6).size (fun x hx => by have := Option.some.inj hx; have := unhide hW2; omega))
            have U10 := hide (show (W6.setCell ⟨B, 11, none⟩ (.slice sp6 n6 c6)).cell? ⟨B, 10, none⟩ = some (.slice ep2 es'.length ec2) from box_cell (heap_setCell_same W6 B 11 _ 26 _ (unhide Y6)) 10 _ rfl)
            have V10 := hide (box_cell (unhide X7) 10 (.slice ep (es'.map toI).length ec) rfl)
            have E7 := hide ((unhide HE).later (unhide F7))
            clear hgs v11 f11 Y6 X6 F6 G6 D DN YN XN bN BN X Y F y10 y11 X7 hdd
            generalize W6.setCell ⟨B, 11, none⟩ (.slice sp6 n6 c6) = W7 at *
            have hLm : (es'.map toI).length = es'.length := by simp
            rw [hLm] at V10
            go_loopw [9] (fun v wr3 => ∃ (j : Nat), j ≤ es'.length ∧ v = .int .i64 (j : Int) ∧ Hid (Below W7.heap.size W7 wr3)) (fun v _ => es'.length - (intOf v).toNat)
            case atStart => exact ⟨0, by omega, rfl, Below.refl _ _⟩
            case round =>
              obtain ⟨j, hj, rfl, F⟩ := hrel
              have u10 := cell_later (unhide F) (unhide U10)
              have v10 := cell_later (unhide F) (unhide V10)
              by_cases hjn : j < es'.length
              · obtain ⟨g, qp, qc, rfl, _, p3, O, _, _⟩ := ((unhide D7).later (unhide F)).at j (by rw [es9_length]; exact hjn)
                obtain ⟨b', off', rp, rc, rfl, _, _, _, r3, r4, _⟩ := ((unhide E7).later (unhide F)).cell j (by rw [hLm]; exact hjn)
                have hr : ((es'.map toI)[j]'(by rw [hLm]; exact hjn)).2.2.2 = (es'.getD j default).2.2.2 := by simp [toI, List.getD_eq_getElem?_getD, List.getElem?_eq_getElem hjn]
                rw [hr] at r3 r4
                rw [es9_last es' j hjn] at p3 O
                have hd9 : (es'.getD j default).2.2.2.length ≤ 2048 := by
                  rw [List.getD_eq_getElem?_getD, List.getElem?_eq_getElem hjn]
                  exact ((unhide HOK).hes _ (List.getElem_mem hjn)).2.2.2.2
                clear hr
                generalize (es'.getD j default).2.2.2 = d at *
                have hm1 : (d ++ [9]).length = d.length + 1 := by simp
                rw [hm1] at p3
                have hcap := O.cap.1
                rw [hm1] at hcap
                have hsl := run_slice_h8 qp (d.length + 1) qc d.length (by omega)
                have hBh := O.bytes.head qc d.length (by omega)
                rw [List.take_left' rfl] at hBh
                have s1 := fun nq => run_string8 (w := wr.drewN nq) (c := qc) d.length rfl ⟨hBh.lt, hBh.cell⟩
                have s2 := fun nq => run_string8 (w := wr.drewN nq) (c := rc) d.length rfl ⟨r4.lt, r4.cell⟩
                have t1 := str_eq_same d
                have hdl : ((d.length : Int) + 1) - 1 = (d.length : Int) := by omega
                have j0 : (0 : Int) ≤ (j : Int) := by omega
                have j1 : (j : Int) < (es'.length : Int) := by omega
                clear hBh r4 O hm1
                generalize d.length = m at *
                generalize strOf d = st at *
                have hw1 : IntKind.i64.wrap ((m : Int) + 1) = (m : Int) + 1 := by rw [IntKind.wrap_i64]; omega
                have hw2 : IntKind.i64.wrap (m : Int) = (m : Int) := by rw [IntKind.wrap_i64]; omega
                go_wp2_with fail
                go_quiet (fail)
                go_wp2
                exact ⟨⟨j + 1, by omega, by go_num, below_drewX (unhide F) _⟩, by simp [intOf]; omega⟩
              · obtain rfl : j = es'.length := by omega
                have hjj : ¬ ((es'.length : Int) < (es'.length : Int)) := by omega
                go_wp2_with fail
                refine (live2_calls _).mono ?_
                rintro e W8 ⟨rfl, hb8⟩
                have F8 := hide (((unhide F7).trans ((unhide F).mono (unhide F7).size)).trans (hb8.mono ((unhide F7).trans ((unhide F).mono (unhide F7).size)).size))
                clear hb8
                go_wp2
                go_ret
                exact ⟨rfl, unhide F8⟩
  · refine (putMsg_bad kd fr to t ix lt cm hi ro bo ep _ ec dp _ dc es _ rfl hL ((unhide HE).later (unhide F0)) hmf).mono ?_
    rintro e W1 ⟨⟨x, hx, rfl⟩, hb1⟩
    have F1 := hide ((unhide F0).trans (hb1.mono (unhide F0).size))
    have hx0 : ¬ x = 0 := by omega
    clear hb1 hmf
    rcases hx with rfl | rfl
    all_goals
      go_wp2_with fail
      refine (live2_calls _).mono ?_
      rintro e W2 ⟨rfl, hb2⟩
      have F2 := hide ((unhide F1).trans (hb2.mono (unhide F1).size))
      clear hb2
      go_wp2
      go_ret
      exact ⟨rfl, unhide F2⟩

set_option maxRecDepth 100000 in
theorem lifted (os : Os) (started : os.Started) (H : Type) (enc : TypeId × Value → H) :
    ReturnsInHanded {} Try.checked os 3 .any (Rows.wireOwnSpec.pre6 enc Try.prog Try.f3 Rows.wireOwnRow.domain false) (Rows.wireOwnSpec.post enc Try.prog Try.f3 false true false false) := by
  refine returnsInHanded_of_change_sized (C := Try.checked) own started (by kernel_rfl) Try.func3
    (ChangeSpec.witness6 (enc := enc) (C := Try.checked) false ⟨#[], #[.agg #[.int .i64 0, .int .i64 0, .int .i64 0, .int .i64 0, .int .i64 0, .int .i64 0, .int .i64 0, .int .i64 0, .int .i64 0, .bool false, .slice none 0 0, .slice none 0 0]], []⟩ 8 (by kernel_rfl) (by kernel_rfl) (by kernel_rfl) (by kernel_rfl)) ?_
  intro W base args ds gs before hval0 hW hcnd hsz _
  have hval : ∀ (j : Nat) t v, Try.f3.params[j]? = some t → args[j]? = some v → Value.okWide Try.prog W .any base t v := hval0
  have hW' := hW
  obtain ⟨p, q, hA0, hV, rfl, hfz, hnd⟩ := hW
  have hA : DataW.TrodAll enc Try.prog W 0 (fun _ => true) true Try.f3.params.toList args.toList ds p := hA0
  rw [Try.params3] at hA hval
  obtain ⟨v0, vs0, d0, ds0, p0, q0, hargs, rfl, rfl, h0, r0⟩ := trodAll_cons hA
  obtain ⟨rfl, rfl, rfl⟩ := trodAll_nil r0
  obtain rfl : args = #[v0] := by cases args; simp_all
  obtain ⟨rfl, rfl⟩ := trodVars_none hV
  have k0 := h0
  have lt0 : ∀ x ∈ p0, x.block < W.heap.size := by obtain ⟨m, hm⟩ := k0; exact DataW.trod_lt m _ _ _ hm
  obtain ⟨kd0, fr0, to0, t0, ix0, lg0, cm0, hi0, ro0, bo0, ep0, ec0, es0, dp0, dc0, dl0, rfl, hl0, hE0, hbd0, hc0, hx0, hB0, hz0⟩ := open_msg (hval 0 26 v0 rfl rfl) h0
  clear hA0 hval0
  refine (walk kd0 fr0 to0 t0 ix0 lg0 cm0 hi0 ro0 bo0 ep0 ec0 es0 dp0 dc0 dl0 W hl0 hE0 hbd0 hc0 hx0 hB0 hz0).mono fun e W' ⟨he, bel⟩ => ?_
  subst he
  exact ⟨_, rfl, _, _, _, [], _, [], hW', trodAll_mk1 (shut_bool Try.underlying4 _), (trodAll_cons_mk (Below.trod laidOut (by kernel_rfl) (of_decide_eq_true (by kernel_rfl)) k0 bel lt0) trodAll_mk0), rfl, bel.frame _, fun h => by cases h⟩

theorem proved : Rows.WireOwnSaid :=
  OpenClaim.holds_of_wide 3 Try.f3 rfl rfl rfl rfl rfl rfl rfl ⟨rfl, rfl, rfl, rfl, rfl⟩ rfl rfl rfl rfl rfl (by kernel_rfl) Try.func3 (by kernel_rfl)
    (of_decide_eq_true (by kernel_rfl)) (by unfold Func.isWrapper; first | (rw [if_pos (by decide +kernel)]; kernel_rfl) | (rw [if_neg (by decide +kernel)]; exact ⟨rfl, rfl⟩))
    (fun os started H enc _ => lifted os started H enc)
end Go.Proofs.Ytilkginjppgcoaa.wireOwn
namespace Go.Proofs.Ytilkginjppgcoaa
theorem wireOwn_holds : Rows.WireOwnSaid := wireOwn.proved
#print axioms wireOwn_holds
end Go.Proofs.Ytilkginjppgcoaa
