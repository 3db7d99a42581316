/- Proved: what is agreed a quorum has reached, and nothing greater, whatever the members and the places (of nodes, each once: as the statement says); no condition. -/
import Derived.Test.YtnclkkoefejjiaaMc3
import Derived.Test.YtnclkkoefejjiaaHld
namespace Go.Proofs.Ytnclkkoefejjiaa.memberReached
open Go.ChangeShapes Go.WideShapes Go.ChangeAt Go.RowKit
set_option linter.unusedVariables false

theorem own : ownKnob Try.prog.godebug = none := by kernel_rfl
theorem laidOut : laidOutB Try.prog = true := by kernel_rfl

set_option maxRecDepth 20000 in
set_option maxHeartbeats 16000000 in
theorem walk (va0 : Option Addr) (vc0 : Nat) (vs0 : List Int) (la0 : Option Addr) (lc0 : Nat) (ls0 : List Int) (a1 : Option Addr) (c1 : Nat) (l1 : List (Int × Int)) (w : World)
    (hsv0 : vs0.length * 8 ≤ 140737488351232) (hV0 : IntsAt w va0 vs0) (_ : va0 = none → vc0 = 0) (hsl0 : ls0.length * 8 ≤ 140737488351232) (hL0 : IntsAt w la0 ls0) (_ : la0 = none → lc0 = 0)
    (hs1 : l1.length * 16 ≤ 140737488351232) (hb1 : AtsAt w a1 l1) (_ : a1 = none → c1 = 0) :
    Calls Try.prog 10 #[mV va0 vs0.length vc0 la0 ls0.length lc0, .slice a1 l1.length c1] w fun e w' => e = .returned (.bool true) ∧ Below w.heap.size w w' := by
  obtain ⟨vn, hvn⟩ : ∃ n, vs0.length = n := ⟨_, rfl⟩
  obtain ⟨ln, hln⟩ : ∃ n, ls0.length = n := ⟨_, rfl⟩
  obtain ⟨n1, hn1⟩ : ∃ n, l1.length = n := ⟨_, rfl⟩
  rw [hvn] at hsv0
  rw [hln] at hsl0
  rw [hn1] at hs1
  rw [hvn, hln, hn1]
  have hvx : vn ≤ maxLen := by simp only [maxLen]; omega
  have hlx : ln ≤ maxLen := by simp only [maxLen]; omega
  have m1 : n1 ≤ maxLen := by simp only [maxLen]; omega
  have X1 := hide (heap_new w (mB va0 vn vc0 la0 ln lc0))
  have b1 := hide (show Below w.heap.size w (w.alloc (mB va0 vn vc0 la0 ln lc0)) from (Below.refl _ _).alloc (Nat.le_refl _) _)
  have V1 := hide (hV0.later (unhide b1))
  have L1 := hide (hL0.later (unhide b1))
  have P1 := hide (hb1.later (unhide b1))
  have VN := hide hvn
  have LN := hide hln
  have N1 := hide hn1
  have c0 := box_cell (unhide X1) 0 _ rfl
  have c1' := box_cell (unhide X1) 1 _ rfl
  clear hV0 hL0 hb1 hvn hln hn1
  go_enter Try.func10, Try.ntmps10
  go_wp2_with fail
  generalize hD : w.heap.size = D at *
  generalize w.alloc (mB va0 vn vc0 la0 ln lc0) = w1 at *
  refine (agreed_calls (unhide V1) (unhide L1) (unhide P1) vn ln n1 (unhide VN) (unhide LN) (unhide N1) hvx hlx m1).mono ?_
  rintro e w2 ⟨rfl, b2⟩
  have X2 := hide (later_block b2 (unhide X1))
  have V2 := hide ((unhide V1).later b2)
  have L2 := hide ((unhide L1).later b2)
  have P2 := hide ((unhide P1).later b2)
  have B2 := hide ((unhide b1).trans (b2.mono (by have := (unhide b1).size; omega)))
  clear b2 c0 c1' X1 V1 L1 P1
  have c0 := box_cell (unhide X2) 0 _ rfl
  have c1' := box_cell (unhide X2) 1 _ rfl
  have NR := hide (show rightM vs0 ls0 = false → agreedM vs0 ls0 l1 = 0 from fun h => by rw [agreedM, h]; rfl)
  have RO := hide (show rightM vs0 ls0 = true → (l1.map Prod.fst).Nodup → 0 ≤ agreedM vs0 ls0 l1 ∧ (agreedM vs0 ls0 l1 ≠ 0 → quorumM vs0 ls0 (atL (agreedM vs0 ls0 l1) l1) = true) ∧ quorumM vs0 ls0 (abL (agreedM vs0 ls0 l1) l1) = false from reached_ok)
  generalize agreedM vs0 ls0 l1 = ag at *
  go_wp2_with fail
  refine (right_calls (unhide V2) (unhide L2) vn ln (unhide VN) (unhide LN) hvx hlx).mono ?_
  rintro e w3 ⟨rfl, b3⟩
  have X3 := hide (later_block b3 (unhide X2))
  have V3 := hide ((unhide V2).later b3)
  have L3 := hide ((unhide L2).later b3)
  have P3 := hide ((unhide P2).later b3)
  have B3 := hide ((unhide B2).trans (b3.mono (by have := (unhide B2).size; omega)))
  clear b3 c0 c1' X2 V2 L2 P2
  cases hr : rightM vs0 ls0
  · obtain rfl := unhide NR hr
    go_wp2_with fail
    refine (live3_calls _).mono ?_
    rintro e w4 ⟨rfl, b4⟩
    have B4 := hide ((unhide B3).trans (b4.mono (by have := (unhide B3).size; omega)))
    clear b4
    go_wp2
    go_ret
    exact ⟨rfl, by first | exact unhide B4 | (rw [hD]; exact unhide B4)⟩
  · have RO2 := hide (unhide RO hr)
    clear RO NR
    go_wp2_with fail
    go_loopw [6] (fun i wr => ∃ (j : Nat), j ≤ n1 ∧ i = .int .i64 (j : Int) ∧ Hid (((l1.take j).map Prod.fst).Nodup) ∧ Hid (Below w3.heap.size w3 wr)) (fun i _ => n1 - (intOf i).toNat)
    case atStart => exact ⟨0, by omega, rfl, by simp [Hid], Below.refl _ _⟩
    case round =>
      obtain ⟨j, hj, rfl, hnd, F⟩ := hrel
      by_cases hjm : j < n1
      · have hjl : j < l1.length := by rw [unhide N1]; exact hjm
        have hj0 : (0 : Int) ≤ (j : Int) := by omega
        have hj1 : (j : Int) < (n1 : Int) := by omega
        go_wp2_with fail
        go_loopw [7] (fun i wr' => ∃ (q : Nat), q ≤ j ∧ i = .int .i64 (q : Int) ∧ Hid (∀ t, t < q → ∀ (ht : t < l1.length), l1[t].1 ≠ l1[j].1) ∧ Hid (Below w3.heap.size w3 wr')) (fun i _ => j - (intOf i).toNat)
        case atStart => exact ⟨0, by omega, rfl, fun t ht => by omega, unhide F⟩
        case round =>
          obtain ⟨q, hq, rfl, hne, F2⟩ := hrel
          by_cases hqm : q < j
          · have hql : q < l1.length := by omega
            obtain ⟨b, off, rfl, p0, p1⟩ := ((unhide P3).later (unhide F2)).cell j hjl
            obtain ⟨b', off', e', q0, q1⟩ := ((unhide P3).later (unhide F2)).cell q hql
            cases e'
            have hq0 : (0 : Int) ≤ (q : Int) := by omega
            have hq1 : (q : Int) < (n1 : Int) := by omega
            have hq2 : (q : Int) < (j : Int) := by omega
            have ST := hide (show l1[q].1 ≠ l1[j].1 → ∀ t, t < q + 1 → ∀ (ht : t < l1.length), l1[t].1 ≠ l1[j].1 from fun h t ht hl => by
              by_cases e : t = q
              · subst e; exact h
              · exact unhide hne t (by omega) hl)
            have F3 := hide (unhide F2).drew
            by_cases hxy : l1[q].1 = l1[j].1
            · rw [hxy] at q0
              generalize l1[j].1 = x at *
              go_wp2_with fail
              go_region_held3 (fun w' => w'.cell? ⟨b, off + j * 2, none⟩ = some (.int .i64 x) ∧ w'.cell? ⟨b, off + q * 2, none⟩ = some (.int .i64 x)) (first | go_keep | exact ⟨p0, q0⟩) (fail)
              go_wp2_with fail
              refine (live3_calls _).mono ?_
              rintro e w4 ⟨rfl, b4⟩
              have B4 := hide ((unhide B3).trans (((unhide F3).trans (b4.mono (unhide F3).size)).mono (by have := (unhide B3).size; omega)))
              clear b4
              go_wp2
              go_ret
              exact ⟨rfl, by first | exact unhide B4 | (rw [hD]; exact unhide B4)⟩
            · have hne2 := hide (unhide ST hxy)
              have hxy' : ¬ (l1[j].1 = l1[q].1) := fun e => hxy e.symm
              clear ST
              generalize hA : l1[j].1 = x at *
              generalize hC : l1[q].1 = y at *
              have HA := hide hA
              clear hA hC
              go_wp2_with fail
              go_region_held3 (fun w' => w'.cell? ⟨b, off + j * 2, none⟩ = some (.int .i64 x) ∧ w'.cell? ⟨b, off + q * 2, none⟩ = some (.int .i64 y)) (first | go_keep | exact ⟨p0, q0⟩) (fail)
              go_wp2
              refine ⟨⟨q + 1, by omega, by go_num, ?_, unhide F3⟩, by simp [intOf]; omega⟩
              exact hne2
          · obtain rfl : q = j := by omega
            have ND := hide (nodup_snoc hjl (unhide hnd) (unhide hne))
            go_wp2
            exact ⟨⟨q + 1, by omega, by go_num, unhide ND, unhide F2⟩, by simp [intOf]; omega⟩
      · obtain rfl : j = n1 := by omega
        have ND := hide (show (l1.map Prod.fst).Nodup by have := unhide hnd; rwa [List.take_of_length_le (by rw [unhide N1]; exact Nat.le_refl _)] at this)
        obtain ⟨ag0, agq, agn⟩ := unhide RO2 (unhide ND)
        have AQ := hide agq
        have AN := hide agn
        clear hnd agq agn RO2
        go_wp2_with fail
        go_loopw [8, 9, 10] (fun sA sB i wr' => ∃ (q nA cA nB cB : Nat) (spA spB : Option Addr), q ≤ j ∧ sA = .slice spA nA cA ∧ sB = .slice spB nB cB ∧ i = .int .i64 (q : Int) ∧ Hid ((atL ag (l1.take q)).length = nA) ∧ Hid (OwnI w3.heap.size wr' spA cA (atL ag (l1.take q))) ∧ Hid ((abL ag (l1.take q)).length = nB) ∧ Hid (OwnI w3.heap.size wr' spB cB (abL ag (l1.take q))) ∧ Hid (∀ g, blk spA = some g → blk spB ≠ some g) ∧ Hid (Below w3.heap.size w3 wr')) (fun _ _ i _ => j - (intOf i).toNat)
        case atStart => exact ⟨0, 0, 0, 0, 0, none, none, by omega, rfl, rfl, rfl, rfl, OwnI.ofNil _ _, rfl, OwnI.ofNil _ _, (fun g h => by cases h), unhide F⟩
        case round =>
          obtain ⟨q, nA, cA, nB, cB, spA, spB, hq, rfl, rfl, rfl, hnA, hoA, hnB, hoB, hap, F2⟩ := hrel
          by_cases hqm : q < j
          · have hql : q < l1.length := by rw [unhide N1]; exact hqm
            obtain ⟨b, off, rfl, p0, p1⟩ := ((unhide P3).later (unhide F2)).cell q hql
            have hq0 : (0 : Int) ≤ (q : Int) := by omega
            have hq1 : (q : Int) < (j : Int) := by omega
            have CK := hide (show ∀ W : World, Below w3.heap.size w3 W → W.cell? ⟨b, off + q * 2, none⟩ = some (.int .i64 l1[q].1) ∧ W.cell? ⟨b, off + q * 2 + 1, none⟩ = some (.int .i64 l1[q].2) from fun W h => by
              obtain ⟨b', off', e', h1, h2⟩ := ((unhide P3).later h).cell q hql
              cases e'
              exact ⟨h1, h2⟩)
            have SA := hide (at_snoc ag hql)
            have SB := hide (ab_snoc ag hql)
            have BX := hide ((unhide P3).bd _ (List.getElem_mem hql)).1
            have LA := hide (at_len ag l1 q)
            have LB := hide (ab_len ag l1 q)
            generalize l1[q] = x at *
            obtain ⟨x1, x2⟩ := x
            dsimp only at p0 p1 SA SB BX CK
            by_cases h1 : ag ≤ x2
            · rw [if_pos h1] at SA
              go_wp2_with (at_builtin; refine unhide ?_)
              refine hide ?_
              have ba : Below wr.heap.size wr (wr.alloc (.cells #[.int .i64 x1] 3)) := (Below.refl _ _).alloc (Nat.le_refl _) _
              have hs2 : w3.heap.size ≤ (wr.alloc (.cells #[.int .i64 x1] 3)).heap.size := Nat.le_trans (unhide F2).size ba.size
              refine wpList_appendI rfl (.tmp 58) (.tmp 64) rfl w3.heap.size spA nA cA (atL ag (l1.take q)) rfl (unhide hnA) ((unhide hoA).later ba) (some ⟨wr.heap.size, 0, none⟩) 1 1 rfl [x1] rfl (ints_one (heap_new _ _) (unhide BX)) (fun h => by cases h) (by have := unhide LA; omega) hs2 ?_
              intro sp4 n4 k4 w4 hn4 o4 g4
              rw [← unhide SA] at hn4 o4
              have O4 := hide o4
              have N4 := hide (unhide hn4)
              have F4 := hide ((unhide F2).trans ((ba.mono (unhide F2).size).trans (GrewI.below g4 ((unhide hoA).later ba) hs2)))
              have OB4 := hide (((unhide hoB).later ba).kept g4.grown (fun g hg e => unhide hap g e hg))
              have AP4 := hide (show ∀ g, blk sp4 = some g → blk spB ≠ some g from fun g hg hB => by
                rcases g4.lies g hg with h | h
                · exact unhide hap g h hB
                · have := ((unhide hoB).blk_lt g hB).2
                  have := ba.size
                  omega)
              obtain ⟨p0', p1'⟩ := unhide CK w4 (unhide F4)
              clear ba hs2 o4 g4 hn4 p0 p1
              by_cases h2 : ag < x2
              · rw [if_pos h2] at SB
                go_wp2_with (at_builtin; refine unhide ?_)
                refine hide ?_
                have ba : Below w4.heap.size w4 (w4.alloc (.cells #[.int .i64 x1] 3)) := (Below.refl _ _).alloc (Nat.le_refl _) _
                have hs2 : w3.heap.size ≤ (w4.alloc (.cells #[.int .i64 x1] 3)).heap.size := Nat.le_trans (unhide F4).size ba.size
                refine wpList_appendI rfl (.tmp 73) (.tmp 79) rfl w3.heap.size spB nB cB (abL ag (l1.take q)) rfl (unhide hnB) ((unhide OB4).later ba) (some ⟨w4.heap.size, 0, none⟩) 1 1 rfl [x1] rfl (ints_one (heap_new _ _) (unhide BX)) (fun h => by cases h) (by have := unhide LB; omega) hs2 ?_
                intro sp5 n5 k5 w5 hn5 o5 g5
                rw [← unhide SB] at hn5 o5
                have O5 := hide o5
                have N5 := hide (unhide hn5)
                have F5 := hide ((unhide F4).trans ((ba.mono (unhide F4).size).trans (GrewI.below g5 ((unhide OB4).later ba) hs2)))
                have OA5 := hide (((unhide O4).later ba).kept g5.grown (fun g hg e => unhide AP4 g hg e))
                have AP5 := hide (show ∀ g, blk sp4 = some g → blk sp5 ≠ some g from fun g hg hB => by
                  rcases g5.lies g hB with h | h
                  · exact unhide AP4 g hg h
                  · have := ((unhide O4).blk_lt g hg).2
                    have := ba.size
                    omega)
                clear ba hs2 o5 g5 hn5
                go_wp2
                exact ⟨⟨q + 1, n4, k4, n5, k5, sp4, sp5, by omega, rfl, rfl, by go_num, unhide N4, unhide OA5, unhide N5, unhide O5, unhide AP5, unhide F5⟩, by simp [intOf]; omega⟩
              · rw [if_neg h2, List.append_nil] at SB
                rw [← unhide SB] at hnB OB4
                go_wp2
                exact ⟨⟨q + 1, n4, k4, nB, cB, sp4, spB, by omega, rfl, rfl, by go_num, unhide N4, unhide O4, unhide hnB, unhide OB4, unhide AP4, unhide F4⟩, by simp [intOf]; omega⟩
            · have h2 : ¬ (ag < x2) := by omega
              rw [if_neg h1, List.append_nil] at SA
              rw [if_neg h2, List.append_nil] at SB
              rw [← unhide SA] at hnA hoA
              rw [← unhide SB] at hnB hoB
              go_wp2
              exact ⟨⟨q + 1, nA, cA, nB, cB, spA, spB, by omega, rfl, rfl, by go_num, unhide hnA, unhide hoA, unhide hnB, unhide hoB, unhide hap, unhide F2⟩, by simp [intOf]; omega⟩
          · obtain rfl : q = j := by omega
            have NA := hide (show (atL ag l1).length = nA by have := unhide hnA; rwa [List.take_of_length_le (by rw [unhide N1]; exact Nat.le_refl _)] at this)
            have NB := hide (show (abL ag l1).length = nB by have := unhide hnB; rwa [List.take_of_length_le (by rw [unhide N1]; exact Nat.le_refl _)] at this)
            have IA := hide (show IntsAt wr spA (atL ag l1) by have := (unhide hoA).ints; rwa [List.take_of_length_le (by rw [unhide N1]; exact Nat.le_refl _)] at this)
            have IB := hide (show IntsAt wr spB (abL ag l1) by have := (unhide hoB).ints; rwa [List.take_of_length_le (by rw [unhide N1]; exact Nat.le_refl _)] at this)
            have mA : nA ≤ maxLen := by rw [← unhide hnA]; have := at_len ag l1 q; simp only [maxLen]; omega
            have mB : nB ≤ maxLen := by rw [← unhide hnB]; have := ab_len ag l1 q; simp only [maxLen]; omega
            clear hnA hoA hnB hoB hap
            go_wp2_with fail
            refine (live3_calls _).mono ?_
            rintro e w4 ⟨rfl, b4⟩
            have F4 := hide ((unhide F2).trans (b4.mono (unhide F2).size))
            have IA4 := hide ((unhide IA).later b4)
            have IB4 := hide ((unhide IB).later b4)
            have V4 := hide ((unhide V3).later (unhide F4))
            have L4 := hide ((unhide L3).later (unhide F4))
            have X4 := hide (later_block (unhide F4) (unhide X3))
            have c0 := box_cell (unhide X4) 0 _ rfl
            have c1' := box_cell (unhide X4) 1 _ rfl
            clear b4
            by_cases h0 : ag = 0
            · subst h0
              go_wp2_with fail
              refine (quorum_calls (unhide V4) (unhide L4) (unhide IB4) vn ln nB (unhide VN) (unhide LN) (unhide NB) hvx hlx mB).mono ?_
              rw [unhide AN]
              rintro e w5 ⟨rfl, b5⟩
              have B5 := hide ((unhide B3).trans (((unhide F4).trans (b5.mono (unhide F4).size)).mono (by have := (unhide B3).size; omega)))
              clear b5
              go_wp2
              go_ret
              exact ⟨rfl, by first | exact unhide B5 | (rw [hD]; exact unhide B5)⟩
            · have h0' : (0 : Int) ≤ ag := ag0
              go_wp2_with fail
              refine (quorum_calls (unhide V4) (unhide L4) (unhide IA4) vn ln nA (unhide VN) (unhide LN) (unhide NA) hvx hlx mA).mono ?_
              rw [unhide AQ h0]
              rintro e w5 ⟨rfl, b5⟩
              have F5 := hide ((unhide F4).trans (b5.mono (unhide F4).size))
              have IB5 := hide ((unhide IB4).later b5)
              have V5 := hide ((unhide V4).later b5)
              have L5 := hide ((unhide L4).later b5)
              have X5 := hide (later_block b5 (unhide X4))
              clear b5 c0 c1'
              have c0 := box_cell (unhide X5) 0 _ rfl
              have c1' := box_cell (unhide X5) 1 _ rfl
              go_wp2_with fail
              refine (quorum_calls (unhide V5) (unhide L5) (unhide IB5) vn ln nB (unhide VN) (unhide LN) (unhide NB) hvx hlx mB).mono ?_
              rw [unhide AN]
              rintro e w6 ⟨rfl, b6⟩
              have B6 := hide ((unhide B3).trans (((unhide F5).trans (b6.mono (unhide F5).size)).mono (by have := (unhide B3).size; omega)))
              clear b6
              go_wp2
              go_ret
              exact ⟨rfl, by first | exact unhide B6 | (rw [hD]; exact unhide B6)⟩

set_option maxRecDepth 100000 in
theorem lifted (os : Os) (started : os.Started) (H : Type) (enc : TypeId × Value → H) :
    ReturnsInHanded {} Try.checked os 10 .any (Rows.memberReachedSpec.pre6 enc Try.prog Try.f10 Rows.memberReachedRow.domain false) (Rows.memberReachedSpec.post enc Try.prog Try.f10 false true false false) := by
  refine returnsInHanded_of_change_sized (C := Try.checked) own started (by kernel_rfl) Try.func10
    (ChangeSpec.witness6 (enc := enc) (C := Try.checked) false ⟨#[], #[.agg #[.slice none 0 0, .slice none 0 0], .slice none 0 0], []⟩ 8 (by kernel_rfl) (by kernel_rfl) (by kernel_rfl) (by kernel_rfl)) ?_
  intro W base args ds gs before hval0 hW hcnd hsz _
  have hval : ∀ (j : Nat) t v, Try.f10.params[j]? = some t → args[j]? = some v → Value.okWide Try.prog W .any base t v := hval0
  have hW' := hW
  obtain ⟨p, q, hA0, hV, rfl, hfz, hnd⟩ := hW
  have hA : DataW.TrodAll enc Try.prog W 0 (fun _ => true) true Try.f10.params.toList args.toList ds p := hA0
  rw [Try.params10] at hA hval
  obtain ⟨v0, vs0, d0, ds0, p0, q0, hargs, rfl, rfl, h0, r0⟩ := trodAll_cons hA
  obtain ⟨v1, vs1, d1, ds1, p1, q1, rfl, rfl, rfl, h1, r1⟩ := trodAll_cons r0
  obtain ⟨rfl, rfl, rfl⟩ := trodAll_nil r1
  obtain rfl : args = #[v0, v1] := by cases args; simp_all
  obtain ⟨rfl, rfl⟩ := trodVars_none hV
  have k0 := h0
  have lt0 : ∀ x ∈ p0, x.block < W.heap.size := by obtain ⟨m, hm⟩ := k0; exact DataW.trod_lt m _ _ _ hm
  obtain ⟨va0, vc0, vs0, la0, lc0, ls0, rfl, hsv0, hV0, hzv0, hsl0, hL0, hzl0⟩ := open_membersS (hval 0 24 v0 rfl rfl) h0 (fun n hn => of_decide_eq_true (List.all_eq_true.1 hsz n (DataW.weights_mem_each (j := 0) (d := d0) rfl rfl n hn)))
  obtain ⟨a1, len1, c1, rfl⟩ := okWide_slice Try.underlying33 (hval 1 33 v1 rfl rfl)
  have k1 := h1
  have lt1 : ∀ x ∈ p1, x.block < W.heap.size := by obtain ⟨m, hm⟩ := k1; exact DataW.trod_lt m _ _ _ hm
  obtain ⟨l1, rfl, hs1, hb1, hz1⟩ := ats_argS h1 (fun n hn => of_decide_eq_true (List.all_eq_true.1 hsz n (DataW.weights_mem_each (j := 1) (d := d1) rfl rfl n hn)))
  clear hA0 hval0
  refine (walk va0 vc0 vs0 la0 lc0 ls0 a1 c1 l1 W hsv0 hV0 hzv0 hsl0 hL0 hzl0 hs1 hb1 hz1).mono fun e W' ⟨he, bel⟩ => ?_
  subst he
  exact ⟨_, rfl, _, _, _, [], _, [], hW', trodAll_mk1 (shut_bool Try.underlying4 _), (trodAll_cons_mk (Below.trod laidOut (by kernel_rfl) (of_decide_eq_true (by kernel_rfl)) k0 bel lt0) (trodAll_cons_mk (Below.trod laidOut (by kernel_rfl) (of_decide_eq_true (by kernel_rfl)) k1 bel lt1) trodAll_mk0)), rfl, bel.frame _, fun h => by cases h⟩

theorem proved : Rows.MemberReachedSaid :=
  OpenClaim.holds_of_wide 10 Try.f10 rfl rfl rfl rfl rfl rfl rfl ⟨rfl, rfl, rfl, rfl, rfl⟩ rfl rfl rfl rfl rfl (by kernel_rfl) Try.func10 (by kernel_rfl)
    (of_decide_eq_true (by kernel_rfl)) (by unfold Func.isWrapper; first | (rw [if_pos (by decide +kernel)]; kernel_rfl) | (rw [if_neg (by decide +kernel)]; exact ⟨rfl, rfl⟩))
    (fun os started H enc _ => lifted os started H enc)
end Go.Proofs.Ytnclkkoefejjiaa.memberReached
namespace Go.Proofs.Ytnclkkoefejjiaa
theorem memberReached_holds : Rows.MemberReachedSaid := memberReached.proved
#print axioms memberReached_holds
end Go.Proofs.Ytnclkkoefejjiaa
