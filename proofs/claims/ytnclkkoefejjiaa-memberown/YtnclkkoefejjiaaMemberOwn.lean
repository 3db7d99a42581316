/- Proved: what is told is new memory: stores into what All and Apply tell leave the members as they were, whatever the members and the change; no condition. -/
import Derived.Test.YtnclkkoefejjiaaMown
import Derived.Test.YtnclkkoefejjiaaMb8
import Derived.Test.YtnclkkoefejjiaaCpi
import Derived.Test.YtnclkkoefejjiaaMk1
namespace Go.Proofs.Ytnclkkoefejjiaa.memberOwn
open Go.ChangeShapes Go.WideShapes Go.ChangeAt Go.RowKit
set_option linter.unusedVariables false

theorem own : ownKnob Try.prog.godebug = none := by kernel_rfl
theorem laidOut : laidOutB Try.prog = true := by kernel_rfl

set_option maxRecDepth 20000 in
set_option maxHeartbeats 16000000 in
theorem walk (va0 : Option Addr) (vc0 : Nat) (vs0 : List Int) (la0 : Option Addr) (lc0 : Nat) (ls0 : List Int) (t1 u1 : Int) (w : World)
    (hsv0 : vs0.length * 8 ≤ 140737488351232) (hV0 : IntsAt w va0 vs0) (hzv : va0 = none → vc0 = 0) (hsl0 : ls0.length * 8 ≤ 140737488351232) (hL0 : IntsAt w la0 ls0) (hzl : la0 = none → lc0 = 0)
    (_ : -9223372036854775808 ≤ t1 ∧ t1 ≤ 9223372036854775807) (bu1 : -9223372036854775808 ≤ u1 ∧ u1 ≤ 9223372036854775807) :
    Calls Try.prog 15 #[mV va0 vs0.length vc0 la0 ls0.length lc0, .agg #[.int .i64 t1, .int .i64 u1]] w fun e w' => e = .returned (.bool true) ∧ Below w.heap.size w w' := by
  obtain ⟨vn, hvn⟩ : ∃ n, vs0.length = n := ⟨_, rfl⟩
  obtain ⟨ln, hln⟩ : ∃ n, ls0.length = n := ⟨_, rfl⟩
  rw [hvn] at hsv0
  rw [hln] at hsl0
  rw [hvn, hln]
  have hvx : vn ≤ maxLen := by simp only [maxLen]; omega
  have hlx : ln ≤ maxLen := by simp only [maxLen]; omega
  have b1 := hide (show Below w.heap.size w ((w.alloc (mB va0 vn vc0 la0 ln lc0)).alloc (cB t1 u1)) from ((Below.refl _ _).alloc (Nat.le_refl _) _).alloc (by simp) _)
  have X1 := hide (heap_old (cB t1 u1) (heap_new w (mB va0 vn vc0 la0 ln lc0)))
  have C1 := hide (show ((w.alloc (mB va0 vn vc0 la0 ln lc0)).alloc (cB t1 u1)).heap[w.heap.size + 1]? = some (cB t1 u1) by
    have := heap_new (w.alloc (mB va0 vn vc0 la0 ln lc0)) (cB t1 u1)
    rwa [World.size_alloc] at this)
  have V := hide (hV0.later (unhide b1))
  have L := hide (hL0.later (unhide b1))
  have VN := hide hvn
  have LN := hide hln
  have ZV := hide hzv
  have ZL := hide hzl
  have SV := hide hsv0
  have SL := hide hsl0
  have U64 := hide (show In64 u1 from bu1)
  have c0 := box_cell (unhide X1) 0 _ rfl
  have c1 := box_cell (unhide X1) 1 _ rfl
  clear hV0 hL0 hvn hln bu1 hzv hzl hsv0 hsl0
  go_enter Try.func15, Try.ntmps15
  go_wp2_with fail
  generalize hD : w.heap.size = D at *
  generalize (w.alloc (mB va0 vn vc0 la0 ln lc0)).alloc (cB t1 u1) = w1 at *
  refine (copy_calls (unhide V) (unhide L) vn ln (unhide VN) (unhide LN) (unhide SV) (unhide SL) (unhide ZV) (unhide ZL)).mono ?_
  rintro e w2 ⟨spO, cO, spP, cP, rfl, oO, oP, _, b2⟩
  have b3 := hide (show Below w2.heap.size w2 (w2.alloc (mB spO vn cO spP ln cP)) from (Below.refl _ _).alloc (Nat.le_refl _) _)
  have Z3 := hide (heap_new w2 (mB spO vn cO spP ln cP))
  have F3 := hide (b2.trans ((unhide b3).mono b2.size))
  have O3 := hide (oO.ints.later (unhide b3))
  have P3 := hide (oP.ints.later (unhide b3))
  have C3 := hide (later_block (unhide F3) (unhide C1))
  have z0 := box_cell (unhide Z3) 0 _ rfl
  have z1 := box_cell (unhide Z3) 1 _ rfl
  have e0 := box_cell (unhide C3) 0 _ rfl
  have e1 := box_cell (unhide C3) 1 _ rfl
  clear oO oP b2 c0 c1 b3
  go_wp2_with fail
  generalize hX : w2.heap.size = X at *
  generalize w2.alloc (mB spO vn cO spP ln cP) = w3 at *
  refine (apply_calls (unhide O3) (unhide P3) vn ln (unhide VN) (unhide LN) hvx hlx t1 u1 (unhide U64)).mono ?_
  rintro e w4 ⟨hres, b4⟩
  obtain ⟨xs, ys, spA, nA, cA, spB, nB, cB', er, rfl, hnA, hnB, oA, oB, ap, lA, lB⟩ := apply_two hres
  have AP := hide ap
  have NA := hide hnA
  have NB := hide hnB
  have LA := hide lA
  have LB := hide lB
  have b5 := hide (show Below w4.heap.size w4 (w4.alloc (mB spA nA cA spB nB cB')) from (Below.refl _ _).alloc (Nat.le_refl _) _)
  have BX := hide (heap_new w4 (mB spA nA cA spB nB cB'))
  have G5 := hide (b4.trans ((unhide b5).mono b4.size))
  have OA := hide (oA.later (unhide b5))
  have OB := hide (oB.later (unhide b5))
  have NYA := hide (show ∀ g, blk spA = some g → g ≠ w4.heap.size from fun g hg => by have := (oA.blk_lt g hg).2; omega)
  have NYB := hide (show ∀ g, blk spB = some g → g ≠ w4.heap.size from fun g hg => by have := (oB.blk_lt g hg).2; omega)
  have YB := hide (show w3.heap.size ≤ w4.heap.size from b4.size)
  have Z5 := hide (later_block (unhide G5) (unhide Z3))
  clear z0 z1 e0 e1
  have z0 := box_cell (unhide Z5) 0 _ rfl
  have z1 := box_cell (unhide Z5) 1 _ rfl
  clear oA oB b4 hnA hnB lA lB b5 hres ap
  go_wp2_with fail
  generalize hY : w4.heap.size = Y at *
  generalize w4.alloc (mB spA nA cA spB nB cB') = w5 at *
  refine (all_calls ((unhide O3).later (unhide G5)) ((unhide P3).later (unhide G5)) vn ln (unhide VN) (unhide LN) hvx hlx).mono ?_
  rintro e w6 ⟨spL, nL, cL, rfl, hnL, oL, b6⟩
  generalize allM vs0 ls0 = qs at *
  have OL := hide oL
  have G6 := hide b6
  have LL := hide (show nL ≤ maxLen by have h1 := oL.cap; have h2 := unhide hnL; omega)
  clear oL b6 z0 z1
  go_wp2_with fail
  go_loopw [9] (fun i wr => ∃ (j : Nat) (ks : List Int), j ≤ nL ∧ i = .int .i64 (j : Int) ∧ Hid (ks.length = nL) ∧ Hid (OwnI w5.heap.size wr spL cL ks) ∧ Hid (Below w5.heap.size w5 wr)) (fun i _ => nL - (intOf i).toNat)
  case atStart => exact ⟨0, qs, by omega, rfl, unhide hnL, unhide OL, unhide G6⟩
  case round =>
    obtain ⟨j, ks, hj, rfl, hks, O, F⟩ := hrel
    have hLx := unhide LL
    simp only [maxLen] at hLx
    by_cases hjm : j < nL
    · have hjk : j < ks.length := by rw [unhide hks]; exact hjm
      obtain ⟨x, hsx, hxb, ⟨y, p0⟩, p1, o2, gr⟩ := (unhide O).setAt j hjk 77 (by omega)
      have O2 := hide o2
      have K2 := hide (show (ks.set j 77).length = nL by rw [List.length_set]; exact unhide hks)
      have F2 := hide ((unhide F).grown gr (unhide F).size (fun g e => by have := Option.some.inj e; omega))
      have hj0 : (0 : Int) ≤ (j : Int) := by omega
      have hj1 : (j : Int) < (nL : Int) := by omega
      subst hsx
      clear gr o2 hxb
      go_wp2
      exact ⟨⟨j + 1, ks.set j 77, by omega, by go_num, unhide K2, unhide O2, unhide F2⟩, by simp [intOf]; omega⟩
    · obtain rfl : j = nL := by omega
      have OA := hide ((unhide OA).later (unhide F))
      have OB := hide ((unhide OB).later (unhide F))
      have BX := hide (later_block (unhide F) (unhide BX))
      have G := hide ((unhide G5).trans ((unhide F).mono (unhide G5).size))
      clear OL G6 F O hks hnL
      by_cases her : er = 0
      · subst her
        have c0 := box_cell (unhide BX) 0 _ rfl
        have c1 := box_cell (unhide BX) 1 _ rfl
        have ba : Below wr.heap.size wr (wr.alloc (.cells #[.int .i64 78] 3)) := (Below.refl _ _).alloc (Nat.le_refl _) _
        have hs5 : Y + 1 ≤ wr.heap.size := (Array.getElem?_eq_some_iff.1 (unhide BX)).1
        have hs2 : w3.heap.size ≤ (wr.alloc (.cells #[.int .i64 78] 3)).heap.size := Nat.le_trans (unhide G).size ba.size
        have BA := hide ba
        have HS5 := hide hs5
        have HS2 := hide hs2
        clear hs5 hs2 ba
        go_wp2_with (at_builtin; refine unhide ?_)
        refine hide ?_
        have ba := unhide BA
        have hs5 := unhide HS5
        have hs2 := unhide HS2
        refine wpList_appendI rfl (.tmp 35) (.tmp 36) rfl w3.heap.size spA nA cA xs rfl (unhide NA) ((unhide OA).later ba) (some ⟨wr.heap.size, 0, none⟩) 1 1 rfl [78] rfl (ints_one (heap_new _ _) (by omega)) (fun h => by cases h) (by have := unhide NA; have := unhide LA; omega) hs2 ?_
        intro sp4 n4 k4 w7 hn4 o4 g4
        have OO := hide (((unhide OB).later ba).stayB (unhide AP) g4)
        have AP := hide ((unhide AP).left g4 ((unhide OB).later ba))
        have NY4 := hide (show ∀ g, blk sp4 = some g → g ≠ Y from fun g hg => by
          rcases g4.lies g hg with h | h
          · exact unhide NYA g h
          · have := ba.size; omega)
        have B6 := hide ((unhide G).trans ((ba.mono (unhide G).size).trans (GrewI.below g4 ((unhide OA).later ba) hs2)))
        have X6 := hide (show w7.heap[Y]? = some (mB spA nA cA spB nB cB') from (g4.grown.block Y (by have := ba.size; omega) (fun e => unhide NYA Y e.symm rfl)).trans (later_block ba (unhide BX)))
        have z0 := box_cell (unhide X6) 0 _ rfl
        have z1 := box_cell (unhide X6) 1 _ rfl
        have z2 := mbox_free (unhide X6) 0
        have BX := hide (heap_setCell_same w7 Y 0 _ 24 (.slice sp4 n4 k4) (unhide X6))
        have gs := grown_set w7 Y 0 (.slice sp4 n4 k4)
        have OA := hide (o4.kept gs (fun g hg e => unhide NY4 g hg (Option.some.inj e).symm))
        have OB := hide ((unhide OO).kept gs (fun g hg e => unhide NYB g hg (Option.some.inj e).symm))
        have G := hide ((unhide B6).grown gs (unhide B6).size (fun g e => by have := Option.some.inj e; have := unhide YB; omega))
        have N4 := hide (show n4 ≤ 10 by have h1 := unhide hn4; have h2 := unhide NA; have h3 := unhide LA; simp at h1; omega)
        have NA := hide (unhide hn4)
        clear o4 g4 hn4 ba hs2 hs5 gs OO c0 c1 BA HS5 HS2
        go_wp2_with fail
        generalize (w7.setCell ⟨Y, 0, none⟩ (.slice sp4 n4 k4)) = w7s at *
        clear z0 z1 z2 X6 B6
        go_loopw [10] (fun i wr => ∃ (j : Nat) (ks : List Int), j ≤ n4 ∧ i = .int .i64 (j : Int) ∧ Hid (ks.length = n4) ∧ Hid (Firsts 78 j ks) ∧ Hid (OwnI w3.heap.size wr sp4 k4 ks) ∧ Hid (OwnI w3.heap.size wr spB cB' ys) ∧ Hid (wr.heap[Y]? = some (mB sp4 n4 k4 spB nB cB')) ∧ Hid (Below w3.heap.size w3 wr)) (fun i _ => n4 - (intOf i).toNat)
        case atStart => exact ⟨0, _, by omega, rfl, unhide NA, Firsts.zero _ _, unhide OA, unhide OB, unhide BX, unhide G⟩
        case round =>
          clear OA OB BX G NA
          obtain ⟨j, ks, hj, rfl, NA, FS, OA, OB, BX, G⟩ := hrel
          have hn4 := unhide N4
          have c0 := box_cell (unhide BX) 0 _ rfl
          by_cases hjm : j < n4
          · have hjk : j < ks.length := by rw [unhide NA]; exact hjm
            obtain ⟨x, hsx, hxb, ⟨y, p0⟩, p1, o2, gr⟩ := (unhide OA).setAt j hjk 78 (by omega)
            have hbx : blk sp4 = some x := by rw [hsx]; rfl
            have O2 := hide o2
            have OB2 := hide ((unhide OB).kept gr (fun g hg e => unhide AP x hbx (by rw [hg, Option.some.inj e])))
            have BX2 := hide ((gr.block Y (Array.getElem?_eq_some_iff.1 (unhide BX)).1 (fun e => unhide NY4 x hbx (Option.some.inj e).symm)).trans (unhide BX))
            have K2 := hide (show (ks.set j 78).length = n4 by rw [List.length_set]; exact unhide NA)
            have FS2 := hide ((unhide FS).step hjk)
            have F2 := hide ((unhide G).grown gr (unhide G).size (fun g e => by have := Option.some.inj e; omega))
            have hj0 : (0 : Int) ≤ (j : Int) := by omega
            have hj1 : (j : Int) < (n4 : Int) := by omega
            clear gr o2 hxb hbx
            rw [hsx] at c0
            go_wp2
            exact ⟨⟨j + 1, ks.set j 78, by omega, by go_num, unhide K2, unhide FS2, unhide O2, unhide OB2, unhide BX2, unhide F2⟩, by simp [intOf]; omega⟩
          · obtain rfl : n4 = j := by omega
            have NYA := hide (unhide NY4)
            have N4A := hide (unhide N4)
            clear NY4 c0
            have c0 := box_cell (unhide BX) 0 _ rfl
            have c1 := box_cell (unhide BX) 1 _ rfl
            have ba : Below wr.heap.size wr (wr.alloc (.cells #[.int .i64 79] 3)) := (Below.refl _ _).alloc (Nat.le_refl _) _
            have hs5 : Y + 1 ≤ wr.heap.size := (Array.getElem?_eq_some_iff.1 (unhide BX)).1
            have hs2 : w3.heap.size ≤ (wr.alloc (.cells #[.int .i64 79] 3)).heap.size := Nat.le_trans (unhide G).size ba.size
            have BA := hide ba
            have HS5 := hide hs5
            have HS2 := hide hs2
            clear hs5 hs2 ba
            go_wp2_with (at_builtin; refine unhide ?_)
            refine hide ?_
            have ba := unhide BA
            have hs5 := unhide HS5
            have hs2 := unhide HS2
            refine wpList_appendI rfl (.tmp 51) (.tmp 52) rfl w3.heap.size spB nB cB' ys rfl (unhide NB) ((unhide OB).later ba) (some ⟨wr.heap.size, 0, none⟩) 1 1 rfl [79] rfl (ints_one (heap_new _ _) (by omega)) (fun h => by cases h) (by have := unhide NB; have := unhide LB; omega) hs2 ?_
            intro sp5 n5 k5 w8 hn4 o4 g4
            have OO := hide (((unhide OA).later ba).stayA (unhide AP) g4)
            have AP := hide ((unhide AP).right g4 ((unhide OA).later ba))
            have NY4 := hide (show ∀ g, blk sp5 = some g → g ≠ Y from fun g hg => by
              rcases g4.lies g hg with h | h
              · exact unhide NYB g h
              · have := ba.size; omega)
            have B6 := hide ((unhide G).trans ((ba.mono (unhide G).size).trans (GrewI.below g4 ((unhide OB).later ba) hs2)))
            have X6 := hide (show w8.heap[Y]? = some (mB sp4 n4 k4 spB nB cB') from (g4.grown.block Y (by have := ba.size; omega) (fun e => unhide NYB Y e.symm rfl)).trans (later_block ba (unhide BX)))
            have z0 := box_cell (unhide X6) 0 _ rfl
            have z1 := box_cell (unhide X6) 1 _ rfl
            have z2 := mbox_free (unhide X6) 1
            have BX := hide (heap_setCell_same w8 Y 1 _ 24 (.slice sp5 n5 k5) (unhide X6))
            have gs := grown_set w8 Y 1 (.slice sp5 n5 k5)
            have OB := hide (o4.kept gs (fun g hg e => unhide NY4 g hg (Option.some.inj e).symm))
            have OA := hide ((unhide OO).kept gs (fun g hg e => unhide NYA g hg (Option.some.inj e).symm))
            have G := hide ((unhide B6).grown gs (unhide B6).size (fun g e => by have := Option.some.inj e; have := unhide YB; omega))
            have N4 := hide (show n5 ≤ 10 by have h1 := unhide hn4; have h2 := unhide NB; have h3 := unhide LB; simp at h1; omega)
            have NB := hide (unhide hn4)
            clear o4 g4 hn4 ba hs2 hs5 gs OO c0 c1 BA HS5 HS2
            go_wp2_with fail
            generalize (w8.setCell ⟨Y, 1, none⟩ (.slice sp5 n5 k5)) = w8s at *
            clear z0 z1 z2 X6 B6
            go_loopw [11] (fun i wr => ∃ (j : Nat) (hs : List Int), j ≤ n5 ∧ i = .int .i64 (j : Int) ∧ Hid (hs.length = n5) ∧ Hid (OwnI w3.heap.size wr sp5 k5 hs) ∧ Hid (OwnI w3.heap.size wr sp4 k4 ks) ∧ Hid (wr.heap[Y]? = some (mB sp4 n4 k4 sp5 n5 k5)) ∧ Hid (Below w3.heap.size w3 wr)) (fun i _ => n5 - (intOf i).toNat)
            case atStart => exact ⟨0, _, by omega, rfl, unhide NB, unhide OB, unhide OA, unhide BX, unhide G⟩
            case round =>
              clear OA OB BX G NB
              obtain ⟨j, hs, hj, rfl, NB, OB, OA, BX, G⟩ := hrel
              have hn5 := unhide N4
              have c1 := box_cell (unhide BX) 1 _ rfl
              by_cases hjm : j < n5
              · have hjk : j < hs.length := by rw [unhide NB]; exact hjm
                obtain ⟨x, hsx, hxb, ⟨y, p0⟩, p1, o2, gr⟩ := (unhide OB).setAt j hjk 79 (by omega)
                have hbx : blk sp5 = some x := by rw [hsx]; rfl
                have O2 := hide o2
                have OA2 := hide ((unhide OA).kept gr (fun g hg e => unhide AP g hg (by rw [hbx, Option.some.inj e])))
                have BX2 := hide ((gr.block Y (Array.getElem?_eq_some_iff.1 (unhide BX)).1 (fun e => unhide NY4 x hbx (Option.some.inj e).symm)).trans (unhide BX))
                have K2 := hide (show (hs.set j 79).length = n5 by rw [List.length_set]; exact unhide NB)
                have F2 := hide ((unhide G).grown gr (unhide G).size (fun g e => by have := Option.some.inj e; omega))
                have hj0 : (0 : Int) ≤ (j : Int) := by omega
                have hj1 : (j : Int) < (n5 : Int) := by omega
                clear gr o2 hxb hbx
                rw [hsx] at c1
                go_wp2
                exact ⟨⟨j + 1, hs.set j 79, by omega, by go_num, unhide K2, unhide O2, unhide OA2, unhide BX2, unhide F2⟩, by simp [intOf]; omega⟩
              · obtain rfl : n5 = j := by omega
                clear NY4 OB NB hs
                go_wp2_with fail
                go_loopw [12] (fun i wr => ∃ (i4 : Nat), i4 ≤ n4 ∧ i = .int .i64 (i4 : Int) ∧ Hid (OwnI w3.heap.size wr sp4 k4 ks) ∧ Hid (wr.heap[Y]? = some (mB sp4 n4 k4 sp5 n5 k5)) ∧ Hid (Below w3.heap.size w3 wr)) (fun i _ => n4 - (intOf i).toNat)
                case atStart => exact ⟨0, by omega, rfl, unhide OA, unhide BX, unhide G⟩
                case round =>
                  clear OA BX G c1
                  obtain ⟨i, hi, rfl, OA, BX, G⟩ := hrel
                  have hn4 := unhide N4A
                  have c0 := box_cell (unhide BX) 0 _ rfl
                  by_cases him : i < n4
                  · have hik : i < ks.length := by rw [unhide NA]; exact him
                    obtain ⟨b, off, hsp, hc⟩ := (unhide OA).ints.cell i hik
                    have h78 : ks[i] = 78 := by
                      have := unhide FS i him
                      rw [List.getElem?_eq_getElem hik] at this
                      exact Option.some.inj this
                    rw [h78] at hc
                    have hi0 : (0 : Int) ≤ (i : Int) := by omega
                    have hi1 : (i : Int) < (n4 : Int) := by omega
                    rw [hsp] at c0
                    clear h78
                    go_wp2
                    exact ⟨⟨i + 1, by omega, by go_num, unhide OA, unhide BX, unhide G⟩, by simp [intOf]; omega⟩
                  · obtain rfl : n4 = i := by omega
                    have Z9 := hide (later_block (unhide G) (unhide Z3))
                    have F9 := hide ((unhide F3).trans ((unhide G).mono (unhide F3).size))
                    have O9 := hide ((unhide O3).later (unhide G))
                    have P9 := hide ((unhide P3).later (unhide G))
                    go_wp2_with fail
                    refine (live3_calls _).mono ?_
                    rintro e wL ⟨rfl, bL⟩
                    have FL := hide ((unhide F9).trans (bL.mono (unhide F9).size))
                    have ZL' := hide (later_block bL (unhide Z9))
                    have XL := hide (later_block (unhide FL) (unhide X1))
                    have OL := hide ((unhide O9).later bL)
                    have PL := hide ((unhide P9).later bL)
                    have c0 := box_cell (unhide XL) 0 _ rfl
                    have c1 := box_cell (unhide XL) 1 _ rfl
                    have z0 := box_cell (unhide ZL') 0 _ rfl
                    have z1 := box_cell (unhide ZL') 1 _ rfl
                    clear bL
                    go_wp2_with fail
                    refine (same_calls (unhide OL) (unhide PL) ((unhide V).later (unhide FL)) ((unhide L).later (unhide FL)) vn ln vn ln (unhide VN) (unhide LN) (unhide VN) (unhide LN) hvx hlx hvx hlx).mono ?_
                    rintro e wM ⟨rfl, bM⟩
                    have FM := hide ((unhide b1).trans (((unhide FL).trans (bM.mono (unhide FL).size)).mono (by have := (unhide b1).size; omega)))
                    rw [show (decide (vs0 = vs0) && decide (ls0 = ls0)) = true by simp]
                    clear bM
                    go_wp2
                    go_ret
                    exact ⟨rfl, by first | exact unhide FM | (rw [hD]; exact unhide FM)⟩
      · have Z9 := hide (later_block (unhide G) (unhide Z3))
        have F9 := hide ((unhide F3).trans ((unhide G).mono (unhide F3).size))
        have O9 := hide ((unhide O3).later (unhide G))
        have P9 := hide ((unhide P3).later (unhide G))
        go_wp2_with fail
        refine (live3_calls _).mono ?_
        rintro e wL ⟨rfl, bL⟩
        have FL := hide ((unhide F9).trans (bL.mono (unhide F9).size))
        have ZL' := hide (later_block bL (unhide Z9))
        have XL := hide (later_block (unhide FL) (unhide X1))
        have OL := hide ((unhide O9).later bL)
        have PL := hide ((unhide P9).later bL)
        have c0 := box_cell (unhide XL) 0 _ rfl
        have c1 := box_cell (unhide XL) 1 _ rfl
        have z0 := box_cell (unhide ZL') 0 _ rfl
        have z1 := box_cell (unhide ZL') 1 _ rfl
        clear bL
        go_wp2_with fail
        refine (same_calls (unhide OL) (unhide PL) ((unhide V).later (unhide FL)) ((unhide L).later (unhide FL)) vn ln vn ln (unhide VN) (unhide LN) (unhide VN) (unhide LN) hvx hlx hvx hlx).mono ?_
        rintro e wM ⟨rfl, bM⟩
        have FM := hide ((unhide b1).trans (((unhide FL).trans (bM.mono (unhide FL).size)).mono (by have := (unhide b1).size; omega)))
        rw [show (decide (vs0 = vs0) && decide (ls0 = ls0)) = true by simp]
        clear bM
        go_wp2
        go_ret
        exact ⟨rfl, by first | exact unhide FM | (rw [hD]; exact unhide FM)⟩

set_option maxRecDepth 100000 in
theorem lifted (os : Os) (started : os.Started) (H : Type) (enc : TypeId × Value → H) :
    ReturnsInHanded {} Try.checked os 15 .any (Rows.memberOwnSpec.pre6 enc Try.prog Try.f15 Rows.memberOwnRow.domain false) (Rows.memberOwnSpec.post enc Try.prog Try.f15 false true false false) := by
  refine returnsInHanded_of_change_sized (C := Try.checked) own started (by kernel_rfl) Try.func15
    (ChangeSpec.witness6 (enc := enc) (C := Try.checked) false ⟨#[], #[.agg #[.slice none 0 0, .slice none 0 0], .agg #[.int .i64 0, .int .i64 0]], []⟩ 8 (by kernel_rfl) (by kernel_rfl) (by kernel_rfl) (by kernel_rfl)) ?_
  intro W base args ds gs before hval0 hW hcnd hsz _
  have hval : ∀ (j : Nat) t v, Try.f15.params[j]? = some t → args[j]? = some v → Value.okWide Try.prog W .any base t v := hval0
  have hW' := hW
  obtain ⟨p, q, hA0, hV, rfl, hfz, hnd⟩ := hW
  have hA : DataW.TrodAll enc Try.prog W 0 (fun _ => true) true Try.f15.params.toList args.toList ds p := hA0
  rw [Try.params15] at hA hval
  obtain ⟨v0, vs0, d0, ds0, p0, q0, hargs, rfl, rfl, h0, r0⟩ := trodAll_cons hA
  obtain ⟨v1, vs1, d1, ds1, p1, q1, rfl, rfl, rfl, h1, r1⟩ := trodAll_cons r0
  obtain ⟨rfl, rfl, rfl⟩ := trodAll_nil r1
  obtain rfl : args = #[v0, v1] := by cases args; simp_all
  obtain ⟨rfl, rfl⟩ := trodVars_none hV
  have k0 := h0
  have lt0 : ∀ x ∈ p0, x.block < W.heap.size := by obtain ⟨m, hm⟩ := k0; exact DataW.trod_lt m _ _ _ hm
  obtain ⟨va0, vc0, vs0, la0, lc0, ls0, rfl, hsv0, hV0, hzv0, hsl0, hL0, hzl0⟩ := open_membersS (hval 0 24 v0 rfl rfl) h0 (fun n hn => of_decide_eq_true (List.all_eq_true.1 hsz n (DataW.weights_mem_each (j := 0) (d := d0) rfl rfl n hn)))
  have k1 := h1
  have lt1 : ∀ x ∈ p1, x.block < W.heap.size := by obtain ⟨m, hm⟩ := k1; exact DataW.trod_lt m _ _ _ hm
  obtain ⟨t1, u1, rfl, bt1, bu1⟩ := open_change (hval 1 40 v1 rfl rfl) h1
  clear hA0 hval0
  refine (walk va0 vc0 vs0 la0 lc0 ls0 t1 u1 W hsv0 hV0 hzv0 hsl0 hL0 hzl0 bt1 bu1).mono fun e W' ⟨he, bel⟩ => ?_
  subst he
  exact ⟨_, rfl, _, _, _, [], _, [], hW', trodAll_mk1 (shut_bool Try.underlying4 _), (trodAll_cons_mk (Below.trod laidOut (by kernel_rfl) (of_decide_eq_true (by kernel_rfl)) k0 bel lt0) (trodAll_cons_mk (Below.trod laidOut (by kernel_rfl) (of_decide_eq_true (by kernel_rfl)) k1 bel lt1) trodAll_mk0)), rfl, bel.frame _, fun h => by cases h⟩

theorem proved : Rows.MemberOwnSaid :=
  OpenClaim.holds_of_wide 15 Try.f15 rfl rfl rfl rfl rfl rfl rfl ⟨rfl, rfl, rfl, rfl, rfl⟩ rfl rfl rfl rfl rfl (by kernel_rfl) Try.func15 (by kernel_rfl)
    (of_decide_eq_true (by kernel_rfl)) (by unfold Func.isWrapper; first | (rw [if_pos (by decide +kernel)]; kernel_rfl) | (rw [if_neg (by decide +kernel)]; exact ⟨rfl, rfl⟩))
    (fun os started H enc _ => lifted os started H enc)
end Go.Proofs.Ytnclkkoefejjiaa.memberOwn
namespace Go.Proofs.Ytnclkkoefejjiaa
theorem memberOwn_holds : Rows.MemberOwnSaid := memberOwn.proved
#print axioms memberOwn_holds
end Go.Proofs.Ytnclkkoefejjiaa
