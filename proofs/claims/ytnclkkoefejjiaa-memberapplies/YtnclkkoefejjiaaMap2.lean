/- The document's Apply. -/
import Derived.Test.YtnclkkoefejjiaaMp1
import Derived.Test.YtnclkkoefejjiaaMpu
namespace Go.Proofs.Ytnclkkoefejjiaa
open Go.ChangeShapes Go.WideShapes Go.ChangeAt Go.RowKit

section
variable {w : World} {va : Option Addr} {vc : Nat} {v : List Int} {la : Option Addr} {lc : Nat} {l : List Int}
set_option maxRecDepth 20000 in
set_option maxHeartbeats 64000000 in
theorem rapply_calls (hv : IntsAt w va v) (hl : IntsAt w la l) (vn ln : Nat) (hvn : v.length = vn) (hln : l.length = ln) (hvx : vn ≤ maxLen) (hlx : ln ≤ maxLen) (d n : Int) :
    Calls Try.prog 31 #[mV va vn vc la ln lc, cV d n] w fun e w' => ApplyRes v l d n w.heap.size e w' ∧ Below w.heap.size w w' := by
  have Z2 : ((w.alloc (mB va vn vc la ln lc)).alloc (cB d n)).heap.size = w.heap.size + 2 := by simp
  have b1 := hide (show Below w.heap.size w (((w.alloc (mB va vn vc la ln lc)).alloc (cB d n)).alloc (mB none 0 0 none 0 0)) from (((Below.refl _ _).alloc (Nat.le_refl _) _).alloc (by simp) _).alloc (by simp; omega) _)
  have X1 := hide (heap_old (mB none 0 0 none 0 0) (heap_old (cB d n) (heap_new w (mB va vn vc la ln lc))))
  have C1 := hide (show (((w.alloc (mB va vn vc la ln lc)).alloc (cB d n)).alloc (mB none 0 0 none 0 0)).heap[w.heap.size + 1]? = some (cB d n) by
    have := heap_new (w.alloc (mB va vn vc la ln lc)) (cB d n)
    rw [World.size_alloc] at this
    exact heap_old _ this)
  have Y1 := hide (show (((w.alloc (mB va vn vc la ln lc)).alloc (cB d n)).alloc (mB none 0 0 none 0 0)).heap[w.heap.size + 2]? = some (mB none 0 0 none 0 0) by
    have := heap_new ((w.alloc (mB va vn vc la ln lc)).alloc (cB d n)) (mB none 0 0 none 0 0)
    rwa [Z2] at this)
  have ZE := hide (show (((w.alloc (mB va vn vc la ln lc)).alloc (cB d n)).alloc (mB none 0 0 none 0 0)).heap.size = w.heap.size + 3 by simp)
  have V := hide (hv.later (unhide b1))
  have L := hide (hl.later (unhide b1))
  have VN := hide hvn
  have LN := hide hln
  have c0 := box_cell (unhide X1) 0 _ rfl
  have c1 := box_cell (unhide X1) 1 _ rfl
  clear hv hl hvn hln Z2
  go_enter Try.func31, Try.ntmps31
  go_wp2_with fail
  generalize hD : w.heap.size = D at *
  generalize ((w.alloc (mB va vn vc la ln lc)).alloc (cB d n)).alloc (mB none 0 0 none 0 0) = w1 at *
  refine (refRight_calls (unhide V) (unhide L) vn ln (unhide VN) (unhide LN) hvx hlx).mono ?_
  rintro e w2 ⟨rfl, b2⟩
  have F2 := hide b2
  clear b2 c0 c1
  have DONE := hide (show ∀ (u : World), Below w1.heap.size w1 u → ∃ W, W.cell? ⟨D + 2, 0, none⟩ = some (.slice none 0 0) ∧ W.cell? ⟨D + 2, 1, none⟩ = some (.slice none 0 0) ∧ Below D w W ∧ (u.setCell ⟨D + 2, 0, none⟩ (.slice none 0 0)).setCell ⟨D + 2, 1, none⟩ (.slice none 0 0) = W ∧ u.cell? ⟨D + 2, 0, none⟩ = some (.slice none 0 0) ∧ u.cell? ⟨D + 2, 1, none⟩ = some (.slice none 0 0) ∧ u.frozen? ⟨D + 2, 0, none⟩ = false ∧ u.frozen? ⟨D + 2, 1, none⟩ = false from fun u F => by
    have Y := later_block F (unhide Y1)
    obtain ⟨W, y0, y1, gW, hW⟩ := two_sets Y (.slice none 0 0) (.slice none 0 0)
    exact ⟨W, y0, y1, (unhide b1).trans (Below.grown (F.mono (by have := unhide ZE; omega) : Below D w1 u) gW (by have := F.size; have := unhide ZE; omega) (fun g e => by have := Option.some.inj e; omega)), hW, box_cell Y 0 _ rfl, box_cell Y 1 _ rfl, mbox_free Y 0, mbox_free Y 1⟩)
  cases hr : rightM v l
  · have AE := hide (show applyE v l d n = 2 by simp [applyE, hr])
    obtain ⟨W, y0, y1, bW, hW, z0, z1, z2, z3⟩ := unhide DONE w2 (unhide F2)
    have HW := hide hW
    clear hW
    go_wp2_with fail
    rw [unhide HW]
    go_wp2
    refine bodyPost_ret (v := .tuple #[mV none 0 0 none 0 0, .int .i64 2]) (by simp [results, Try.results31, go_sem, y0, y1]) rfl ?_
    exact ⟨.inl ⟨by rw [unhide AE]; decide, by rw [unhide AE]⟩, by first | exact bW | (rw [hD]; exact bW)⟩
  · have C2 := hide (later_block (unhide F2) (unhide C1))
    have d0 := box_cell (unhide C2) 0 _ rfl
    have d1 := box_cell (unhide C2) 1 _ rfl
    go_wp2_with fail
    refine (rightChange_calls d n _).mono ?_
    rintro e w3a ⟨rfl, b3⟩
    have F3 := hide ((unhide F2).trans (b3.mono (unhide F2).size))
    clear b3 d0 d1
    cases hm : mayM d n
    · have AE := hide (show applyE v l d n = 2 by simp [applyE, hr, hm])
      obtain ⟨W, y0, y1, bW, hW, z0, z1, z2, z3⟩ := unhide DONE _ (unhide F3)
      have HW := hide hW
      clear hW
      go_wp2_with fail
      rw [unhide HW]
      go_wp2
      refine bodyPost_ret (v := .tuple #[mV none 0 0 none 0 0, .int .i64 2]) (by simp [results, Try.results31, go_sem, y0, y1]) rfl ?_
      exact ⟨.inl ⟨by rw [unhide AE]; decide, by rw [unhide AE]⟩, by first | exact bW | (rw [hD]; exact bW)⟩
    · obtain ⟨hd14, hn1, hn9⟩ := may_parts hm
      have X3 := hide (later_block (unhide F3) (unhide X1))
      have C3 := hide (later_block (unhide F3) (unhide C1))
      have c0 := box_cell (unhide X3) 0 _ rfl
      have c1 := box_cell (unhide X3) 1 _ rfl
      have d0 := box_cell (unhide C3) 0 _ rfl
      have d1 := box_cell (unhide C3) 1 _ rfl
      go_wp2_with fail
      refine (in_calls ((unhide V).later (unhide F3)) n vn (unhide VN) hvx).mono ?_
      rintro e w3b ⟨rfl, rfl⟩
      go_wp2_with fail
      refine (in_calls ((unhide L).later (unhide F3)) n ln (unhide LN) hlx).mono ?_
      rintro e w3 ⟨rfl, rfl⟩
      have DS := ((right_iff v l).1 hr).2.2.2
      rcases kind_three v l n with hkd | hkd | hkd
      · have e1 : decide (n ∈ v) = false := by
          have : n ∉ v := fun h => by have := (kind_voter hr n).2 h; omega
          simp [this]
        have e2 : decide (n ∈ l) = false := by
          have : n ∉ l := fun h => by have := (kind_learner v l n).2 h; omega
          simp [this]
        rw [e1, e2]
        clear e1 e2 DS
        rcases (by omega : d = 1 ∨ d = 2 ∨ d = 3 ∨ d = 4) with rfl | rfl | rfl | rfl
        · have AE := hide (show applyE v l 1 n = 0 by simp [applyE, hr, hm, hkd, turnedM])
          have KK := hide (show (turnedM (kindM v l n) 1 v.length).1 = 2 by simp [hkd, turnedM])
          obtain ⟨pA, hpA⟩ : ∃ p : Int → Bool, p = fun x => decide (upd (kindM v l) n 2 x = 1) := ⟨_, rfl⟩
          obtain ⟨pB, hpB⟩ : ∃ p : Int → Bool, p = fun x => decide (upd (kindM v l) n 2 x = 2) := ⟨_, rfl⟩
          have PA := hide hpA
          have PB := hide hpB
          clear hpA hpB
          have b4 := hide (show Below w3.heap.size w3 (w3.alloc (mB none 0 0 none 0 0)) from (Below.refl _ _).alloc (Nat.le_refl _) _)
          have X4 := hide (heap_new w3 (mB none 0 0 none 0 0))
          have F4 := hide ((unhide F3).trans ((unhide b4).mono (unhide F3).size))
          have OL := hide (show w3.heap.size < (w3.alloc (mB none 0 0 none 0 0)).heap.size by simp)
          have OW := hide (show w1.heap.size ≤ w3.heap.size from (unhide F3).size)
          go_wp2_with fail
          generalize hO : w3.heap.size = O at *
          generalize w3.alloc (mB none 0 0 none 0 0) = w4 at *
          have KF := hide (show ∀ u : World, Below O w4 u → Below w1.heap.size w1 u from fun u h => (unhide F4).trans (h.mono (unhide OW)))
          have KX := hide (show ∀ u : World, Below O w4 u → Hid (u.heap[D]? = some (mB va vn vc la ln lc)) from fun u h => later_block (unhide KF u h) (unhide X1))
          have KC := hide (show ∀ u : World, Below O w4 u → Hid (u.heap[D + 1]? = some (cB 1 n)) from fun u h => later_block (unhide KF u h) (unhide C1))
          have KV := hide (show ∀ u : World, Below O w4 u → IntsAt u va v from fun u h => (unhide V).later (unhide KF u h))
          have KL := hide (show ∀ u : World, Below O w4 u → IntsAt u la l from fun u h => (unhide L).later (unhide KF u h))
          go_loopw [12] (fun i wr => ∃ (k nA cA nB cB' : Nat) (spA spB : Option Addr), k ≤ 9 ∧ True ∧ i = .int .i64 ((k : Int) + 1) ∧ Hid (wr.heap[O]? = some (mB spA nA cA spB nB cB')) ∧ Hid ((numsTo pA k).length = nA) ∧ Hid ((numsTo pB k).length = nB) ∧ Hid (OwnI (O + 1) wr spA cA (numsTo pA k)) ∧ Hid (OwnI (O + 1) wr spB cB' (numsTo pB k)) ∧ Hid (Apart spA spB) ∧ Hid (Below O w4 wr)) (fun i _ => (10 - intOf i).toNat)
          case atStart => exact ⟨0, 0, 0, 0, 0, none, none, by omega, trivial, rfl, unhide X4, rfl, rfl, OwnI.ofNil _ _, OwnI.ofNil _ _, Apart.none_left _, Below.refl _ _⟩
          case round =>
            obtain ⟨k, nA, cA, nB, cB', spA, spB, hk, _, rfl, BX, NA, NB, OA, OB, AP, F⟩ := hrel
            have m0 := box_cell (unhide (unhide KX _ (unhide F))) 0 _ rfl
            have m1 := box_cell (unhide (unhide KX _ (unhide F))) 1 _ rfl
            have d0 := box_cell (unhide (unhide KC _ (unhide F))) 0 _ rfl
            have d1 := box_cell (unhide (unhide KC _ (unhide F))) 1 _ rfl
            by_cases hk9 : k < 9
            · have hi1 : (k : Int) + 1 ≤ 9 := by omega
              have hpA := unhide PA
              have hpB := unhide PB
              by_cases hxn : (k : Int) + 1 = n
              · have SA := hide (show pA ((k : Int) + 1) = false by simp [hpA, upd, hxn])
                rw [← nums_step_no (p := pA) (k := k) (by exact unhide SA)] at NA OA
                have SB := hide (show pB ((k : Int) + 1) = true by simp [hpB, upd, hxn])
                have m0 := box_cell (unhide (unhide KX _ (unhide F))) 0 _ rfl
                have m1 := box_cell (unhide (unhide KX _ (unhide F))) 1 _ rfl
                have d0 := box_cell (unhide (unhide KC _ (unhide F))) 0 _ rfl
                have d1 := box_cell (unhide (unhide KC _ (unhide F))) 1 _ rfl
                have c0 := box_cell (unhide BX) 0 _ rfl
                have c1 := box_cell (unhide BX) 1 _ rfl
                go_wp2_with (at_builtin; refine unhide ?_)
                refine hide ?_
                have ba : Below wr.heap.size wr (wr.alloc (.cells #[.int .i64 n] 3)) := (Below.refl _ _).alloc (Nat.le_refl _) _
                have hs5 : O + 1 ≤ wr.heap.size := (Array.getElem?_eq_some_iff.1 (unhide BX)).1
                have hs2 : O + 1 ≤ (wr.alloc (.cells #[.int .i64 n] 3)).heap.size := Nat.le_trans hs5 ba.size
                refine wpList_appendI rfl (.tmp 119) (.tmp 121) rfl (O + 1) spB nB cB' (numsTo pB k) rfl (unhide NB) ((unhide OB).later ba) (some ⟨wr.heap.size, 0, none⟩) 1 1 rfl [n] rfl (ints_one (heap_new _ _) (by omega)) (fun h => by cases h) (by have := nums_len pB k; omega) hs2 ?_
                intro sp5 n5 k5 w8 hn5 o5 g5
                have OO := hide (((unhide OA).later ba).stayA (unhide AP) g5)
                have AP := hide ((unhide AP).right g5 ((unhide OA).later ba))
                have B6 := hide ((unhide F).trans ((ba.mono (by omega)).trans ((GrewI.below g5 ((unhide OB).later ba) hs2).mono (by omega))))
                have X6 := hide (show w8.heap[O]? = some (mB spA nA cA spB nB cB') from ((GrewI.below g5 ((unhide OB).later ba) hs2).block O (by omega)).trans (later_block ba (unhide BX)))
                have z0 := box_cell (unhide X6) 0 _ rfl
                have z1 := box_cell (unhide X6) 1 _ rfl
                have z2 := mbox_free (unhide X6) 1
                have BX := hide (heap_setCell_same w8 O 1 _ 24 (.slice sp5 n5 k5) (unhide X6))
                have gs := grown_set w8 O 1 (.slice sp5 n5 k5)
                have NB := hide (show (numsTo pB (k + 1)).length = n5 by rw [nums_step_yes (p := pB) (by exact unhide SB), hxn]; exact unhide hn5)
                have OB := hide (show OwnI (O + 1) (w8.setCell ⟨O, 1, none⟩ (.slice sp5 n5 k5)) sp5 k5 (numsTo pB (k + 1)) by rw [nums_step_yes (p := pB) (by exact unhide SB), hxn]; exact o5.kept gs (fun g hg e => by have h1 := (o5.blk_lt g hg).1; have h2 := Option.some.inj e; omega))
                have OA := hide ((unhide OO).kept gs (fun g hg e => by have h1 := ((unhide OO).blk_lt g hg).1; have h2 := Option.some.inj e; omega))
                have F := hide ((unhide B6).grown gs (by have := (unhide B6).size; have := unhide OL; omega) (fun g e => by have := Option.some.inj e; omega))
                clear o5 g5 hn5 ba hs2 hs5 gs OO c0 c1
                go_wp2
                exact ⟨⟨k + 1, nA, cA, n5, k5, spA, sp5, by omega, trivial, by go_num, unhide BX, unhide NA, unhide NB, unhide OA, unhide OB, unhide AP, unhide F⟩, by simp [intOf]; omega⟩
              · have hxn' : ¬ (n = (k : Int) + 1) := fun e => hxn e.symm
                go_wp2_with fail
                refine (in_calls (unhide KV _ (unhide F)) ((k : Int) + 1) vn (unhide VN) hvx).mono ?_
                rintro e w5 ⟨rfl, rfl⟩
                by_cases hv2 : ((k : Int) + 1) ∈ v
                · rw [show decide (((k : Int) + 1) ∈ v) = true by simp [hv2]]
                  have SA := hide (show pA ((k : Int) + 1) = true by simp [hpA, upd, hxn, (kind_voter hr ((k : Int) + 1)).2 hv2])
                  clear hv2
                  have c0 := box_cell (unhide BX) 0 _ rfl
                  have c1 := box_cell (unhide BX) 1 _ rfl
                  go_wp2_with (at_builtin; refine unhide ?_)
                  refine hide ?_
                  have ba : Below w5.heap.size w5 (w5.alloc (.cells #[.int .i64 ((k : Int) + 1)] 3)) := (Below.refl _ _).alloc (Nat.le_refl _) _
                  have hs5 : O + 1 ≤ w5.heap.size := (Array.getElem?_eq_some_iff.1 (unhide BX)).1
                  have hs2 : O + 1 ≤ (w5.alloc (.cells #[.int .i64 ((k : Int) + 1)] 3)).heap.size := Nat.le_trans hs5 ba.size
                  refine wpList_appendI rfl (.tmp 94) (.tmp 96) rfl (O + 1) spA nA cA (numsTo pA k) rfl (unhide NA) ((unhide OA).later ba) (some ⟨w5.heap.size, 0, none⟩) 1 1 rfl [((k : Int) + 1)] rfl (ints_one (heap_new _ _) (by omega)) (fun h => by cases h) (by have := nums_len pA k; omega) hs2 ?_
                  intro sp4 n4 k4 w6 hn4 o4 g4
                  have OO := hide (((unhide OB).later ba).stayB (unhide AP) g4)
                  have AP := hide ((unhide AP).left g4 ((unhide OB).later ba))
                  have B6 := hide ((unhide F).trans ((ba.mono (by omega)).trans ((GrewI.below g4 ((unhide OA).later ba) hs2).mono (by omega))))
                  have X6 := hide (show w6.heap[O]? = some (mB spA nA cA spB nB cB') from ((GrewI.below g4 ((unhide OA).later ba) hs2).block O (by omega)).trans (later_block ba (unhide BX)))
                  have z0 := box_cell (unhide X6) 0 _ rfl
                  have z1 := box_cell (unhide X6) 1 _ rfl
                  have z2 := mbox_free (unhide X6) 0
                  have BX := hide (heap_setCell_same w6 O 0 _ 24 (.slice sp4 n4 k4) (unhide X6))
                  have gs := grown_set w6 O 0 (.slice sp4 n4 k4)
                  have NA := hide (show (numsTo pA (k + 1)).length = n4 by rw [nums_step_yes (p := pA) (by exact unhide SA)]; exact unhide hn4)
                  have OA := hide (show OwnI (O + 1) (w6.setCell ⟨O, 0, none⟩ (.slice sp4 n4 k4)) sp4 k4 (numsTo pA (k + 1)) by rw [nums_step_yes (p := pA) (by exact unhide SA)]; exact o4.kept gs (fun g hg e => by have h1 := (o4.blk_lt g hg).1; have h2 := Option.some.inj e; omega))
                  have OB := hide ((unhide OO).kept gs (fun g hg e => by have h1 := ((unhide OO).blk_lt g hg).1; have h2 := Option.some.inj e; omega))
                  have F := hide ((unhide B6).grown gs (by have := (unhide B6).size; have := unhide OL; omega) (fun g e => by have := Option.some.inj e; omega))
                  clear o4 g4 hn4 ba hs2 hs5 gs OO c0 c1
                  have m0 := box_cell (unhide (unhide KX _ (unhide F))) 0 _ rfl
                  have m1 := box_cell (unhide (unhide KX _ (unhide F))) 1 _ rfl
                  have d0 := box_cell (unhide (unhide KC _ (unhide F))) 0 _ rfl
                  have d1 := box_cell (unhide (unhide KC _ (unhide F))) 1 _ rfl
                  go_wp2_with fail
                  refine (in_calls (unhide KL _ (unhide F)) ((k : Int) + 1) ln (unhide LN) hlx).mono ?_
                  rintro e w7 ⟨rfl, h7⟩
                  clear m0 m1 d0 d1
                  rw [← h7] at BX OA OB F
                  clear h7
                  have m0 := box_cell (unhide (unhide KX _ (unhide F))) 0 _ rfl
                  have m1 := box_cell (unhide (unhide KX _ (unhide F))) 1 _ rfl
                  have d0 := box_cell (unhide (unhide KC _ (unhide F))) 0 _ rfl
                  have d1 := box_cell (unhide (unhide KC _ (unhide F))) 1 _ rfl
                  by_cases hl2 : ((k : Int) + 1) ∈ l
                  · rw [show decide (((k : Int) + 1) ∈ l) = true by simp [hl2]]
                    have SB := hide (show pB ((k : Int) + 1) = true by simp [hpB, upd, hxn, (kind_learner v l ((k : Int) + 1)).2 hl2])
                    clear hl2
                    have c0 := box_cell (unhide BX) 0 _ rfl
                    have c1 := box_cell (unhide BX) 1 _ rfl
                    go_wp2_with (at_builtin; refine unhide ?_)
                    refine hide ?_
                    have ba : Below w7.heap.size w7 (w7.alloc (.cells #[.int .i64 ((k : Int) + 1)] 3)) := (Below.refl _ _).alloc (Nat.le_refl _) _
                    have hs5 : O + 1 ≤ w7.heap.size := (Array.getElem?_eq_some_iff.1 (unhide BX)).1
                    have hs2 : O + 1 ≤ (w7.alloc (.cells #[.int .i64 ((k : Int) + 1)] 3)).heap.size := Nat.le_trans hs5 ba.size
                    refine wpList_appendI rfl (.tmp 119) (.tmp 121) rfl (O + 1) spB nB cB' (numsTo pB k) rfl (unhide NB) ((unhide OB).later ba) (some ⟨w7.heap.size, 0, none⟩) 1 1 rfl [((k : Int) + 1)] rfl (ints_one (heap_new _ _) (by omega)) (fun h => by cases h) (by have := nums_len pB k; omega) hs2 ?_
                    intro sp5 n5 k5 w8 hn5 o5 g5
                    have OO := hide (((unhide OA).later ba).stayA (unhide AP) g5)
                    have AP := hide ((unhide AP).right g5 ((unhide OA).later ba))
                    have B6 := hide ((unhide F).trans ((ba.mono (by omega)).trans ((GrewI.below g5 ((unhide OB).later ba) hs2).mono (by omega))))
                    have X6 := hide (show w8.heap[O]? = some (mB sp4 n4 k4 spB nB cB') from ((GrewI.below g5 ((unhide OB).later ba) hs2).block O (by omega)).trans (later_block ba (unhide BX)))
                    have z0 := box_cell (unhide X6) 0 _ rfl
                    have z1 := box_cell (unhide X6) 1 _ rfl
                    have z2 := mbox_free (unhide X6) 1
                    have BX := hide (heap_setCell_same w8 O 1 _ 24 (.slice sp5 n5 k5) (unhide X6))
                    have gs := grown_set w8 O 1 (.slice sp5 n5 k5)
                    have NB := hide (show (numsTo pB (k + 1)).length = n5 by rw [nums_step_yes (p := pB) (by exact unhide SB)]; exact unhide hn5)
                    have OB := hide (show OwnI (O + 1) (w8.setCell ⟨O, 1, none⟩ (.slice sp5 n5 k5)) sp5 k5 (numsTo pB (k + 1)) by rw [nums_step_yes (p := pB) (by exact unhide SB)]; exact o5.kept gs (fun g hg e => by have h1 := (o5.blk_lt g hg).1; have h2 := Option.some.inj e; omega))
                    have OA := hide ((unhide OO).kept gs (fun g hg e => by have h1 := ((unhide OO).blk_lt g hg).1; have h2 := Option.some.inj e; omega))
                    have F := hide ((unhide B6).grown gs (by have := (unhide B6).size; have := unhide OL; omega) (fun g e => by have := Option.some.inj e; omega))
                    clear o5 g5 hn5 ba hs2 hs5 gs OO c0 c1
                    go_wp2
                    exact ⟨⟨k + 1, n4, k4, n5, k5, sp4, sp5, by omega, trivial, by go_num, unhide BX, unhide NA, unhide NB, unhide OA, unhide OB, unhide AP, unhide F⟩, by simp [intOf]; omega⟩
                  · rw [show decide (((k : Int) + 1) ∈ l) = false by simp [hl2]]
                    have SB := hide (show pB ((k : Int) + 1) = false by
                      have : ¬ kindM v l ((k : Int) + 1) = 2 := fun h => hl2 ((kind_learner v l _).1 h)
                      simp [hpB, upd, hxn, this])
                    clear hl2
                    rw [← nums_step_no (p := pB) (k := k) (by exact unhide SB)] at NB OB
                    go_wp2
                    exact ⟨⟨k + 1, n4, k4, nB, cB', sp4, spB, by omega, trivial, by go_num, unhide BX, unhide NA, unhide NB, unhide OA, unhide OB, unhide AP, unhide F⟩, by simp [intOf]; omega⟩
                · rw [show decide (((k : Int) + 1) ∈ v) = false by simp [hv2]]
                  have SA := hide (show pA ((k : Int) + 1) = false by
                    have : ¬ kindM v l ((k : Int) + 1) = 1 := fun h => hv2 ((kind_voter hr _).1 h)
                    simp [hpA, upd, hxn, this])
                  clear hv2
                  rw [← nums_step_no (p := pA) (k := k) (by exact unhide SA)] at NA OA
                  have m0 := box_cell (unhide (unhide KX _ (unhide F))) 0 _ rfl
                  have m1 := box_cell (unhide (unhide KX _ (unhide F))) 1 _ rfl
                  have d0 := box_cell (unhide (unhide KC _ (unhide F))) 0 _ rfl
                  have d1 := box_cell (unhide (unhide KC _ (unhide F))) 1 _ rfl
                  go_wp2_with fail
                  refine (in_calls (unhide KL _ (unhide F)) ((k : Int) + 1) ln (unhide LN) hlx).mono ?_
                  rintro e w7 ⟨rfl, h7⟩
                  clear m0 m1 d0 d1
                  rw [← h7] at BX OA OB F
                  clear h7
                  have m0 := box_cell (unhide (unhide KX _ (unhide F))) 0 _ rfl
                  have m1 := box_cell (unhide (unhide KX _ (unhide F))) 1 _ rfl
                  have d0 := box_cell (unhide (unhide KC _ (unhide F))) 0 _ rfl
                  have d1 := box_cell (unhide (unhide KC _ (unhide F))) 1 _ rfl
                  by_cases hl2 : ((k : Int) + 1) ∈ l
                  · rw [show decide (((k : Int) + 1) ∈ l) = true by simp [hl2]]
                    have SB := hide (show pB ((k : Int) + 1) = true by simp [hpB, upd, hxn, (kind_learner v l ((k : Int) + 1)).2 hl2])
                    clear hl2
                    have c0 := box_cell (unhide BX) 0 _ rfl
                    have c1 := box_cell (unhide BX) 1 _ rfl
                    go_wp2_with (at_builtin; refine unhide ?_)
                    refine hide ?_
                    have ba : Below w7.heap.size w7 (w7.alloc (.cells #[.int .i64 ((k : Int) + 1)] 3)) := (Below.refl _ _).alloc (Nat.le_refl _) _
                    have hs5 : O + 1 ≤ w7.heap.size := (Array.getElem?_eq_some_iff.1 (unhide BX)).1
                    have hs2 : O + 1 ≤ (w7.alloc (.cells #[.int .i64 ((k : Int) + 1)] 3)).heap.size := Nat.le_trans hs5 ba.size
                    refine wpList_appendI rfl (.tmp 119) (.tmp 121) rfl (O + 1) spB nB cB' (numsTo pB k) rfl (unhide NB) ((unhide OB).later ba) (some ⟨w7.heap.size, 0, none⟩) 1 1 rfl [((k : Int) + 1)] rfl (ints_one (heap_new _ _) (by omega)) (fun h => by cases h) (by have := nums_len pB k; omega) hs2 ?_
                    intro sp5 n5 k5 w8 hn5 o5 g5
                    have OO := hide (((unhide OA).later ba).stayA (unhide AP) g5)
                    have AP := hide ((unhide AP).right g5 ((unhide OA).later ba))
                    have B6 := hide ((unhide F).trans ((ba.mono (by omega)).trans ((GrewI.below g5 ((unhide OB).later ba) hs2).mono (by omega))))
                    have X6 := hide (show w8.heap[O]? = some (mB spA nA cA spB nB cB') from ((GrewI.below g5 ((unhide OB).later ba) hs2).block O (by omega)).trans (later_block ba (unhide BX)))
                    have z0 := box_cell (unhide X6) 0 _ rfl
                    have z1 := box_cell (unhide X6) 1 _ rfl
                    have z2 := mbox_free (unhide X6) 1
                    have BX := hide (heap_setCell_same w8 O 1 _ 24 (.slice sp5 n5 k5) (unhide X6))
                    have gs := grown_set w8 O 1 (.slice sp5 n5 k5)
                    have NB := hide (show (numsTo pB (k + 1)).length = n5 by rw [nums_step_yes (p := pB) (by exact unhide SB)]; exact unhide hn5)
                    have OB := hide (show OwnI (O + 1) (w8.setCell ⟨O, 1, none⟩ (.slice sp5 n5 k5)) sp5 k5 (numsTo pB (k + 1)) by rw [nums_step_yes (p := pB) (by exact unhide SB)]; exact o5.kept gs (fun g hg e => by have h1 := (o5.blk_lt g hg).1; have h2 := Option.some.inj e; omega))
                    have OA := hide ((unhide OO).kept gs (fun g hg e => by have h1 := ((unhide OO).blk_lt g hg).1; have h2 := Option.some.inj e; omega))
                    have F := hide ((unhide B6).grown gs (by have := (unhide B6).size; have := unhide OL; omega) (fun g e => by have := Option.some.inj e; omega))
                    clear o5 g5 hn5 ba hs2 hs5 gs OO c0 c1
                    go_wp2
                    exact ⟨⟨k + 1, nA, cA, n5, k5, spA, sp5, by omega, trivial, by go_num, unhide BX, unhide NA, unhide NB, unhide OA, unhide OB, unhide AP, unhide F⟩, by simp [intOf]; omega⟩
                  · rw [show decide (((k : Int) + 1) ∈ l) = false by simp [hl2]]
                    have SB := hide (show pB ((k : Int) + 1) = false by
                      have : ¬ kindM v l ((k : Int) + 1) = 2 := fun h => hl2 ((kind_learner v l _).1 h)
                      simp [hpB, upd, hxn, this])
                    clear hl2
                    rw [← nums_step_no (p := pB) (k := k) (by exact unhide SB)] at NB OB
                    go_wp2
                    exact ⟨⟨k + 1, nA, cA, nB, cB', spA, spB, by omega, trivial, by go_num, unhide BX, unhide NA, unhide NB, unhide OA, unhide OB, unhide AP, unhide F⟩, by simp [intOf]; omega⟩
            · obtain rfl : k = 9 := by omega
              have c0 := box_cell (unhide BX) 0 _ rfl
              have c1 := box_cell (unhide BX) 1 _ rfl
              have F5 := hide (unhide KF _ (unhide F))
              have Y5 := hide (later_block (unhide F5) (unhide Y1))
              obtain ⟨W, y0, y1, gW, hW⟩ := two_sets (unhide Y5) (.slice spA nA cA) (.slice spB nB cB')
              have HW := hide hW
              have z0 := box_cell (unhide Y5) 0 _ rfl
              have z1 := box_cell (unhide Y5) 1 _ rfl
              have z2 := mbox_free (unhide Y5) 0
              have z3 := mbox_free (unhide Y5) 1
              have OAW := hide ((unhide OA).kept gW (fun g hg e => by have h1 := ((unhide OA).blk_lt g hg).1; have h2 := Option.some.inj e; have h3 := unhide ZE; have h4 := unhide OW; omega))
              have OBW := hide ((unhide OB).kept gW (fun g hg e => by have h1 := ((unhide OB).blk_lt g hg).1; have h2 := Option.some.inj e; have h3 := unhide ZE; have h4 := unhide OW; omega))
              have bW := hide ((unhide b1).trans (Below.grown ((unhide F5).mono (by have := unhide ZE; omega) : Below D w1 _) gW (by have := (unhide F5).size; have := unhide ZE; omega) (fun g e => by have := Option.some.inj e; omega)))
              clear hW gW
              go_wp2_with fail
              rw [unhide HW]
              go_wp2
              refine bodyPost_ret (v := .tuple #[mV spA nA cA spB nB cB', .int .i64 0]) (by simp [results, Try.results31, go_sem, y0, y1]) rfl ?_
              refine ⟨.inr ⟨unhide AE, hr, hm, spA, nA, cA, spB, nB, cB', rfl, ?_, ?_, ?_, ?_, unhide AP⟩, by first | exact unhide bW | (rw [hD]; exact unhide bW)⟩
              · rw [unhide KK, votersTo, ← unhide PA]; exact unhide NA
              · rw [unhide KK, learnersTo, ← unhide PB]; exact unhide NB
              · rw [unhide KK, votersTo, ← unhide PA]; exact (unhide OAW).mono (by have h3 := unhide ZE; have h4 := unhide OW; omega)
              · rw [unhide KK, learnersTo, ← unhide PB]; exact (unhide OBW).mono (by have h3 := unhide ZE; have h4 := unhide OW; omega)
        · have AE := hide (show applyE v l 2 n = 8 by simp [applyE, hr, hm, hkd, turnedM])
          obtain ⟨W, y0, y1, bW, hW, z0, z1, z2, z3⟩ := unhide DONE _ (unhide F3)
          have HW := hide hW
          clear hW
          go_wp2_with fail
          rw [unhide HW]
          go_wp2
          refine bodyPost_ret (v := .tuple #[mV none 0 0 none 0 0, .int .i64 8]) (by simp [results, Try.results31, go_sem, y0, y1]) rfl ?_
          exact ⟨.inl ⟨by rw [unhide AE]; decide, by rw [unhide AE]⟩, by first | exact bW | (rw [hD]; exact bW)⟩
        · have AE := hide (show applyE v l 3 n = 8 by simp [applyE, hr, hm, hkd, turnedM])
          obtain ⟨W, y0, y1, bW, hW, z0, z1, z2, z3⟩ := unhide DONE _ (unhide F3)
          have HW := hide hW
          clear hW
          go_wp2_with fail
          rw [unhide HW]
          go_wp2
          refine bodyPost_ret (v := .tuple #[mV none 0 0 none 0 0, .int .i64 8]) (by simp [results, Try.results31, go_sem, y0, y1]) rfl ?_
          exact ⟨.inl ⟨by rw [unhide AE]; decide, by rw [unhide AE]⟩, by first | exact bW | (rw [hD]; exact bW)⟩
        · have AE := hide (show applyE v l 4 n = 8 by simp [applyE, hr, hm, hkd, turnedM])
          obtain ⟨W, y0, y1, bW, hW, z0, z1, z2, z3⟩ := unhide DONE _ (unhide F3)
          have HW := hide hW
          clear hW
          go_wp2_with fail
          rw [unhide HW]
          go_wp2
          refine bodyPost_ret (v := .tuple #[mV none 0 0 none 0 0, .int .i64 8]) (by simp [results, Try.results31, go_sem, y0, y1]) rfl ?_
          exact ⟨.inl ⟨by rw [unhide AE]; decide, by rw [unhide AE]⟩, by first | exact bW | (rw [hD]; exact bW)⟩
      · have e1 : decide (n ∈ v) = true := by simp [(kind_voter hr n).1 hkd]
        have e2 : decide (n ∈ l) = false := by simp [DS n ((kind_voter hr n).1 hkd)]
        rw [e1, e2]
        clear e1 e2 DS
        rcases (by omega : d = 1 ∨ d = 2 ∨ d = 3 ∨ d = 4) with rfl | rfl | rfl | rfl
        · have AE := hide (show applyE v l 1 n = 7 by simp [applyE, hr, hm, hkd, turnedM])
          obtain ⟨W, y0, y1, bW, hW, z0, z1, z2, z3⟩ := unhide DONE _ (unhide F3)
          have HW := hide hW
          clear hW
          go_wp2_with fail
          rw [unhide HW]
          go_wp2
          refine bodyPost_ret (v := .tuple #[mV none 0 0 none 0 0, .int .i64 7]) (by simp [results, Try.results31, go_sem, y0, y1]) rfl ?_
          exact ⟨.inl ⟨by rw [unhide AE]; decide, by rw [unhide AE]⟩, by first | exact bW | (rw [hD]; exact bW)⟩
        · have AE := hide (show applyE v l 2 n = 8 by simp [applyE, hr, hm, hkd, turnedM])
          obtain ⟨W, y0, y1, bW, hW, z0, z1, z2, z3⟩ := unhide DONE _ (unhide F3)
          have HW := hide hW
          clear hW
          go_wp2_with fail
          rw [unhide HW]
          go_wp2
          refine bodyPost_ret (v := .tuple #[mV none 0 0 none 0 0, .int .i64 8]) (by simp [results, Try.results31, go_sem, y0, y1]) rfl ?_
          exact ⟨.inl ⟨by rw [unhide AE]; decide, by rw [unhide AE]⟩, by first | exact bW | (rw [hD]; exact bW)⟩
        · by_cases hv1 : v.length = 1
          · have hv1' : (vn : Int) = 1 := by have := unhide VN; omega
            have AE := hide (show applyE v l 3 n = 6 by simp [applyE, hr, hm, hkd, turnedM, hv1])
            obtain ⟨W, y0, y1, bW, hW, z0, z1, z2, z3⟩ := unhide DONE _ (unhide F3)
            have HW := hide hW
            clear hW
            go_wp2_with fail
            rw [unhide HW]
            go_wp2
            refine bodyPost_ret (v := .tuple #[mV none 0 0 none 0 0, .int .i64 6]) (by simp [results, Try.results31, go_sem, y0, y1]) rfl ?_
            exact ⟨.inl ⟨by rw [unhide AE]; decide, by rw [unhide AE]⟩, by first | exact bW | (rw [hD]; exact bW)⟩
          · have hv1' : ¬ ((vn : Int) = 1) := by have := unhide VN; omega
            have hv1b : ((vn : Int) == 1) = false := by simp [hv1']
            have AE := hide (show applyE v l 3 n = 0 by simp [applyE, hr, hm, hkd, turnedM, hv1])
            have KK := hide (show (turnedM (kindM v l n) 3 v.length).1 = 2 by simp [hkd, turnedM, hv1])
            obtain ⟨pA, hpA⟩ : ∃ p : Int → Bool, p = fun x => decide (upd (kindM v l) n 2 x = 1) := ⟨_, rfl⟩
            obtain ⟨pB, hpB⟩ : ∃ p : Int → Bool, p = fun x => decide (upd (kindM v l) n 2 x = 2) := ⟨_, rfl⟩
            have PA := hide hpA
            have PB := hide hpB
            clear hpA hpB
            have b4 := hide (show Below w3.heap.size w3 (w3.alloc (mB none 0 0 none 0 0)) from (Below.refl _ _).alloc (Nat.le_refl _) _)
            have X4 := hide (heap_new w3 (mB none 0 0 none 0 0))
            have F4 := hide ((unhide F3).trans ((unhide b4).mono (unhide F3).size))
            have OL := hide (show w3.heap.size < (w3.alloc (mB none 0 0 none 0 0)).heap.size by simp)
            have OW := hide (show w1.heap.size ≤ w3.heap.size from (unhide F3).size)
            go_wp2_with fail
            generalize hO : w3.heap.size = O at *
            generalize w3.alloc (mB none 0 0 none 0 0) = w4 at *
            have KF := hide (show ∀ u : World, Below O w4 u → Below w1.heap.size w1 u from fun u h => (unhide F4).trans (h.mono (unhide OW)))
            have KX := hide (show ∀ u : World, Below O w4 u → Hid (u.heap[D]? = some (mB va vn vc la ln lc)) from fun u h => later_block (unhide KF u h) (unhide X1))
            have KC := hide (show ∀ u : World, Below O w4 u → Hid (u.heap[D + 1]? = some (cB 3 n)) from fun u h => later_block (unhide KF u h) (unhide C1))
            have KV := hide (show ∀ u : World, Below O w4 u → IntsAt u va v from fun u h => (unhide V).later (unhide KF u h))
            have KL := hide (show ∀ u : World, Below O w4 u → IntsAt u la l from fun u h => (unhide L).later (unhide KF u h))
            go_loopw [12] (fun i wr => ∃ (k nA cA nB cB' : Nat) (spA spB : Option Addr), k ≤ 9 ∧ True ∧ i = .int .i64 ((k : Int) + 1) ∧ Hid (wr.heap[O]? = some (mB spA nA cA spB nB cB')) ∧ Hid ((numsTo pA k).length = nA) ∧ Hid ((numsTo pB k).length = nB) ∧ Hid (OwnI (O + 1) wr spA cA (numsTo pA k)) ∧ Hid (OwnI (O + 1) wr spB cB' (numsTo pB k)) ∧ Hid (Apart spA spB) ∧ Hid (Below O w4 wr)) (fun i _ => (10 - intOf i).toNat)
            case atStart => exact ⟨0, 0, 0, 0, 0, none, none, by omega, trivial, rfl, unhide X4, rfl, rfl, OwnI.ofNil _ _, OwnI.ofNil _ _, Apart.none_left _, Below.refl _ _⟩
            case round =>
              obtain ⟨k, nA, cA, nB, cB', spA, spB, hk, _, rfl, BX, NA, NB, OA, OB, AP, F⟩ := hrel
              have m0 := box_cell (unhide (unhide KX _ (unhide F))) 0 _ rfl
              have m1 := box_cell (unhide (unhide KX _ (unhide F))) 1 _ rfl
              have d0 := box_cell (unhide (unhide KC _ (unhide F))) 0 _ rfl
              have d1 := box_cell (unhide (unhide KC _ (unhide F))) 1 _ rfl
              by_cases hk9 : k < 9
              · have hi1 : (k : Int) + 1 ≤ 9 := by omega
                have hpA := unhide PA
                have hpB := unhide PB
                by_cases hxn : (k : Int) + 1 = n
                · have SA := hide (show pA ((k : Int) + 1) = false by simp [hpA, upd, hxn])
                  rw [← nums_step_no (p := pA) (k := k) (by exact unhide SA)] at NA OA
                  have SB := hide (show pB ((k : Int) + 1) = true by simp [hpB, upd, hxn])
                  have m0 := box_cell (unhide (unhide KX _ (unhide F))) 0 _ rfl
                  have m1 := box_cell (unhide (unhide KX _ (unhide F))) 1 _ rfl
                  have d0 := box_cell (unhide (unhide KC _ (unhide F))) 0 _ rfl
                  have d1 := box_cell (unhide (unhide KC _ (unhide F))) 1 _ rfl
                  have c0 := box_cell (unhide BX) 0 _ rfl
                  have c1 := box_cell (unhide BX) 1 _ rfl
                  go_wp2_with (at_builtin; refine unhide ?_)
                  refine hide ?_
                  have ba : Below wr.heap.size wr (wr.alloc (.cells #[.int .i64 n] 3)) := (Below.refl _ _).alloc (Nat.le_refl _) _
                  have hs5 : O + 1 ≤ wr.heap.size := (Array.getElem?_eq_some_iff.1 (unhide BX)).1
                  have hs2 : O + 1 ≤ (wr.alloc (.cells #[.int .i64 n] 3)).heap.size := Nat.le_trans hs5 ba.size
                  refine wpList_appendI rfl (.tmp 119) (.tmp 121) rfl (O + 1) spB nB cB' (numsTo pB k) rfl (unhide NB) ((unhide OB).later ba) (some ⟨wr.heap.size, 0, none⟩) 1 1 rfl [n] rfl (ints_one (heap_new _ _) (by omega)) (fun h => by cases h) (by have := nums_len pB k; omega) hs2 ?_
                  intro sp5 n5 k5 w8 hn5 o5 g5
                  have OO := hide (((unhide OA).later ba).stayA (unhide AP) g5)
                  have AP := hide ((unhide AP).right g5 ((unhide OA).later ba))
                  have B6 := hide ((unhide F).trans ((ba.mono (by omega)).trans ((GrewI.below g5 ((unhide OB).later ba) hs2).mono (by omega))))
                  have X6 := hide (show w8.heap[O]? = some (mB spA nA cA spB nB cB') from ((GrewI.below g5 ((unhide OB).later ba) hs2).block O (by omega)).trans (later_block ba (unhide BX)))
                  have z0 := box_cell (unhide X6) 0 _ rfl
                  have z1 := box_cell (unhide X6) 1 _ rfl
                  have z2 := mbox_free (unhide X6) 1
                  have BX := hide (heap_setCell_same w8 O 1 _ 24 (.slice sp5 n5 k5) (unhide X6))
                  have gs := grown_set w8 O 1 (.slice sp5 n5 k5)
                  have NB := hide (show (numsTo pB (k + 1)).length = n5 by rw [nums_step_yes (p := pB) (by exact unhide SB), hxn]; exact unhide hn5)
                  have OB := hide (show OwnI (O + 1) (w8.setCell ⟨O, 1, none⟩ (.slice sp5 n5 k5)) sp5 k5 (numsTo pB (k + 1)) by rw [nums_step_yes (p := pB) (by exact unhide SB), hxn]; exact o5.kept gs (fun g hg e => by have h1 := (o5.blk_lt g hg).1; have h2 := Option.some.inj e; omega))
                  have OA := hide ((unhide OO).kept gs (fun g hg e => by have h1 := ((unhide OO).blk_lt g hg).1; have h2 := Option.some.inj e; omega))
                  have F := hide ((unhide B6).grown gs (by have := (unhide B6).size; have := unhide OL; omega) (fun g e => by have := Option.some.inj e; omega))
                  clear o5 g5 hn5 ba hs2 hs5 gs OO c0 c1
                  go_wp2
                  exact ⟨⟨k + 1, nA, cA, n5, k5, spA, sp5, by omega, trivial, by go_num, unhide BX, unhide NA, unhide NB, unhide OA, unhide OB, unhide AP, unhide F⟩, by simp [intOf]; omega⟩
                · have hxn' : ¬ (n = (k : Int) + 1) := fun e => hxn e.symm
                  go_wp2_with fail
                  refine (in_calls (unhide KV _ (unhide F)) ((k : Int) + 1) vn (unhide VN) hvx).mono ?_
                  rintro e w5 ⟨rfl, rfl⟩
                  by_cases hv2 : ((k : Int) + 1) ∈ v
                  · rw [show decide (((k : Int) + 1) ∈ v) = true by simp [hv2]]
                    have SA := hide (show pA ((k : Int) + 1) = true by simp [hpA, upd, hxn, (kind_voter hr ((k : Int) + 1)).2 hv2])
                    clear hv2
                    have c0 := box_cell (unhide BX) 0 _ rfl
                    have c1 := box_cell (unhide BX) 1 _ rfl
                    go_wp2_with (at_builtin; refine unhide ?_)
                    refine hide ?_
                    have ba : Below w5.heap.size w5 (w5.alloc (.cells #[.int .i64 ((k : Int) + 1)] 3)) := (Below.refl _ _).alloc (Nat.le_refl _) _
                    have hs5 : O + 1 ≤ w5.heap.size := (Array.getElem?_eq_some_iff.1 (unhide BX)).1
                    have hs2 : O + 1 ≤ (w5.alloc (.cells #[.int .i64 ((k : Int) + 1)] 3)).heap.size := Nat.le_trans hs5 ba.size
                    refine wpList_appendI rfl (.tmp 94) (.tmp 96) rfl (O + 1) spA nA cA (numsTo pA k) rfl (unhide NA) ((unhide OA).later ba) (some ⟨w5.heap.size, 0, none⟩) 1 1 rfl [((k : Int) + 1)] rfl (ints_one (heap_new _ _) (by omega)) (fun h => by cases h) (by have := nums_len pA k; omega) hs2 ?_
                    intro sp4 n4 k4 w6 hn4 o4 g4
                    have OO := hide (((unhide OB).later ba).stayB (unhide AP) g4)
                    have AP := hide ((unhide AP).left g4 ((unhide OB).later ba))
                    have B6 := hide ((unhide F).trans ((ba.mono (by omega)).trans ((GrewI.below g4 ((unhide OA).later ba) hs2).mono (by omega))))
                    have X6 := hide (show w6.heap[O]? = some (mB spA nA cA spB nB cB') from ((GrewI.below g4 ((unhide OA).later ba) hs2).block O (by omega)).trans (later_block ba (unhide BX)))
                    have z0 := box_cell (unhide X6) 0 _ rfl
                    have z1 := box_cell (unhide X6) 1 _ rfl
                    have z2 := mbox_free (unhide X6) 0
                    have BX := hide (heap_setCell_same w6 O 0 _ 24 (.slice sp4 n4 k4) (unhide X6))
                    have gs := grown_set w6 O 0 (.slice sp4 n4 k4)
                    have NA := hide (show (numsTo pA (k + 1)).length = n4 by rw [nums_step_yes (p := pA) (by exact unhide SA)]; exact unhide hn4)
                    have OA := hide (show OwnI (O + 1) (w6.setCell ⟨O, 0, none⟩ (.slice sp4 n4 k4)) sp4 k4 (numsTo pA (k + 1)) by rw [nums_step_yes (p := pA) (by exact unhide SA)]; exact o4.kept gs (fun g hg e => by have h1 := (o4.blk_lt g hg).1; have h2 := Option.some.inj e; omega))
                    have OB := hide ((unhide OO).kept gs (fun g hg e => by have h1 := ((unhide OO).blk_lt g hg).1; have h2 := Option.some.inj e; omega))
                    have F := hide ((unhide B6).grown gs (by have := (unhide B6).size; have := unhide OL; omega) (fun g e => by have := Option.some.inj e; omega))
                    clear o4 g4 hn4 ba hs2 hs5 gs OO c0 c1
                    have m0 := box_cell (unhide (unhide KX _ (unhide F))) 0 _ rfl
                    have m1 := box_cell (unhide (unhide KX _ (unhide F))) 1 _ rfl
                    have d0 := box_cell (unhide (unhide KC _ (unhide F))) 0 _ rfl
                    have d1 := box_cell (unhide (unhide KC _ (unhide F))) 1 _ rfl
                    go_wp2_with fail
                    refine (in_calls (unhide KL _ (unhide F)) ((k : Int) + 1) ln (unhide LN) hlx).mono ?_
                    rintro e w7 ⟨rfl, h7⟩
                    clear m0 m1 d0 d1
                    rw [← h7] at BX OA OB F
                    clear h7
                    have m0 := box_cell (unhide (unhide KX _ (unhide F))) 0 _ rfl
                    have m1 := box_cell (unhide (unhide KX _ (unhide F))) 1 _ rfl
                    have d0 := box_cell (unhide (unhide KC _ (unhide F))) 0 _ rfl
                    have d1 := box_cell (unhide (unhide KC _ (unhide F))) 1 _ rfl
                    by_cases hl2 : ((k : Int) + 1) ∈ l
                    · rw [show decide (((k : Int) + 1) ∈ l) = true by simp [hl2]]
                      have SB := hide (show pB ((k : Int) + 1) = true by simp [hpB, upd, hxn, (kind_learner v l ((k : Int) + 1)).2 hl2])
                      clear hl2
                      have c0 := box_cell (unhide BX) 0 _ rfl
                      have c1 := box_cell (unhide BX) 1 _ rfl
                      go_wp2_with (at_builtin; refine unhide ?_)
                      refine hide ?_
                      have ba : Below w7.heap.size w7 (w7.alloc (.cells #[.int .i64 ((k : Int) + 1)] 3)) := (Below.refl _ _).alloc (Nat.le_refl _) _
                      have hs5 : O + 1 ≤ w7.heap.size := (Array.getElem?_eq_some_iff.1 (unhide BX)).1
                      have hs2 : O + 1 ≤ (w7.alloc (.cells #[.int .i64 ((k : Int) + 1)] 3)).heap.size := Nat.le_trans hs5 ba.size
                      refine wpList_appendI rfl (.tmp 119) (.tmp 121) rfl (O + 1) spB nB cB' (numsTo pB k) rfl (unhide NB) ((unhide OB).later ba) (some ⟨w7.heap.size, 0, none⟩) 1 1 rfl [((k : Int) + 1)] rfl (ints_one (heap_new _ _) (by omega)) (fun h => by cases h) (by have := nums_len pB k; omega) hs2 ?_
                      intro sp5 n5 k5 w8 hn5 o5 g5
                      have OO := hide (((unhide OA).later ba).stayA (unhide AP) g5)
                      have AP := hide ((unhide AP).right g5 ((unhide OA).later ba))
                      have B6 := hide ((unhide F).trans ((ba.mono (by omega)).trans ((GrewI.below g5 ((unhide OB).later ba) hs2).mono (by omega))))
                      have X6 := hide (show w8.heap[O]? = some (mB sp4 n4 k4 spB nB cB') from ((GrewI.below g5 ((unhide OB).later ba) hs2).block O (by omega)).trans (later_block ba (unhide BX)))
                      have z0 := box_cell (unhide X6) 0 _ rfl
                      have z1 := box_cell (unhide X6) 1 _ rfl
                      have z2 := mbox_free (unhide X6) 1
                      have BX := hide (heap_setCell_same w8 O 1 _ 24 (.slice sp5 n5 k5) (unhide X6))
                      have gs := grown_set w8 O 1 (.slice sp5 n5 k5)
                      have NB := hide (show (numsTo pB (k + 1)).length = n5 by rw [nums_step_yes (p := pB) (by exact unhide SB)]; exact unhide hn5)
                      have OB := hide (show OwnI (O + 1) (w8.setCell ⟨O, 1, none⟩ (.slice sp5 n5 k5)) sp5 k5 (numsTo pB (k + 1)) by rw [nums_step_yes (p := pB) (by exact unhide SB)]; exact o5.kept gs (fun g hg e => by have h1 := (o5.blk_lt g hg).1; have h2 := Option.some.inj e; omega))
                      have OA := hide ((unhide OO).kept gs (fun g hg e => by have h1 := ((unhide OO).blk_lt g hg).1; have h2 := Option.some.inj e; omega))
                      have F := hide ((unhide B6).grown gs (by have := (unhide B6).size; have := unhide OL; omega) (fun g e => by have := Option.some.inj e; omega))
                      clear o5 g5 hn5 ba hs2 hs5 gs OO c0 c1
                      go_wp2
                      exact ⟨⟨k + 1, n4, k4, n5, k5, sp4, sp5, by omega, trivial, by go_num, unhide BX, unhide NA, unhide NB, unhide OA, unhide OB, unhide AP, unhide F⟩, by simp [intOf]; omega⟩
                    · rw [show decide (((k : Int) + 1) ∈ l) = false by simp [hl2]]
                      have SB := hide (show pB ((k : Int) + 1) = false by
                        have : ¬ kindM v l ((k : Int) + 1) = 2 := fun h => hl2 ((kind_learner v l _).1 h)
                        simp [hpB, upd, hxn, this])
                      clear hl2
                      rw [← nums_step_no (p := pB) (k := k) (by exact unhide SB)] at NB OB
                      go_wp2
                      exact ⟨⟨k + 1, n4, k4, nB, cB', sp4, spB, by omega, trivial, by go_num, unhide BX, unhide NA, unhide NB, unhide OA, unhide OB, unhide AP, unhide F⟩, by simp [intOf]; omega⟩
                  · rw [show decide (((k : Int) + 1) ∈ v) = false by simp [hv2]]
                    have SA := hide (show pA ((k : Int) + 1) = false by
                      have : ¬ kindM v l ((k : Int) + 1) = 1 := fun h => hv2 ((kind_voter hr _).1 h)
                      simp [hpA, upd, hxn, this])
                    clear hv2
                    rw [← nums_step_no (p := pA) (k := k) (by exact unhide SA)] at NA OA
                    have m0 := box_cell (unhide (unhide KX _ (unhide F))) 0 _ rfl
                    have m1 := box_cell (unhide (unhide KX _ (unhide F))) 1 _ rfl
                    have d0 := box_cell (unhide (unhide KC _ (unhide F))) 0 _ rfl
                    have d1 := box_cell (unhide (unhide KC _ (unhide F))) 1 _ rfl
                    go_wp2_with fail
                    refine (in_calls (unhide KL _ (unhide F)) ((k : Int) + 1) ln (unhide LN) hlx).mono ?_
                    rintro e w7 ⟨rfl, h7⟩
                    clear m0 m1 d0 d1
                    rw [← h7] at BX OA OB F
                    clear h7
                    have m0 := box_cell (unhide (unhide KX _ (unhide F))) 0 _ rfl
                    have m1 := box_cell (unhide (unhide KX _ (unhide F))) 1 _ rfl
                    have d0 := box_cell (unhide (unhide KC _ (unhide F))) 0 _ rfl
                    have d1 := box_cell (unhide (unhide KC _ (unhide F))) 1 _ rfl
                    by_cases hl2 : ((k : Int) + 1) ∈ l
                    · rw [show decide (((k : Int) + 1) ∈ l) = true by simp [hl2]]
                      have SB := hide (show pB ((k : Int) + 1) = true by simp [hpB, upd, hxn, (kind_learner v l ((k : Int) + 1)).2 hl2])
                      clear hl2
                      have c0 := box_cell (unhide BX) 0 _ rfl
                      have c1 := box_cell (unhide BX) 1 _ rfl
                      go_wp2_with (at_builtin; refine unhide ?_)
                      refine hide ?_
                      have ba : Below w7.heap.size w7 (w7.alloc (.cells #[.int .i64 ((k : Int) + 1)] 3)) := (Below.refl _ _).alloc (Nat.le_refl _) _
                      have hs5 : O + 1 ≤ w7.heap.size := (Array.getElem?_eq_some_iff.1 (unhide BX)).1
                      have hs2 : O + 1 ≤ (w7.alloc (.cells #[.int .i64 ((k : Int) + 1)] 3)).heap.size := Nat.le_trans hs5 ba.size
                      refine wpList_appendI rfl (.tmp 119) (.tmp 121) rfl (O + 1) spB nB cB' (numsTo pB k) rfl (unhide NB) ((unhide OB).later ba) (some ⟨w7.heap.size, 0, none⟩) 1 1 rfl [((k : Int) + 1)] rfl (ints_one (heap_new _ _) (by omega)) (fun h => by cases h) (by have := nums_len pB k; omega) hs2 ?_
                      intro sp5 n5 k5 w8 hn5 o5 g5
                      have OO := hide (((unhide OA).later ba).stayA (unhide AP) g5)
                      have AP := hide ((unhide AP).right g5 ((unhide OA).later ba))
                      have B6 := hide ((unhide F).trans ((ba.mono (by omega)).trans ((GrewI.below g5 ((unhide OB).later ba) hs2).mono (by omega))))
                      have X6 := hide (show w8.heap[O]? = some (mB spA nA cA spB nB cB') from ((GrewI.below g5 ((unhide OB).later ba) hs2).block O (by omega)).trans (later_block ba (unhide BX)))
                      have z0 := box_cell (unhide X6) 0 _ rfl
                      have z1 := box_cell (unhide X6) 1 _ rfl
                      have z2 := mbox_free (unhide X6) 1
                      have BX := hide (heap_setCell_same w8 O 1 _ 24 (.slice sp5 n5 k5) (unhide X6))
                      have gs := grown_set w8 O 1 (.slice sp5 n5 k5)
                      have NB := hide (show (numsTo pB (k + 1)).length = n5 by rw [nums_step_yes (p := pB) (by exact unhide SB)]; exact unhide hn5)
                      have OB := hide (show OwnI (O + 1) (w8.setCell ⟨O, 1, none⟩ (.slice sp5 n5 k5)) sp5 k5 (numsTo pB (k + 1)) by rw [nums_step_yes (p := pB) (by exact unhide SB)]; exact o5.kept gs (fun g hg e => by have h1 := (o5.blk_lt g hg).1; have h2 := Option.some.inj e; omega))
                      have OA := hide ((unhide OO).kept gs (fun g hg e => by have h1 := ((unhide OO).blk_lt g hg).1; have h2 := Option.some.inj e; omega))
                      have F := hide ((unhide B6).grown gs (by have := (unhide B6).size; have := unhide OL; omega) (fun g e => by have := Option.some.inj e; omega))
                      clear o5 g5 hn5 ba hs2 hs5 gs OO c0 c1
                      go_wp2
                      exact ⟨⟨k + 1, nA, cA, n5, k5, spA, sp5, by omega, trivial, by go_num, unhide BX, unhide NA, unhide NB, unhide OA, unhide OB, unhide AP, unhide F⟩, by simp [intOf]; omega⟩
                    · rw [show decide (((k : Int) + 1) ∈ l) = false by simp [hl2]]
                      have SB := hide (show pB ((k : Int) + 1) = false by
                        have : ¬ kindM v l ((k : Int) + 1) = 2 := fun h => hl2 ((kind_learner v l _).1 h)
                        simp [hpB, upd, hxn, this])
                      clear hl2
                      rw [← nums_step_no (p := pB) (k := k) (by exact unhide SB)] at NB OB
                      go_wp2
                      exact ⟨⟨k + 1, nA, cA, nB, cB', spA, spB, by omega, trivial, by go_num, unhide BX, unhide NA, unhide NB, unhide OA, unhide OB, unhide AP, unhide F⟩, by simp [intOf]; omega⟩
              · obtain rfl : k = 9 := by omega
                have c0 := box_cell (unhide BX) 0 _ rfl
                have c1 := box_cell (unhide BX) 1 _ rfl
                have F5 := hide (unhide KF _ (unhide F))
                have Y5 := hide (later_block (unhide F5) (unhide Y1))
                obtain ⟨W, y0, y1, gW, hW⟩ := two_sets (unhide Y5) (.slice spA nA cA) (.slice spB nB cB')
                have HW := hide hW
                have z0 := box_cell (unhide Y5) 0 _ rfl
                have z1 := box_cell (unhide Y5) 1 _ rfl
                have z2 := mbox_free (unhide Y5) 0
                have z3 := mbox_free (unhide Y5) 1
                have OAW := hide ((unhide OA).kept gW (fun g hg e => by have h1 := ((unhide OA).blk_lt g hg).1; have h2 := Option.some.inj e; have h3 := unhide ZE; have h4 := unhide OW; omega))
                have OBW := hide ((unhide OB).kept gW (fun g hg e => by have h1 := ((unhide OB).blk_lt g hg).1; have h2 := Option.some.inj e; have h3 := unhide ZE; have h4 := unhide OW; omega))
                have bW := hide ((unhide b1).trans (Below.grown ((unhide F5).mono (by have := unhide ZE; omega) : Below D w1 _) gW (by have := (unhide F5).size; have := unhide ZE; omega) (fun g e => by have := Option.some.inj e; omega)))
                clear hW gW
                go_wp2_with fail
                rw [unhide HW]
                go_wp2
                refine bodyPost_ret (v := .tuple #[mV spA nA cA spB nB cB', .int .i64 0]) (by simp [results, Try.results31, go_sem, y0, y1]) rfl ?_
                refine ⟨.inr ⟨unhide AE, hr, hm, spA, nA, cA, spB, nB, cB', rfl, ?_, ?_, ?_, ?_, unhide AP⟩, by first | exact unhide bW | (rw [hD]; exact unhide bW)⟩
                · rw [unhide KK, votersTo, ← unhide PA]; exact unhide NA
                · rw [unhide KK, learnersTo, ← unhide PB]; exact unhide NB
                · rw [unhide KK, votersTo, ← unhide PA]; exact (unhide OAW).mono (by have h3 := unhide ZE; have h4 := unhide OW; omega)
                · rw [unhide KK, learnersTo, ← unhide PB]; exact (unhide OBW).mono (by have h3 := unhide ZE; have h4 := unhide OW; omega)
        · by_cases hv1 : v.length = 1
          · have hv1' : (vn : Int) = 1 := by have := unhide VN; omega
            have AE := hide (show applyE v l 4 n = 6 by simp [applyE, hr, hm, hkd, turnedM, hv1])
            obtain ⟨W, y0, y1, bW, hW, z0, z1, z2, z3⟩ := unhide DONE _ (unhide F3)
            have HW := hide hW
            clear hW
            go_wp2_with fail
            rw [unhide HW]
            go_wp2
            refine bodyPost_ret (v := .tuple #[mV none 0 0 none 0 0, .int .i64 6]) (by simp [results, Try.results31, go_sem, y0, y1]) rfl ?_
            exact ⟨.inl ⟨by rw [unhide AE]; decide, by rw [unhide AE]⟩, by first | exact bW | (rw [hD]; exact bW)⟩
          · have hv1' : ¬ ((vn : Int) = 1) := by have := unhide VN; omega
            have hv1b : ((vn : Int) == 1) = false := by simp [hv1']
            have AE := hide (show applyE v l 4 n = 0 by simp [applyE, hr, hm, hkd, turnedM, hv1])
            have KK := hide (show (turnedM (kindM v l n) 4 v.length).1 = 0 by simp [hkd, turnedM, hv1])
            obtain ⟨pA, hpA⟩ : ∃ p : Int → Bool, p = fun x => decide (upd (kindM v l) n 0 x = 1) := ⟨_, rfl⟩
            obtain ⟨pB, hpB⟩ : ∃ p : Int → Bool, p = fun x => decide (upd (kindM v l) n 0 x = 2) := ⟨_, rfl⟩
            have PA := hide hpA
            have PB := hide hpB
            clear hpA hpB
            have b4 := hide (show Below w3.heap.size w3 (w3.alloc (mB none 0 0 none 0 0)) from (Below.refl _ _).alloc (Nat.le_refl _) _)
            have X4 := hide (heap_new w3 (mB none 0 0 none 0 0))
            have F4 := hide ((unhide F3).trans ((unhide b4).mono (unhide F3).size))
            have OL := hide (show w3.heap.size < (w3.alloc (mB none 0 0 none 0 0)).heap.size by simp)
            have OW := hide (show w1.heap.size ≤ w3.heap.size from (unhide F3).size)
            go_wp2_with fail
            generalize hO : w3.heap.size = O at *
            generalize w3.alloc (mB none 0 0 none 0 0) = w4 at *
            have KF := hide (show ∀ u : World, Below O w4 u → Below w1.heap.size w1 u from fun u h => (unhide F4).trans (h.mono (unhide OW)))
            have KX := hide (show ∀ u : World, Below O w4 u → Hid (u.heap[D]? = some (mB va vn vc la ln lc)) from fun u h => later_block (unhide KF u h) (unhide X1))
            have KC := hide (show ∀ u : World, Below O w4 u → Hid (u.heap[D + 1]? = some (cB 4 n)) from fun u h => later_block (unhide KF u h) (unhide C1))
            have KV := hide (show ∀ u : World, Below O w4 u → IntsAt u va v from fun u h => (unhide V).later (unhide KF u h))
            have KL := hide (show ∀ u : World, Below O w4 u → IntsAt u la l from fun u h => (unhide L).later (unhide KF u h))
            go_loopw [12] (fun i wr => ∃ (k nA cA nB cB' : Nat) (spA spB : Option Addr), k ≤ 9 ∧ True ∧ i = .int .i64 ((k : Int) + 1) ∧ Hid (wr.heap[O]? = some (mB spA nA cA spB nB cB')) ∧ Hid ((numsTo pA k).length = nA) ∧ Hid ((numsTo pB k).length = nB) ∧ Hid (OwnI (O + 1) wr spA cA (numsTo pA k)) ∧ Hid (OwnI (O + 1) wr spB cB' (numsTo pB k)) ∧ Hid (Apart spA spB) ∧ Hid (Below O w4 wr)) (fun i _ => (10 - intOf i).toNat)
            case atStart => exact ⟨0, 0, 0, 0, 0, none, none, by omega, trivial, rfl, unhide X4, rfl, rfl, OwnI.ofNil _ _, OwnI.ofNil _ _, Apart.none_left _, Below.refl _ _⟩
            case round =>
              obtain ⟨k, nA, cA, nB, cB', spA, spB, hk, _, rfl, BX, NA, NB, OA, OB, AP, F⟩ := hrel
              have m0 := box_cell (unhide (unhide KX _ (unhide F))) 0 _ rfl
              have m1 := box_cell (unhide (unhide KX _ (unhide F))) 1 _ rfl
              have d0 := box_cell (unhide (unhide KC _ (unhide F))) 0 _ rfl
              have d1 := box_cell (unhide (unhide KC _ (unhide F))) 1 _ rfl
              by_cases hk9 : k < 9
              · have hi1 : (k : Int) + 1 ≤ 9 := by omega
                have hpA := unhide PA
                have hpB := unhide PB
                by_cases hxn : (k : Int) + 1 = n
                · have SA := hide (show pA ((k : Int) + 1) = false by simp [hpA, upd, hxn])
                  rw [← nums_step_no (p := pA) (k := k) (by exact unhide SA)] at NA OA
                  have SB := hide (show pB ((k : Int) + 1) = false by simp [hpB, upd, hxn])
                  rw [← nums_step_no (p := pB) (k := k) (by exact unhide SB)] at NB OB
                  have m0 := box_cell (unhide (unhide KX _ (unhide F))) 0 _ rfl
                  have m1 := box_cell (unhide (unhide KX _ (unhide F))) 1 _ rfl
                  have d0 := box_cell (unhide (unhide KC _ (unhide F))) 0 _ rfl
                  have d1 := box_cell (unhide (unhide KC _ (unhide F))) 1 _ rfl
                  go_wp2
                  exact ⟨⟨k + 1, nA, cA, nB, cB', spA, spB, by omega, trivial, by go_num, unhide BX, unhide NA, unhide NB, unhide OA, unhide OB, unhide AP, unhide F⟩, by simp [intOf]; omega⟩
                · have hxn' : ¬ (n = (k : Int) + 1) := fun e => hxn e.symm
                  go_wp2_with fail
                  refine (in_calls (unhide KV _ (unhide F)) ((k : Int) + 1) vn (unhide VN) hvx).mono ?_
                  rintro e w5 ⟨rfl, rfl⟩
                  by_cases hv2 : ((k : Int) + 1) ∈ v
                  · rw [show decide (((k : Int) + 1) ∈ v) = true by simp [hv2]]
                    have SA := hide (show pA ((k : Int) + 1) = true by simp [hpA, upd, hxn, (kind_voter hr ((k : Int) + 1)).2 hv2])
                    clear hv2
                    have c0 := box_cell (unhide BX) 0 _ rfl
                    have c1 := box_cell (unhide BX) 1 _ rfl
                    go_wp2_with (at_builtin; refine unhide ?_)
                    refine hide ?_
                    have ba : Below w5.heap.size w5 (w5.alloc (.cells #[.int .i64 ((k : Int) + 1)] 3)) := (Below.refl _ _).alloc (Nat.le_refl _) _
                    have hs5 : O + 1 ≤ w5.heap.size := (Array.getElem?_eq_some_iff.1 (unhide BX)).1
                    have hs2 : O + 1 ≤ (w5.alloc (.cells #[.int .i64 ((k : Int) + 1)] 3)).heap.size := Nat.le_trans hs5 ba.size
                    refine wpList_appendI rfl (.tmp 94) (.tmp 96) rfl (O + 1) spA nA cA (numsTo pA k) rfl (unhide NA) ((unhide OA).later ba) (some ⟨w5.heap.size, 0, none⟩) 1 1 rfl [((k : Int) + 1)] rfl (ints_one (heap_new _ _) (by omega)) (fun h => by cases h) (by have := nums_len pA k; omega) hs2 ?_
                    intro sp4 n4 k4 w6 hn4 o4 g4
                    have OO := hide (((unhide OB).later ba).stayB (unhide AP) g4)
                    have AP := hide ((unhide AP).left g4 ((unhide OB).later ba))
                    have B6 := hide ((unhide F).trans ((ba.mono (by omega)).trans ((GrewI.below g4 ((unhide OA).later ba) hs2).mono (by omega))))
                    have X6 := hide (show w6.heap[O]? = some (mB spA nA cA spB nB cB') from ((GrewI.below g4 ((unhide OA).later ba) hs2).block O (by omega)).trans (later_block ba (unhide BX)))
                    have z0 := box_cell (unhide X6) 0 _ rfl
                    have z1 := box_cell (unhide X6) 1 _ rfl
                    have z2 := mbox_free (unhide X6) 0
                    have BX := hide (heap_setCell_same w6 O 0 _ 24 (.slice sp4 n4 k4) (unhide X6))
                    have gs := grown_set w6 O 0 (.slice sp4 n4 k4)
                    have NA := hide (show (numsTo pA (k + 1)).length = n4 by rw [nums_step_yes (p := pA) (by exact unhide SA)]; exact unhide hn4)
                    have OA := hide (show OwnI (O + 1) (w6.setCell ⟨O, 0, none⟩ (.slice sp4 n4 k4)) sp4 k4 (numsTo pA (k + 1)) by rw [nums_step_yes (p := pA) (by exact unhide SA)]; exact o4.kept gs (fun g hg e => by have h1 := (o4.blk_lt g hg).1; have h2 := Option.some.inj e; omega))
                    have OB := hide ((unhide OO).kept gs (fun g hg e => by have h1 := ((unhide OO).blk_lt g hg).1; have h2 := Option.some.inj e; omega))
                    have F := hide ((unhide B6).grown gs (by have := (unhide B6).size; have := unhide OL; omega) (fun g e => by have := Option.some.inj e; omega))
                    clear o4 g4 hn4 ba hs2 hs5 gs OO c0 c1
                    have m0 := box_cell (unhide (unhide KX _ (unhide F))) 0 _ rfl
                    have m1 := box_cell (unhide (unhide KX _ (unhide F))) 1 _ rfl
                    have d0 := box_cell (unhide (unhide KC _ (unhide F))) 0 _ rfl
                    have d1 := box_cell (unhide (unhide KC _ (unhide F))) 1 _ rfl
                    go_wp2_with fail
                    refine (in_calls (unhide KL _ (unhide F)) ((k : Int) + 1) ln (unhide LN) hlx).mono ?_
                    rintro e w7 ⟨rfl, h7⟩
                    clear m0 m1 d0 d1
                    rw [← h7] at BX OA OB F
                    clear h7
                    have m0 := box_cell (unhide (unhide KX _ (unhide F))) 0 _ rfl
                    have m1 := box_cell (unhide (unhide KX _ (unhide F))) 1 _ rfl
                    have d0 := box_cell (unhide (unhide KC _ (unhide F))) 0 _ rfl
                    have d1 := box_cell (unhide (unhide KC _ (unhide F))) 1 _ rfl
                    by_cases hl2 : ((k : Int) + 1) ∈ l
                    · rw [show decide (((k : Int) + 1) ∈ l) = true by simp [hl2]]
                      have SB := hide (show pB ((k : Int) + 1) = true by simp [hpB, upd, hxn, (kind_learner v l ((k : Int) + 1)).2 hl2])
                      clear hl2
                      have c0 := box_cell (unhide BX) 0 _ rfl
                      have c1 := box_cell (unhide BX) 1 _ rfl
                      go_wp2_with (at_builtin; refine unhide ?_)
                      refine hide ?_
                      have ba : Below w7.heap.size w7 (w7.alloc (.cells #[.int .i64 ((k : Int) + 1)] 3)) := (Below.refl _ _).alloc (Nat.le_refl _) _
                      have hs5 : O + 1 ≤ w7.heap.size := (Array.getElem?_eq_some_iff.1 (unhide BX)).1
                      have hs2 : O + 1 ≤ (w7.alloc (.cells #[.int .i64 ((k : Int) + 1)] 3)).heap.size := Nat.le_trans hs5 ba.size
                      refine wpList_appendI rfl (.tmp 119) (.tmp 121) rfl (O + 1) spB nB cB' (numsTo pB k) rfl (unhide NB) ((unhide OB).later ba) (some ⟨w7.heap.size, 0, none⟩) 1 1 rfl [((k : Int) + 1)] rfl (ints_one (heap_new _ _) (by omega)) (fun h => by cases h) (by have := nums_len pB k; omega) hs2 ?_
                      intro sp5 n5 k5 w8 hn5 o5 g5
                      have OO := hide (((unhide OA).later ba).stayA (unhide AP) g5)
                      have AP := hide ((unhide AP).right g5 ((unhide OA).later ba))
                      have B6 := hide ((unhide F).trans ((ba.mono (by omega)).trans ((GrewI.below g5 ((unhide OB).later ba) hs2).mono (by omega))))
                      have X6 := hide (show w8.heap[O]? = some (mB sp4 n4 k4 spB nB cB') from ((GrewI.below g5 ((unhide OB).later ba) hs2).block O (by omega)).trans (later_block ba (unhide BX)))
                      have z0 := box_cell (unhide X6) 0 _ rfl
                      have z1 := box_cell (unhide X6) 1 _ rfl
                      have z2 := mbox_free (unhide X6) 1
                      have BX := hide (heap_setCell_same w8 O 1 _ 24 (.slice sp5 n5 k5) (unhide X6))
                      have gs := grown_set w8 O 1 (.slice sp5 n5 k5)
                      have NB := hide (show (numsTo pB (k + 1)).length = n5 by rw [nums_step_yes (p := pB) (by exact unhide SB)]; exact unhide hn5)
                      have OB := hide (show OwnI (O + 1) (w8.setCell ⟨O, 1, none⟩ (.slice sp5 n5 k5)) sp5 k5 (numsTo pB (k + 1)) by rw [nums_step_yes (p := pB) (by exact unhide SB)]; exact o5.kept gs (fun g hg e => by have h1 := (o5.blk_lt g hg).1; have h2 := Option.some.inj e; omega))
                      have OA := hide ((unhide OO).kept gs (fun g hg e => by have h1 := ((unhide OO).blk_lt g hg).1; have h2 := Option.some.inj e; omega))
                      have F := hide ((unhide B6).grown gs (by have := (unhide B6).size; have := unhide OL; omega) (fun g e => by have := Option.some.inj e; omega))
                      clear o5 g5 hn5 ba hs2 hs5 gs OO c0 c1
                      go_wp2
                      exact ⟨⟨k + 1, n4, k4, n5, k5, sp4, sp5, by omega, trivial, by go_num, unhide BX, unhide NA, unhide NB, unhide OA, unhide OB, unhide AP, unhide F⟩, by simp [intOf]; omega⟩
                    · rw [show decide (((k : Int) + 1) ∈ l) = false by simp [hl2]]
                      have SB := hide (show pB ((k : Int) + 1) = false by
                        have : ¬ kindM v l ((k : Int) + 1) = 2 := fun h => hl2 ((kind_learner v l _).1 h)
                        simp [hpB, upd, hxn, this])
                      clear hl2
                      rw [← nums_step_no (p := pB) (k := k) (by exact unhide SB)] at NB OB
                      go_wp2
                      exact ⟨⟨k + 1, n4, k4, nB, cB', sp4, spB, by omega, trivial, by go_num, unhide BX, unhide NA, unhide NB, unhide OA, unhide OB, unhide AP, unhide F⟩, by simp [intOf]; omega⟩
                  · rw [show decide (((k : Int) + 1) ∈ v) = false by simp [hv2]]
                    have SA := hide (show pA ((k : Int) + 1) = false by
                      have : ¬ kindM v l ((k : Int) + 1) = 1 := fun h => hv2 ((kind_voter hr _).1 h)
                      simp [hpA, upd, hxn, this])
                    clear hv2
                    rw [← nums_step_no (p := pA) (k := k) (by exact unhide SA)] at NA OA
                    have m0 := box_cell (unhide (unhide KX _ (unhide F))) 0 _ rfl
                    have m1 := box_cell (unhide (unhide KX _ (unhide F))) 1 _ rfl
                    have d0 := box_cell (unhide (unhide KC _ (unhide F))) 0 _ rfl
                    have d1 := box_cell (unhide (unhide KC _ (unhide F))) 1 _ rfl
                    go_wp2_with fail
                    refine (in_calls (unhide KL _ (unhide F)) ((k : Int) + 1) ln (unhide LN) hlx).mono ?_
                    rintro e w7 ⟨rfl, h7⟩
                    clear m0 m1 d0 d1
                    rw [← h7] at BX OA OB F
                    clear h7
                    have m0 := box_cell (unhide (unhide KX _ (unhide F))) 0 _ rfl
                    have m1 := box_cell (unhide (unhide KX _ (unhide F))) 1 _ rfl
                    have d0 := box_cell (unhide (unhide KC _ (unhide F))) 0 _ rfl
                    have d1 := box_cell (unhide (unhide KC _ (unhide F))) 1 _ rfl
                    by_cases hl2 : ((k : Int) + 1) ∈ l
                    · rw [show decide (((k : Int) + 1) ∈ l) = true by simp [hl2]]
                      have SB := hide (show pB ((k : Int) + 1) = true by simp [hpB, upd, hxn, (kind_learner v l ((k : Int) + 1)).2 hl2])
                      clear hl2
                      have c0 := box_cell (unhide BX) 0 _ rfl
                      have c1 := box_cell (unhide BX) 1 _ rfl
                      go_wp2_with (at_builtin; refine unhide ?_)
                      refine hide ?_
                      have ba : Below w7.heap.size w7 (w7.alloc (.cells #[.int .i64 ((k : Int) + 1)] 3)) := (Below.refl _ _).alloc (Nat.le_refl _) _
                      have hs5 : O + 1 ≤ w7.heap.size := (Array.getElem?_eq_some_iff.1 (unhide BX)).1
                      have hs2 : O + 1 ≤ (w7.alloc (.cells #[.int .i64 ((k : Int) + 1)] 3)).heap.size := Nat.le_trans hs5 ba.size
                      refine wpList_appendI rfl (.tmp 119) (.tmp 121) rfl (O + 1) spB nB cB' (numsTo pB k) rfl (unhide NB) ((unhide OB).later ba) (some ⟨w7.heap.size, 0, none⟩) 1 1 rfl [((k : Int) + 1)] rfl (ints_one (heap_new _ _) (by omega)) (fun h => by cases h) (by have := nums_len pB k; omega) hs2 ?_
                      intro sp5 n5 k5 w8 hn5 o5 g5
                      have OO := hide (((unhide OA).later ba).stayA (unhide AP) g5)
                      have AP := hide ((unhide AP).right g5 ((unhide OA).later ba))
                      have B6 := hide ((unhide F).trans ((ba.mono (by omega)).trans ((GrewI.below g5 ((unhide OB).later ba) hs2).mono (by omega))))
                      have X6 := hide (show w8.heap[O]? = some (mB spA nA cA spB nB cB') from ((GrewI.below g5 ((unhide OB).later ba) hs2).block O (by omega)).trans (later_block ba (unhide BX)))
                      have z0 := box_cell (unhide X6) 0 _ rfl
                      have z1 := box_cell (unhide X6) 1 _ rfl
                      have z2 := mbox_free (unhide X6) 1
                      have BX := hide (heap_setCell_same w8 O 1 _ 24 (.slice sp5 n5 k5) (unhide X6))
                      have gs := grown_set w8 O 1 (.slice sp5 n5 k5)
                      have NB := hide (show (numsTo pB (k + 1)).length = n5 by rw [nums_step_yes (p := pB) (by exact unhide SB)]; exact unhide hn5)
                      have OB := hide (show OwnI (O + 1) (w8.setCell ⟨O, 1, none⟩ (.slice sp5 n5 k5)) sp5 k5 (numsTo pB (k + 1)) by rw [nums_step_yes (p := pB) (by exact unhide SB)]; exact o5.kept gs (fun g hg e => by have h1 := (o5.blk_lt g hg).1; have h2 := Option.some.inj e; omega))
                      have OA := hide ((unhide OO).kept gs (fun g hg e => by have h1 := ((unhide OO).blk_lt g hg).1; have h2 := Option.some.inj e; omega))
                      have F := hide ((unhide B6).grown gs (by have := (unhide B6).size; have := unhide OL; omega) (fun g e => by have := Option.some.inj e; omega))
                      clear o5 g5 hn5 ba hs2 hs5 gs OO c0 c1
                      go_wp2
                      exact ⟨⟨k + 1, nA, cA, n5, k5, spA, sp5, by omega, trivial, by go_num, unhide BX, unhide NA, unhide NB, unhide OA, unhide OB, unhide AP, unhide F⟩, by simp [intOf]; omega⟩
                    · rw [show decide (((k : Int) + 1) ∈ l) = false by simp [hl2]]
                      have SB := hide (show pB ((k : Int) + 1) = false by
                        have : ¬ kindM v l ((k : Int) + 1) = 2 := fun h => hl2 ((kind_learner v l _).1 h)
                        simp [hpB, upd, hxn, this])
                      clear hl2
                      rw [← nums_step_no (p := pB) (k := k) (by exact unhide SB)] at NB OB
                      go_wp2
                      exact ⟨⟨k + 1, nA, cA, nB, cB', spA, spB, by omega, trivial, by go_num, unhide BX, unhide NA, unhide NB, unhide OA, unhide OB, unhide AP, unhide F⟩, by simp [intOf]; omega⟩
              · obtain rfl : k = 9 := by omega
                have c0 := box_cell (unhide BX) 0 _ rfl
                have c1 := box_cell (unhide BX) 1 _ rfl
                have F5 := hide (unhide KF _ (unhide F))
                have Y5 := hide (later_block (unhide F5) (unhide Y1))
                obtain ⟨W, y0, y1, gW, hW⟩ := two_sets (unhide Y5) (.slice spA nA cA) (.slice spB nB cB')
                have HW := hide hW
                have z0 := box_cell (unhide Y5) 0 _ rfl
                have z1 := box_cell (unhide Y5) 1 _ rfl
                have z2 := mbox_free (unhide Y5) 0
                have z3 := mbox_free (unhide Y5) 1
                have OAW := hide ((unhide OA).kept gW (fun g hg e => by have h1 := ((unhide OA).blk_lt g hg).1; have h2 := Option.some.inj e; have h3 := unhide ZE; have h4 := unhide OW; omega))
                have OBW := hide ((unhide OB).kept gW (fun g hg e => by have h1 := ((unhide OB).blk_lt g hg).1; have h2 := Option.some.inj e; have h3 := unhide ZE; have h4 := unhide OW; omega))
                have bW := hide ((unhide b1).trans (Below.grown ((unhide F5).mono (by have := unhide ZE; omega) : Below D w1 _) gW (by have := (unhide F5).size; have := unhide ZE; omega) (fun g e => by have := Option.some.inj e; omega)))
                clear hW gW
                go_wp2_with fail
                rw [unhide HW]
                go_wp2
                refine bodyPost_ret (v := .tuple #[mV spA nA cA spB nB cB', .int .i64 0]) (by simp [results, Try.results31, go_sem, y0, y1]) rfl ?_
                refine ⟨.inr ⟨unhide AE, hr, hm, spA, nA, cA, spB, nB, cB', rfl, ?_, ?_, ?_, ?_, unhide AP⟩, by first | exact unhide bW | (rw [hD]; exact unhide bW)⟩
                · rw [unhide KK, votersTo, ← unhide PA]; exact unhide NA
                · rw [unhide KK, learnersTo, ← unhide PB]; exact unhide NB
                · rw [unhide KK, votersTo, ← unhide PA]; exact (unhide OAW).mono (by have h3 := unhide ZE; have h4 := unhide OW; omega)
                · rw [unhide KK, learnersTo, ← unhide PB]; exact (unhide OBW).mono (by have h3 := unhide ZE; have h4 := unhide OW; omega)
      · have e1 : decide (n ∈ v) = false := by
          have : n ∉ v := fun h => DS n h ((kind_learner v l n).1 hkd)
          simp [this]
        have e2 : decide (n ∈ l) = true := by simp [(kind_learner v l n).1 hkd]
        rw [e1, e2]
        clear e1 e2 DS
        rcases (by omega : d = 1 ∨ d = 2 ∨ d = 3 ∨ d = 4) with rfl | rfl | rfl | rfl
        · have AE := hide (show applyE v l 1 n = 7 by simp [applyE, hr, hm, hkd, turnedM])
          obtain ⟨W, y0, y1, bW, hW, z0, z1, z2, z3⟩ := unhide DONE _ (unhide F3)
          have HW := hide hW
          clear hW
          go_wp2_with fail
          rw [unhide HW]
          go_wp2
          refine bodyPost_ret (v := .tuple #[mV none 0 0 none 0 0, .int .i64 7]) (by simp [results, Try.results31, go_sem, y0, y1]) rfl ?_
          exact ⟨.inl ⟨by rw [unhide AE]; decide, by rw [unhide AE]⟩, by first | exact bW | (rw [hD]; exact bW)⟩
        · have AE := hide (show applyE v l 2 n = 0 by simp [applyE, hr, hm, hkd, turnedM])
          have KK := hide (show (turnedM (kindM v l n) 2 v.length).1 = 1 by simp [hkd, turnedM])
          obtain ⟨pA, hpA⟩ : ∃ p : Int → Bool, p = fun x => decide (upd (kindM v l) n 1 x = 1) := ⟨_, rfl⟩
          obtain ⟨pB, hpB⟩ : ∃ p : Int → Bool, p = fun x => decide (upd (kindM v l) n 1 x = 2) := ⟨_, rfl⟩
          have PA := hide hpA
          have PB := hide hpB
          clear hpA hpB
          have b4 := hide (show Below w3.heap.size w3 (w3.alloc (mB none 0 0 none 0 0)) from (Below.refl _ _).alloc (Nat.le_refl _) _)
          have X4 := hide (heap_new w3 (mB none 0 0 none 0 0))
          have F4 := hide ((unhide F3).trans ((unhide b4).mono (unhide F3).size))
          have OL := hide (show w3.heap.size < (w3.alloc (mB none 0 0 none 0 0)).heap.size by simp)
          have OW := hide (show w1.heap.size ≤ w3.heap.size from (unhide F3).size)
          go_wp2_with fail
          generalize hO : w3.heap.size = O at *
          generalize w3.alloc (mB none 0 0 none 0 0) = w4 at *
          have KF := hide (show ∀ u : World, Below O w4 u → Below w1.heap.size w1 u from fun u h => (unhide F4).trans (h.mono (unhide OW)))
          have KX := hide (show ∀ u : World, Below O w4 u → Hid (u.heap[D]? = some (mB va vn vc la ln lc)) from fun u h => later_block (unhide KF u h) (unhide X1))
          have KC := hide (show ∀ u : World, Below O w4 u → Hid (u.heap[D + 1]? = some (cB 2 n)) from fun u h => later_block (unhide KF u h) (unhide C1))
          have KV := hide (show ∀ u : World, Below O w4 u → IntsAt u va v from fun u h => (unhide V).later (unhide KF u h))
          have KL := hide (show ∀ u : World, Below O w4 u → IntsAt u la l from fun u h => (unhide L).later (unhide KF u h))
          go_loopw [12] (fun i wr => ∃ (k nA cA nB cB' : Nat) (spA spB : Option Addr), k ≤ 9 ∧ True ∧ i = .int .i64 ((k : Int) + 1) ∧ Hid (wr.heap[O]? = some (mB spA nA cA spB nB cB')) ∧ Hid ((numsTo pA k).length = nA) ∧ Hid ((numsTo pB k).length = nB) ∧ Hid (OwnI (O + 1) wr spA cA (numsTo pA k)) ∧ Hid (OwnI (O + 1) wr spB cB' (numsTo pB k)) ∧ Hid (Apart spA spB) ∧ Hid (Below O w4 wr)) (fun i _ => (10 - intOf i).toNat)
          case atStart => exact ⟨0, 0, 0, 0, 0, none, none, by omega, trivial, rfl, unhide X4, rfl, rfl, OwnI.ofNil _ _, OwnI.ofNil _ _, Apart.none_left _, Below.refl _ _⟩
          case round =>
            obtain ⟨k, nA, cA, nB, cB', spA, spB, hk, _, rfl, BX, NA, NB, OA, OB, AP, F⟩ := hrel
            have m0 := box_cell (unhide (unhide KX _ (unhide F))) 0 _ rfl
            have m1 := box_cell (unhide (unhide KX _ (unhide F))) 1 _ rfl
            have d0 := box_cell (unhide (unhide KC _ (unhide F))) 0 _ rfl
            have d1 := box_cell (unhide (unhide KC _ (unhide F))) 1 _ rfl
            by_cases hk9 : k < 9
            · have hi1 : (k : Int) + 1 ≤ 9 := by omega
              have hpA := unhide PA
              have hpB := unhide PB
              by_cases hxn : (k : Int) + 1 = n
              · have SA := hide (show pA ((k : Int) + 1) = true by simp [hpA, upd, hxn])
                have c0 := box_cell (unhide BX) 0 _ rfl
                have c1 := box_cell (unhide BX) 1 _ rfl
                go_wp2_with (at_builtin; refine unhide ?_)
                refine hide ?_
                have ba : Below wr.heap.size wr (wr.alloc (.cells #[.int .i64 n] 3)) := (Below.refl _ _).alloc (Nat.le_refl _) _
                have hs5 : O + 1 ≤ wr.heap.size := (Array.getElem?_eq_some_iff.1 (unhide BX)).1
                have hs2 : O + 1 ≤ (wr.alloc (.cells #[.int .i64 n] 3)).heap.size := Nat.le_trans hs5 ba.size
                refine wpList_appendI rfl (.tmp 94) (.tmp 96) rfl (O + 1) spA nA cA (numsTo pA k) rfl (unhide NA) ((unhide OA).later ba) (some ⟨wr.heap.size, 0, none⟩) 1 1 rfl [n] rfl (ints_one (heap_new _ _) (by omega)) (fun h => by cases h) (by have := nums_len pA k; omega) hs2 ?_
                intro sp4 n4 k4 w6 hn4 o4 g4
                have OO := hide (((unhide OB).later ba).stayB (unhide AP) g4)
                have AP := hide ((unhide AP).left g4 ((unhide OB).later ba))
                have B6 := hide ((unhide F).trans ((ba.mono (by omega)).trans ((GrewI.below g4 ((unhide OA).later ba) hs2).mono (by omega))))
                have X6 := hide (show w6.heap[O]? = some (mB spA nA cA spB nB cB') from ((GrewI.below g4 ((unhide OA).later ba) hs2).block O (by omega)).trans (later_block ba (unhide BX)))
                have z0 := box_cell (unhide X6) 0 _ rfl
                have z1 := box_cell (unhide X6) 1 _ rfl
                have z2 := mbox_free (unhide X6) 0
                have BX := hide (heap_setCell_same w6 O 0 _ 24 (.slice sp4 n4 k4) (unhide X6))
                have gs := grown_set w6 O 0 (.slice sp4 n4 k4)
                have NA := hide (show (numsTo pA (k + 1)).length = n4 by rw [nums_step_yes (p := pA) (by exact unhide SA), hxn]; exact unhide hn4)
                have OA := hide (show OwnI (O + 1) (w6.setCell ⟨O, 0, none⟩ (.slice sp4 n4 k4)) sp4 k4 (numsTo pA (k + 1)) by rw [nums_step_yes (p := pA) (by exact unhide SA), hxn]; exact o4.kept gs (fun g hg e => by have h1 := (o4.blk_lt g hg).1; have h2 := Option.some.inj e; omega))
                have OB := hide ((unhide OO).kept gs (fun g hg e => by have h1 := ((unhide OO).blk_lt g hg).1; have h2 := Option.some.inj e; omega))
                have F := hide ((unhide B6).grown gs (by have := (unhide B6).size; have := unhide OL; omega) (fun g e => by have := Option.some.inj e; omega))
                clear o4 g4 hn4 ba hs2 hs5 gs OO c0 c1
                have SB := hide (show pB ((k : Int) + 1) = false by simp [hpB, upd, hxn])
                rw [← nums_step_no (p := pB) (k := k) (by exact unhide SB)] at NB OB
                have m0 := box_cell (unhide (unhide KX _ (unhide F))) 0 _ rfl
                have m1 := box_cell (unhide (unhide KX _ (unhide F))) 1 _ rfl
                have d0 := box_cell (unhide (unhide KC _ (unhide F))) 0 _ rfl
                have d1 := box_cell (unhide (unhide KC _ (unhide F))) 1 _ rfl
                go_wp2
                exact ⟨⟨k + 1, n4, k4, nB, cB', sp4, spB, by omega, trivial, by go_num, unhide BX, unhide NA, unhide NB, unhide OA, unhide OB, unhide AP, unhide F⟩, by simp [intOf]; omega⟩
              · have hxn' : ¬ (n = (k : Int) + 1) := fun e => hxn e.symm
                go_wp2_with fail
                refine (in_calls (unhide KV _ (unhide F)) ((k : Int) + 1) vn (unhide VN) hvx).mono ?_
                rintro e w5 ⟨rfl, rfl⟩
                by_cases hv2 : ((k : Int) + 1) ∈ v
                · rw [show decide (((k : Int) + 1) ∈ v) = true by simp [hv2]]
                  have SA := hide (show pA ((k : Int) + 1) = true by simp [hpA, upd, hxn, (kind_voter hr ((k : Int) + 1)).2 hv2])
                  clear hv2
                  have c0 := box_cell (unhide BX) 0 _ rfl
                  have c1 := box_cell (unhide BX) 1 _ rfl
                  go_wp2_with (at_builtin; refine unhide ?_)
                  refine hide ?_
                  have ba : Below w5.heap.size w5 (w5.alloc (.cells #[.int .i64 ((k : Int) + 1)] 3)) := (Below.refl _ _).alloc (Nat.le_refl _) _
                  have hs5 : O + 1 ≤ w5.heap.size := (Array.getElem?_eq_some_iff.1 (unhide BX)).1
                  have hs2 : O + 1 ≤ (w5.alloc (.cells #[.int .i64 ((k : Int) + 1)] 3)).heap.size := Nat.le_trans hs5 ba.size
                  refine wpList_appendI rfl (.tmp 94) (.tmp 96) rfl (O + 1) spA nA cA (numsTo pA k) rfl (unhide NA) ((unhide OA).later ba) (some ⟨w5.heap.size, 0, none⟩) 1 1 rfl [((k : Int) + 1)] rfl (ints_one (heap_new _ _) (by omega)) (fun h => by cases h) (by have := nums_len pA k; omega) hs2 ?_
                  intro sp4 n4 k4 w6 hn4 o4 g4
                  have OO := hide (((unhide OB).later ba).stayB (unhide AP) g4)
                  have AP := hide ((unhide AP).left g4 ((unhide OB).later ba))
                  have B6 := hide ((unhide F).trans ((ba.mono (by omega)).trans ((GrewI.below g4 ((unhide OA).later ba) hs2).mono (by omega))))
                  have X6 := hide (show w6.heap[O]? = some (mB spA nA cA spB nB cB') from ((GrewI.below g4 ((unhide OA).later ba) hs2).block O (by omega)).trans (later_block ba (unhide BX)))
                  have z0 := box_cell (unhide X6) 0 _ rfl
                  have z1 := box_cell (unhide X6) 1 _ rfl
                  have z2 := mbox_free (unhide X6) 0
                  have BX := hide (heap_setCell_same w6 O 0 _ 24 (.slice sp4 n4 k4) (unhide X6))
                  have gs := grown_set w6 O 0 (.slice sp4 n4 k4)
                  have NA := hide (show (numsTo pA (k + 1)).length = n4 by rw [nums_step_yes (p := pA) (by exact unhide SA)]; exact unhide hn4)
                  have OA := hide (show OwnI (O + 1) (w6.setCell ⟨O, 0, none⟩ (.slice sp4 n4 k4)) sp4 k4 (numsTo pA (k + 1)) by rw [nums_step_yes (p := pA) (by exact unhide SA)]; exact o4.kept gs (fun g hg e => by have h1 := (o4.blk_lt g hg).1; have h2 := Option.some.inj e; omega))
                  have OB := hide ((unhide OO).kept gs (fun g hg e => by have h1 := ((unhide OO).blk_lt g hg).1; have h2 := Option.some.inj e; omega))
                  have F := hide ((unhide B6).grown gs (by have := (unhide B6).size; have := unhide OL; omega) (fun g e => by have := Option.some.inj e; omega))
                  clear o4 g4 hn4 ba hs2 hs5 gs OO c0 c1
                  have m0 := box_cell (unhide (unhide KX _ (unhide F))) 0 _ rfl
                  have m1 := box_cell (unhide (unhide KX _ (unhide F))) 1 _ rfl
                  have d0 := box_cell (unhide (unhide KC _ (unhide F))) 0 _ rfl
                  have d1 := box_cell (unhide (unhide KC _ (unhide F))) 1 _ rfl
                  go_wp2_with fail
                  refine (in_calls (unhide KL _ (unhide F)) ((k : Int) + 1) ln (unhide LN) hlx).mono ?_
                  rintro e w7 ⟨rfl, h7⟩
                  clear m0 m1 d0 d1
                  rw [← h7] at BX OA OB F
                  clear h7
                  have m0 := box_cell (unhide (unhide KX _ (unhide F))) 0 _ rfl
                  have m1 := box_cell (unhide (unhide KX _ (unhide F))) 1 _ rfl
                  have d0 := box_cell (unhide (unhide KC _ (unhide F))) 0 _ rfl
                  have d1 := box_cell (unhide (unhide KC _ (unhide F))) 1 _ rfl
                  by_cases hl2 : ((k : Int) + 1) ∈ l
                  · rw [show decide (((k : Int) + 1) ∈ l) = true by simp [hl2]]
                    have SB := hide (show pB ((k : Int) + 1) = true by simp [hpB, upd, hxn, (kind_learner v l ((k : Int) + 1)).2 hl2])
                    clear hl2
                    have c0 := box_cell (unhide BX) 0 _ rfl
                    have c1 := box_cell (unhide BX) 1 _ rfl
                    go_wp2_with (at_builtin; refine unhide ?_)
                    refine hide ?_
                    have ba : Below w7.heap.size w7 (w7.alloc (.cells #[.int .i64 ((k : Int) + 1)] 3)) := (Below.refl _ _).alloc (Nat.le_refl _) _
                    have hs5 : O + 1 ≤ w7.heap.size := (Array.getElem?_eq_some_iff.1 (unhide BX)).1
                    have hs2 : O + 1 ≤ (w7.alloc (.cells #[.int .i64 ((k : Int) + 1)] 3)).heap.size := Nat.le_trans hs5 ba.size
                    refine wpList_appendI rfl (.tmp 119) (.tmp 121) rfl (O + 1) spB nB cB' (numsTo pB k) rfl (unhide NB) ((unhide OB).later ba) (some ⟨w7.heap.size, 0, none⟩) 1 1 rfl [((k : Int) + 1)] rfl (ints_one (heap_new _ _) (by omega)) (fun h => by cases h) (by have := nums_len pB k; omega) hs2 ?_
                    intro sp5 n5 k5 w8 hn5 o5 g5
                    have OO := hide (((unhide OA).later ba).stayA (unhide AP) g5)
                    have AP := hide ((unhide AP).right g5 ((unhide OA).later ba))
                    have B6 := hide ((unhide F).trans ((ba.mono (by omega)).trans ((GrewI.below g5 ((unhide OB).later ba) hs2).mono (by omega))))
                    have X6 := hide (show w8.heap[O]? = some (mB sp4 n4 k4 spB nB cB') from ((GrewI.below g5 ((unhide OB).later ba) hs2).block O (by omega)).trans (later_block ba (unhide BX)))
                    have z0 := box_cell (unhide X6) 0 _ rfl
                    have z1 := box_cell (unhide X6) 1 _ rfl
                    have z2 := mbox_free (unhide X6) 1
                    have BX := hide (heap_setCell_same w8 O 1 _ 24 (.slice sp5 n5 k5) (unhide X6))
                    have gs := grown_set w8 O 1 (.slice sp5 n5 k5)
                    have NB := hide (show (numsTo pB (k + 1)).length = n5 by rw [nums_step_yes (p := pB) (by exact unhide SB)]; exact unhide hn5)
                    have OB := hide (show OwnI (O + 1) (w8.setCell ⟨O, 1, none⟩ (.slice sp5 n5 k5)) sp5 k5 (numsTo pB (k + 1)) by rw [nums_step_yes (p := pB) (by exact unhide SB)]; exact o5.kept gs (fun g hg e => by have h1 := (o5.blk_lt g hg).1; have h2 := Option.some.inj e; omega))
                    have OA := hide ((unhide OO).kept gs (fun g hg e => by have h1 := ((unhide OO).blk_lt g hg).1; have h2 := Option.some.inj e; omega))
                    have F := hide ((unhide B6).grown gs (by have := (unhide B6).size; have := unhide OL; omega) (fun g e => by have := Option.some.inj e; omega))
                    clear o5 g5 hn5 ba hs2 hs5 gs OO c0 c1
                    go_wp2
                    exact ⟨⟨k + 1, n4, k4, n5, k5, sp4, sp5, by omega, trivial, by go_num, unhide BX, unhide NA, unhide NB, unhide OA, unhide OB, unhide AP, unhide F⟩, by simp [intOf]; omega⟩
                  · rw [show decide (((k : Int) + 1) ∈ l) = false by simp [hl2]]
                    have SB := hide (show pB ((k : Int) + 1) = false by
                      have : ¬ kindM v l ((k : Int) + 1) = 2 := fun h => hl2 ((kind_learner v l _).1 h)
                      simp [hpB, upd, hxn, this])
                    clear hl2
                    rw [← nums_step_no (p := pB) (k := k) (by exact unhide SB)] at NB OB
                    go_wp2
                    exact ⟨⟨k + 1, n4, k4, nB, cB', sp4, spB, by omega, trivial, by go_num, unhide BX, unhide NA, unhide NB, unhide OA, unhide OB, unhide AP, unhide F⟩, by simp [intOf]; omega⟩
                · rw [show decide (((k : Int) + 1) ∈ v) = false by simp [hv2]]
                  have SA := hide (show pA ((k : Int) + 1) = false by
                    have : ¬ kindM v l ((k : Int) + 1) = 1 := fun h => hv2 ((kind_voter hr _).1 h)
                    simp [hpA, upd, hxn, this])
                  clear hv2
                  rw [← nums_step_no (p := pA) (k := k) (by exact unhide SA)] at NA OA
                  have m0 := box_cell (unhide (unhide KX _ (unhide F))) 0 _ rfl
                  have m1 := box_cell (unhide (unhide KX _ (unhide F))) 1 _ rfl
                  have d0 := box_cell (unhide (unhide KC _ (unhide F))) 0 _ rfl
                  have d1 := box_cell (unhide (unhide KC _ (unhide F))) 1 _ rfl
                  go_wp2_with fail
                  refine (in_calls (unhide KL _ (unhide F)) ((k : Int) + 1) ln (unhide LN) hlx).mono ?_
                  rintro e w7 ⟨rfl, h7⟩
                  clear m0 m1 d0 d1
                  rw [← h7] at BX OA OB F
                  clear h7
                  have m0 := box_cell (unhide (unhide KX _ (unhide F))) 0 _ rfl
                  have m1 := box_cell (unhide (unhide KX _ (unhide F))) 1 _ rfl
                  have d0 := box_cell (unhide (unhide KC _ (unhide F))) 0 _ rfl
                  have d1 := box_cell (unhide (unhide KC _ (unhide F))) 1 _ rfl
                  by_cases hl2 : ((k : Int) + 1) ∈ l
                  · rw [show decide (((k : Int) + 1) ∈ l) = true by simp [hl2]]
                    have SB := hide (show pB ((k : Int) + 1) = true by simp [hpB, upd, hxn, (kind_learner v l ((k : Int) + 1)).2 hl2])
                    clear hl2
                    have c0 := box_cell (unhide BX) 0 _ rfl
                    have c1 := box_cell (unhide BX) 1 _ rfl
                    go_wp2_with (at_builtin; refine unhide ?_)
                    refine hide ?_
                    have ba : Below w7.heap.size w7 (w7.alloc (.cells #[.int .i64 ((k : Int) + 1)] 3)) := (Below.refl _ _).alloc (Nat.le_refl _) _
                    have hs5 : O + 1 ≤ w7.heap.size := (Array.getElem?_eq_some_iff.1 (unhide BX)).1
                    have hs2 : O + 1 ≤ (w7.alloc (.cells #[.int .i64 ((k : Int) + 1)] 3)).heap.size := Nat.le_trans hs5 ba.size
                    refine wpList_appendI rfl (.tmp 119) (.tmp 121) rfl (O + 1) spB nB cB' (numsTo pB k) rfl (unhide NB) ((unhide OB).later ba) (some ⟨w7.heap.size, 0, none⟩) 1 1 rfl [((k : Int) + 1)] rfl (ints_one (heap_new _ _) (by omega)) (fun h => by cases h) (by have := nums_len pB k; omega) hs2 ?_
                    intro sp5 n5 k5 w8 hn5 o5 g5
                    have OO := hide (((unhide OA).later ba).stayA (unhide AP) g5)
                    have AP := hide ((unhide AP).right g5 ((unhide OA).later ba))
                    have B6 := hide ((unhide F).trans ((ba.mono (by omega)).trans ((GrewI.below g5 ((unhide OB).later ba) hs2).mono (by omega))))
                    have X6 := hide (show w8.heap[O]? = some (mB spA nA cA spB nB cB') from ((GrewI.below g5 ((unhide OB).later ba) hs2).block O (by omega)).trans (later_block ba (unhide BX)))
                    have z0 := box_cell (unhide X6) 0 _ rfl
                    have z1 := box_cell (unhide X6) 1 _ rfl
                    have z2 := mbox_free (unhide X6) 1
                    have BX := hide (heap_setCell_same w8 O 1 _ 24 (.slice sp5 n5 k5) (unhide X6))
                    have gs := grown_set w8 O 1 (.slice sp5 n5 k5)
                    have NB := hide (show (numsTo pB (k + 1)).length = n5 by rw [nums_step_yes (p := pB) (by exact unhide SB)]; exact unhide hn5)
                    have OB := hide (show OwnI (O + 1) (w8.setCell ⟨O, 1, none⟩ (.slice sp5 n5 k5)) sp5 k5 (numsTo pB (k + 1)) by rw [nums_step_yes (p := pB) (by exact unhide SB)]; exact o5.kept gs (fun g hg e => by have h1 := (o5.blk_lt g hg).1; have h2 := Option.some.inj e; omega))
                    have OA := hide ((unhide OO).kept gs (fun g hg e => by have h1 := ((unhide OO).blk_lt g hg).1; have h2 := Option.some.inj e; omega))
                    have F := hide ((unhide B6).grown gs (by have := (unhide B6).size; have := unhide OL; omega) (fun g e => by have := Option.some.inj e; omega))
                    clear o5 g5 hn5 ba hs2 hs5 gs OO c0 c1
                    go_wp2
                    exact ⟨⟨k + 1, nA, cA, n5, k5, spA, sp5, by omega, trivial, by go_num, unhide BX, unhide NA, unhide NB, unhide OA, unhide OB, unhide AP, unhide F⟩, by simp [intOf]; omega⟩
                  · rw [show decide (((k : Int) + 1) ∈ l) = false by simp [hl2]]
                    have SB := hide (show pB ((k : Int) + 1) = false by
                      have : ¬ kindM v l ((k : Int) + 1) = 2 := fun h => hl2 ((kind_learner v l _).1 h)
                      simp [hpB, upd, hxn, this])
                    clear hl2
                    rw [← nums_step_no (p := pB) (k := k) (by exact unhide SB)] at NB OB
                    go_wp2
                    exact ⟨⟨k + 1, nA, cA, nB, cB', spA, spB, by omega, trivial, by go_num, unhide BX, unhide NA, unhide NB, unhide OA, unhide OB, unhide AP, unhide F⟩, by simp [intOf]; omega⟩
            · obtain rfl : k = 9 := by omega
              have c0 := box_cell (unhide BX) 0 _ rfl
              have c1 := box_cell (unhide BX) 1 _ rfl
              have F5 := hide (unhide KF _ (unhide F))
              have Y5 := hide (later_block (unhide F5) (unhide Y1))
              obtain ⟨W, y0, y1, gW, hW⟩ := two_sets (unhide Y5) (.slice spA nA cA) (.slice spB nB cB')
              have HW := hide hW
              have z0 := box_cell (unhide Y5) 0 _ rfl
              have z1 := box_cell (unhide Y5) 1 _ rfl
              have z2 := mbox_free (unhide Y5) 0
              have z3 := mbox_free (unhide Y5) 1
              have OAW := hide ((unhide OA).kept gW (fun g hg e => by have h1 := ((unhide OA).blk_lt g hg).1; have h2 := Option.some.inj e; have h3 := unhide ZE; have h4 := unhide OW; omega))
              have OBW := hide ((unhide OB).kept gW (fun g hg e => by have h1 := ((unhide OB).blk_lt g hg).1; have h2 := Option.some.inj e; have h3 := unhide ZE; have h4 := unhide OW; omega))
              have bW := hide ((unhide b1).trans (Below.grown ((unhide F5).mono (by have := unhide ZE; omega) : Below D w1 _) gW (by have := (unhide F5).size; have := unhide ZE; omega) (fun g e => by have := Option.some.inj e; omega)))
              clear hW gW
              go_wp2_with fail
              rw [unhide HW]
              go_wp2
              refine bodyPost_ret (v := .tuple #[mV spA nA cA spB nB cB', .int .i64 0]) (by simp [results, Try.results31, go_sem, y0, y1]) rfl ?_
              refine ⟨.inr ⟨unhide AE, hr, hm, spA, nA, cA, spB, nB, cB', rfl, ?_, ?_, ?_, ?_, unhide AP⟩, by first | exact unhide bW | (rw [hD]; exact unhide bW)⟩
              · rw [unhide KK, votersTo, ← unhide PA]; exact unhide NA
              · rw [unhide KK, learnersTo, ← unhide PB]; exact unhide NB
              · rw [unhide KK, votersTo, ← unhide PA]; exact (unhide OAW).mono (by have h3 := unhide ZE; have h4 := unhide OW; omega)
              · rw [unhide KK, learnersTo, ← unhide PB]; exact (unhide OBW).mono (by have h3 := unhide ZE; have h4 := unhide OW; omega)
        · have AE := hide (show applyE v l 3 n = 8 by simp [applyE, hr, hm, hkd, turnedM])
          obtain ⟨W, y0, y1, bW, hW, z0, z1, z2, z3⟩ := unhide DONE _ (unhide F3)
          have HW := hide hW
          clear hW
          go_wp2_with fail
          rw [unhide HW]
          go_wp2
          refine bodyPost_ret (v := .tuple #[mV none 0 0 none 0 0, .int .i64 8]) (by simp [results, Try.results31, go_sem, y0, y1]) rfl ?_
          exact ⟨.inl ⟨by rw [unhide AE]; decide, by rw [unhide AE]⟩, by first | exact bW | (rw [hD]; exact bW)⟩
        · have AE := hide (show applyE v l 4 n = 0 by simp [applyE, hr, hm, hkd, turnedM])
          have KK := hide (show (turnedM (kindM v l n) 4 v.length).1 = 0 by simp [hkd, turnedM])
          obtain ⟨pA, hpA⟩ : ∃ p : Int → Bool, p = fun x => decide (upd (kindM v l) n 0 x = 1) := ⟨_, rfl⟩
          obtain ⟨pB, hpB⟩ : ∃ p : Int → Bool, p = fun x => decide (upd (kindM v l) n 0 x = 2) := ⟨_, rfl⟩
          have PA := hide hpA
          have PB := hide hpB
          clear hpA hpB
          have b4 := hide (show Below w3.heap.size w3 (w3.alloc (mB none 0 0 none 0 0)) from (Below.refl _ _).alloc (Nat.le_refl _) _)
          have X4 := hide (heap_new w3 (mB none 0 0 none 0 0))
          have F4 := hide ((unhide F3).trans ((unhide b4).mono (unhide F3).size))
          have OL := hide (show w3.heap.size < (w3.alloc (mB none 0 0 none 0 0)).heap.size by simp)
          have OW := hide (show w1.heap.size ≤ w3.heap.size from (unhide F3).size)
          go_wp2_with fail
          generalize hO : w3.heap.size = O at *
          generalize w3.alloc (mB none 0 0 none 0 0) = w4 at *
          have KF := hide (show ∀ u : World, Below O w4 u → Below w1.heap.size w1 u from fun u h => (unhide F4).trans (h.mono (unhide OW)))
          have KX := hide (show ∀ u : World, Below O w4 u → Hid (u.heap[D]? = some (mB va vn vc la ln lc)) from fun u h => later_block (unhide KF u h) (unhide X1))
          have KC := hide (show ∀ u : World, Below O w4 u → Hid (u.heap[D + 1]? = some (cB 4 n)) from fun u h => later_block (unhide KF u h) (unhide C1))
          have KV := hide (show ∀ u : World, Below O w4 u → IntsAt u va v from fun u h => (unhide V).later (unhide KF u h))
          have KL := hide (show ∀ u : World, Below O w4 u → IntsAt u la l from fun u h => (unhide L).later (unhide KF u h))
          go_loopw [12] (fun i wr => ∃ (k nA cA nB cB' : Nat) (spA spB : Option Addr), k ≤ 9 ∧ True ∧ i = .int .i64 ((k : Int) + 1) ∧ Hid (wr.heap[O]? = some (mB spA nA cA spB nB cB')) ∧ Hid ((numsTo pA k).length = nA) ∧ Hid ((numsTo pB k).length = nB) ∧ Hid (OwnI (O + 1) wr spA cA (numsTo pA k)) ∧ Hid (OwnI (O + 1) wr spB cB' (numsTo pB k)) ∧ Hid (Apart spA spB) ∧ Hid (Below O w4 wr)) (fun i _ => (10 - intOf i).toNat)
          case atStart => exact ⟨0, 0, 0, 0, 0, none, none, by omega, trivial, rfl, unhide X4, rfl, rfl, OwnI.ofNil _ _, OwnI.ofNil _ _, Apart.none_left _, Below.refl _ _⟩
          case round =>
            obtain ⟨k, nA, cA, nB, cB', spA, spB, hk, _, rfl, BX, NA, NB, OA, OB, AP, F⟩ := hrel
            have m0 := box_cell (unhide (unhide KX _ (unhide F))) 0 _ rfl
            have m1 := box_cell (unhide (unhide KX _ (unhide F))) 1 _ rfl
            have d0 := box_cell (unhide (unhide KC _ (unhide F))) 0 _ rfl
            have d1 := box_cell (unhide (unhide KC _ (unhide F))) 1 _ rfl
            by_cases hk9 : k < 9
            · have hi1 : (k : Int) + 1 ≤ 9 := by omega
              have hpA := unhide PA
              have hpB := unhide PB
              by_cases hxn : (k : Int) + 1 = n
              · have SA := hide (show pA ((k : Int) + 1) = false by simp [hpA, upd, hxn])
                rw [← nums_step_no (p := pA) (k := k) (by exact unhide SA)] at NA OA
                have SB := hide (show pB ((k : Int) + 1) = false by simp [hpB, upd, hxn])
                rw [← nums_step_no (p := pB) (k := k) (by exact unhide SB)] at NB OB
                have m0 := box_cell (unhide (unhide KX _ (unhide F))) 0 _ rfl
                have m1 := box_cell (unhide (unhide KX _ (unhide F))) 1 _ rfl
                have d0 := box_cell (unhide (unhide KC _ (unhide F))) 0 _ rfl
                have d1 := box_cell (unhide (unhide KC _ (unhide F))) 1 _ rfl
                go_wp2
                exact ⟨⟨k + 1, nA, cA, nB, cB', spA, spB, by omega, trivial, by go_num, unhide BX, unhide NA, unhide NB, unhide OA, unhide OB, unhide AP, unhide F⟩, by simp [intOf]; omega⟩
              · have hxn' : ¬ (n = (k : Int) + 1) := fun e => hxn e.symm
                go_wp2_with fail
                refine (in_calls (unhide KV _ (unhide F)) ((k : Int) + 1) vn (unhide VN) hvx).mono ?_
                rintro e w5 ⟨rfl, rfl⟩
                by_cases hv2 : ((k : Int) + 1) ∈ v
                · rw [show decide (((k : Int) + 1) ∈ v) = true by simp [hv2]]
                  have SA := hide (show pA ((k : Int) + 1) = true by simp [hpA, upd, hxn, (kind_voter hr ((k : Int) + 1)).2 hv2])
                  clear hv2
                  have c0 := box_cell (unhide BX) 0 _ rfl
                  have c1 := box_cell (unhide BX) 1 _ rfl
                  go_wp2_with (at_builtin; refine unhide ?_)
                  refine hide ?_
                  have ba : Below w5.heap.size w5 (w5.alloc (.cells #[.int .i64 ((k : Int) + 1)] 3)) := (Below.refl _ _).alloc (Nat.le_refl _) _
                  have hs5 : O + 1 ≤ w5.heap.size := (Array.getElem?_eq_some_iff.1 (unhide BX)).1
                  have hs2 : O + 1 ≤ (w5.alloc (.cells #[.int .i64 ((k : Int) + 1)] 3)).heap.size := Nat.le_trans hs5 ba.size
                  refine wpList_appendI rfl (.tmp 94) (.tmp 96) rfl (O + 1) spA nA cA (numsTo pA k) rfl (unhide NA) ((unhide OA).later ba) (some ⟨w5.heap.size, 0, none⟩) 1 1 rfl [((k : Int) + 1)] rfl (ints_one (heap_new _ _) (by omega)) (fun h => by cases h) (by have := nums_len pA k; omega) hs2 ?_
                  intro sp4 n4 k4 w6 hn4 o4 g4
                  have OO := hide (((unhide OB).later ba).stayB (unhide AP) g4)
                  have AP := hide ((unhide AP).left g4 ((unhide OB).later ba))
                  have B6 := hide ((unhide F).trans ((ba.mono (by omega)).trans ((GrewI.below g4 ((unhide OA).later ba) hs2).mono (by omega))))
                  have X6 := hide (show w6.heap[O]? = some (mB spA nA cA spB nB cB') from ((GrewI.below g4 ((unhide OA).later ba) hs2).block O (by omega)).trans (later_block ba (unhide BX)))
                  have z0 := box_cell (unhide X6) 0 _ rfl
                  have z1 := box_cell (unhide X6) 1 _ rfl
                  have z2 := mbox_free (unhide X6) 0
                  have BX := hide (heap_setCell_same w6 O 0 _ 24 (.slice sp4 n4 k4) (unhide X6))
                  have gs := grown_set w6 O 0 (.slice sp4 n4 k4)
                  have NA := hide (show (numsTo pA (k + 1)).length = n4 by rw [nums_step_yes (p := pA) (by exact unhide SA)]; exact unhide hn4)
                  have OA := hide (show OwnI (O + 1) (w6.setCell ⟨O, 0, none⟩ (.slice sp4 n4 k4)) sp4 k4 (numsTo pA (k + 1)) by rw [nums_step_yes (p := pA) (by exact unhide SA)]; exact o4.kept gs (fun g hg e => by have h1 := (o4.blk_lt g hg).1; have h2 := Option.some.inj e; omega))
                  have OB := hide ((unhide OO).kept gs (fun g hg e => by have h1 := ((unhide OO).blk_lt g hg).1; have h2 := Option.some.inj e; omega))
                  have F := hide ((unhide B6).grown gs (by have := (unhide B6).size; have := unhide OL; omega) (fun g e => by have := Option.some.inj e; omega))
                  clear o4 g4 hn4 ba hs2 hs5 gs OO c0 c1
                  have m0 := box_cell (unhide (unhide KX _ (unhide F))) 0 _ rfl
                  have m1 := box_cell (unhide (unhide KX _ (unhide F))) 1 _ rfl
                  have d0 := box_cell (unhide (unhide KC _ (unhide F))) 0 _ rfl
                  have d1 := box_cell (unhide (unhide KC _ (unhide F))) 1 _ rfl
                  go_wp2_with fail
                  refine (in_calls (unhide KL _ (unhide F)) ((k : Int) + 1) ln (unhide LN) hlx).mono ?_
                  rintro e w7 ⟨rfl, h7⟩
                  clear m0 m1 d0 d1
                  rw [← h7] at BX OA OB F
                  clear h7
                  have m0 := box_cell (unhide (unhide KX _ (unhide F))) 0 _ rfl
                  have m1 := box_cell (unhide (unhide KX _ (unhide F))) 1 _ rfl
                  have d0 := box_cell (unhide (unhide KC _ (unhide F))) 0 _ rfl
                  have d1 := box_cell (unhide (unhide KC _ (unhide F))) 1 _ rfl
                  by_cases hl2 : ((k : Int) + 1) ∈ l
                  · rw [show decide (((k : Int) + 1) ∈ l) = true by simp [hl2]]
                    have SB := hide (show pB ((k : Int) + 1) = true by simp [hpB, upd, hxn, (kind_learner v l ((k : Int) + 1)).2 hl2])
                    clear hl2
                    have c0 := box_cell (unhide BX) 0 _ rfl
                    have c1 := box_cell (unhide BX) 1 _ rfl
                    go_wp2_with (at_builtin; refine unhide ?_)
                    refine hide ?_
                    have ba : Below w7.heap.size w7 (w7.alloc (.cells #[.int .i64 ((k : Int) + 1)] 3)) := (Below.refl _ _).alloc (Nat.le_refl _) _
                    have hs5 : O + 1 ≤ w7.heap.size := (Array.getElem?_eq_some_iff.1 (unhide BX)).1
                    have hs2 : O + 1 ≤ (w7.alloc (.cells #[.int .i64 ((k : Int) + 1)] 3)).heap.size := Nat.le_trans hs5 ba.size
                    refine wpList_appendI rfl (.tmp 119) (.tmp 121) rfl (O + 1) spB nB cB' (numsTo pB k) rfl (unhide NB) ((unhide OB).later ba) (some ⟨w7.heap.size, 0, none⟩) 1 1 rfl [((k : Int) + 1)] rfl (ints_one (heap_new _ _) (by omega)) (fun h => by cases h) (by have := nums_len pB k; omega) hs2 ?_
                    intro sp5 n5 k5 w8 hn5 o5 g5
                    have OO := hide (((unhide OA).later ba).stayA (unhide AP) g5)
                    have AP := hide ((unhide AP).right g5 ((unhide OA).later ba))
                    have B6 := hide ((unhide F).trans ((ba.mono (by omega)).trans ((GrewI.below g5 ((unhide OB).later ba) hs2).mono (by omega))))
                    have X6 := hide (show w8.heap[O]? = some (mB sp4 n4 k4 spB nB cB') from ((GrewI.below g5 ((unhide OB).later ba) hs2).block O (by omega)).trans (later_block ba (unhide BX)))
                    have z0 := box_cell (unhide X6) 0 _ rfl
                    have z1 := box_cell (unhide X6) 1 _ rfl
                    have z2 := mbox_free (unhide X6) 1
                    have BX := hide (heap_setCell_same w8 O 1 _ 24 (.slice sp5 n5 k5) (unhide X6))
                    have gs := grown_set w8 O 1 (.slice sp5 n5 k5)
                    have NB := hide (show (numsTo pB (k + 1)).length = n5 by rw [nums_step_yes (p := pB) (by exact unhide SB)]; exact unhide hn5)
                    have OB := hide (show OwnI (O + 1) (w8.setCell ⟨O, 1, none⟩ (.slice sp5 n5 k5)) sp5 k5 (numsTo pB (k + 1)) by rw [nums_step_yes (p := pB) (by exact unhide SB)]; exact o5.kept gs (fun g hg e => by have h1 := (o5.blk_lt g hg).1; have h2 := Option.some.inj e; omega))
                    have OA := hide ((unhide OO).kept gs (fun g hg e => by have h1 := ((unhide OO).blk_lt g hg).1; have h2 := Option.some.inj e; omega))
                    have F := hide ((unhide B6).grown gs (by have := (unhide B6).size; have := unhide OL; omega) (fun g e => by have := Option.some.inj e; omega))
                    clear o5 g5 hn5 ba hs2 hs5 gs OO c0 c1
                    go_wp2
                    exact ⟨⟨k + 1, n4, k4, n5, k5, sp4, sp5, by omega, trivial, by go_num, unhide BX, unhide NA, unhide NB, unhide OA, unhide OB, unhide AP, unhide F⟩, by simp [intOf]; omega⟩
                  · rw [show decide (((k : Int) + 1) ∈ l) = false by simp [hl2]]
                    have SB := hide (show pB ((k : Int) + 1) = false by
                      have : ¬ kindM v l ((k : Int) + 1) = 2 := fun h => hl2 ((kind_learner v l _).1 h)
                      simp [hpB, upd, hxn, this])
                    clear hl2
                    rw [← nums_step_no (p := pB) (k := k) (by exact unhide SB)] at NB OB
                    go_wp2
                    exact ⟨⟨k + 1, n4, k4, nB, cB', sp4, spB, by omega, trivial, by go_num, unhide BX, unhide NA, unhide NB, unhide OA, unhide OB, unhide AP, unhide F⟩, by simp [intOf]; omega⟩
                · rw [show decide (((k : Int) + 1) ∈ v) = false by simp [hv2]]
                  have SA := hide (show pA ((k : Int) + 1) = false by
                    have : ¬ kindM v l ((k : Int) + 1) = 1 := fun h => hv2 ((kind_voter hr _).1 h)
                    simp [hpA, upd, hxn, this])
                  clear hv2
                  rw [← nums_step_no (p := pA) (k := k) (by exact unhide SA)] at NA OA
                  have m0 := box_cell (unhide (unhide KX _ (unhide F))) 0 _ rfl
                  have m1 := box_cell (unhide (unhide KX _ (unhide F))) 1 _ rfl
                  have d0 := box_cell (unhide (unhide KC _ (unhide F))) 0 _ rfl
                  have d1 := box_cell (unhide (unhide KC _ (unhide F))) 1 _ rfl
                  go_wp2_with fail
                  refine (in_calls (unhide KL _ (unhide F)) ((k : Int) + 1) ln (unhide LN) hlx).mono ?_
                  rintro e w7 ⟨rfl, h7⟩
                  clear m0 m1 d0 d1
                  rw [← h7] at BX OA OB F
                  clear h7
                  have m0 := box_cell (unhide (unhide KX _ (unhide F))) 0 _ rfl
                  have m1 := box_cell (unhide (unhide KX _ (unhide F))) 1 _ rfl
                  have d0 := box_cell (unhide (unhide KC _ (unhide F))) 0 _ rfl
                  have d1 := box_cell (unhide (unhide KC _ (unhide F))) 1 _ rfl
                  by_cases hl2 : ((k : Int) + 1) ∈ l
                  · rw [show decide (((k : Int) + 1) ∈ l) = true by simp [hl2]]
                    have SB := hide (show pB ((k : Int) + 1) = true by simp [hpB, upd, hxn, (kind_learner v l ((k : Int) + 1)).2 hl2])
                    clear hl2
                    have c0 := box_cell (unhide BX) 0 _ rfl
                    have c1 := box_cell (unhide BX) 1 _ rfl
                    go_wp2_with (at_builtin; refine unhide ?_)
                    refine hide ?_
                    have ba : Below w7.heap.size w7 (w7.alloc (.cells #[.int .i64 ((k : Int) + 1)] 3)) := (Below.refl _ _).alloc (Nat.le_refl _) _
                    have hs5 : O + 1 ≤ w7.heap.size := (Array.getElem?_eq_some_iff.1 (unhide BX)).1
                    have hs2 : O + 1 ≤ (w7.alloc (.cells #[.int .i64 ((k : Int) + 1)] 3)).heap.size := Nat.le_trans hs5 ba.size
                    refine wpList_appendI rfl (.tmp 119) (.tmp 121) rfl (O + 1) spB nB cB' (numsTo pB k) rfl (unhide NB) ((unhide OB).later ba) (some ⟨w7.heap.size, 0, none⟩) 1 1 rfl [((k : Int) + 1)] rfl (ints_one (heap_new _ _) (by omega)) (fun h => by cases h) (by have := nums_len pB k; omega) hs2 ?_
                    intro sp5 n5 k5 w8 hn5 o5 g5
                    have OO := hide (((unhide OA).later ba).stayA (unhide AP) g5)
                    have AP := hide ((unhide AP).right g5 ((unhide OA).later ba))
                    have B6 := hide ((unhide F).trans ((ba.mono (by omega)).trans ((GrewI.below g5 ((unhide OB).later ba) hs2).mono (by omega))))
                    have X6 := hide (show w8.heap[O]? = some (mB spA nA cA spB nB cB') from ((GrewI.below g5 ((unhide OB).later ba) hs2).block O (by omega)).trans (later_block ba (unhide BX)))
                    have z0 := box_cell (unhide X6) 0 _ rfl
                    have z1 := box_cell (unhide X6) 1 _ rfl
                    have z2 := mbox_free (unhide X6) 1
                    have BX := hide (heap_setCell_same w8 O 1 _ 24 (.slice sp5 n5 k5) (unhide X6))
                    have gs := grown_set w8 O 1 (.slice sp5 n5 k5)
                    have NB := hide (show (numsTo pB (k + 1)).length = n5 by rw [nums_step_yes (p := pB) (by exact unhide SB)]; exact unhide hn5)
                    have OB := hide (show OwnI (O + 1) (w8.setCell ⟨O, 1, none⟩ (.slice sp5 n5 k5)) sp5 k5 (numsTo pB (k + 1)) by rw [nums_step_yes (p := pB) (by exact unhide SB)]; exact o5.kept gs (fun g hg e => by have h1 := (o5.blk_lt g hg).1; have h2 := Option.some.inj e; omega))
                    have OA := hide ((unhide OO).kept gs (fun g hg e => by have h1 := ((unhide OO).blk_lt g hg).1; have h2 := Option.some.inj e; omega))
                    have F := hide ((unhide B6).grown gs (by have := (unhide B6).size; have := unhide OL; omega) (fun g e => by have := Option.some.inj e; omega))
                    clear o5 g5 hn5 ba hs2 hs5 gs OO c0 c1
                    go_wp2
                    exact ⟨⟨k + 1, nA, cA, n5, k5, spA, sp5, by omega, trivial, by go_num, unhide BX, unhide NA, unhide NB, unhide OA, unhide OB, unhide AP, unhide F⟩, by simp [intOf]; omega⟩
                  · rw [show decide (((k : Int) + 1) ∈ l) = false by simp [hl2]]
                    have SB := hide (show pB ((k : Int) + 1) = false by
                      have : ¬ kindM v l ((k : Int) + 1) = 2 := fun h => hl2 ((kind_learner v l _).1 h)
                      simp [hpB, upd, hxn, this])
                    clear hl2
                    rw [← nums_step_no (p := pB) (k := k) (by exact unhide SB)] at NB OB
                    go_wp2
                    exact ⟨⟨k + 1, nA, cA, nB, cB', spA, spB, by omega, trivial, by go_num, unhide BX, unhide NA, unhide NB, unhide OA, unhide OB, unhide AP, unhide F⟩, by simp [intOf]; omega⟩
            · obtain rfl : k = 9 := by omega
              have c0 := box_cell (unhide BX) 0 _ rfl
              have c1 := box_cell (unhide BX) 1 _ rfl
              have F5 := hide (unhide KF _ (unhide F))
              have Y5 := hide (later_block (unhide F5) (unhide Y1))
              obtain ⟨W, y0, y1, gW, hW⟩ := two_sets (unhide Y5) (.slice spA nA cA) (.slice spB nB cB')
              have HW := hide hW
              have z0 := box_cell (unhide Y5) 0 _ rfl
              have z1 := box_cell (unhide Y5) 1 _ rfl
              have z2 := mbox_free (unhide Y5) 0
              have z3 := mbox_free (unhide Y5) 1
              have OAW := hide ((unhide OA).kept gW (fun g hg e => by have h1 := ((unhide OA).blk_lt g hg).1; have h2 := Option.some.inj e; have h3 := unhide ZE; have h4 := unhide OW; omega))
              have OBW := hide ((unhide OB).kept gW (fun g hg e => by have h1 := ((unhide OB).blk_lt g hg).1; have h2 := Option.some.inj e; have h3 := unhide ZE; have h4 := unhide OW; omega))
              have bW := hide ((unhide b1).trans (Below.grown ((unhide F5).mono (by have := unhide ZE; omega) : Below D w1 _) gW (by have := (unhide F5).size; have := unhide ZE; omega) (fun g e => by have := Option.some.inj e; omega)))
              clear hW gW
              go_wp2_with fail
              rw [unhide HW]
              go_wp2
              refine bodyPost_ret (v := .tuple #[mV spA nA cA spB nB cB', .int .i64 0]) (by simp [results, Try.results31, go_sem, y0, y1]) rfl ?_
              refine ⟨.inr ⟨unhide AE, hr, hm, spA, nA, cA, spB, nB, cB', rfl, ?_, ?_, ?_, ?_, unhide AP⟩, by first | exact unhide bW | (rw [hD]; exact unhide bW)⟩
              · rw [unhide KK, votersTo, ← unhide PA]; exact unhide NA
              · rw [unhide KK, learnersTo, ← unhide PB]; exact unhide NB
              · rw [unhide KK, votersTo, ← unhide PA]; exact (unhide OAW).mono (by have h3 := unhide ZE; have h4 := unhide OW; omega)
              · rw [unhide KK, learnersTo, ← unhide PB]; exact (unhide OBW).mono (by have h3 := unhide ZE; have h4 := unhide OW; omega)
end
end Go.Proofs.Ytnclkkoefejjiaa
