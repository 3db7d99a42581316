/- The document's Voter and All. -/
import Derived.Test.YtnclkkoefejjiaaMk1
namespace Go.Proofs.Ytnclkkoefejjiaa
open Go.ChangeShapes Go.WideShapes Go.ChangeAt Go.RowKit

section
variable {w : World} {va : Option Addr} {vc : Nat} {v : List Int} {la : Option Addr} {lc : Nat} {l : List Int}
set_option maxRecDepth 20000 in
set_option maxHeartbeats 4000000 in
theorem refVoter_calls (hv : IntsAt w va v) (hl : IntsAt w la l) (vn ln : Nat) (hvn : v.length = vn) (hln : l.length = ln) (hvx : vn ≤ maxLen) (hlx : ln ≤ maxLen) (n : Int) :
    Calls Try.prog 20 #[mV va vn vc la ln lc, .int .i64 n] w fun e w' => e = .returned (.bool (rightM v l && decide (n ∈ v))) ∧ Below w.heap.size w w' := by
  have X1 := hide (heap_new w (mB va vn vc la ln lc))
  have b1 := hide (show Below w.heap.size w (w.alloc (mB va vn vc la ln lc)) from (Below.refl _ _).alloc (Nat.le_refl _) _)
  have V := hide (hv.later (unhide b1))
  have L := hide (hl.later (unhide b1))
  have VN := hide hvn
  have LN := hide hln
  have c0 := box_cell (unhide X1) 0 _ rfl
  have c1 := box_cell (unhide X1) 1 _ rfl
  clear hv hl hvn hln
  go_enter Try.func20, Try.ntmps20
  go_wp2_with fail
  generalize hD : w.heap.size = D at *
  generalize w.alloc (mB va vn vc la ln lc) = w1 at *
  refine (refRight_calls (unhide V) (unhide L) vn ln (unhide VN) (unhide LN) hvx hlx).mono ?_
  rintro e w2 ⟨rfl, b2⟩
  have V2 := hide ((unhide V).later b2)
  have X2 := hide (later_block b2 (unhide X1))
  have B2 := hide ((unhide b1).trans (b2.mono (by have := (unhide b1).size; omega)))
  clear b2 c0 c1
  have c0 := box_cell (unhide X2) 0 _ rfl
  cases hr : rightM v l
  · go_wp2
    go_ret
    exact ⟨by rw [hr]; rfl, by first | exact unhide B2 | (rw [hD]; exact unhide B2)⟩
  · go_wp2_with fail
    refine (in_calls (unhide V2) n vn (unhide VN) hvx).mono ?_
    rintro e w3 ⟨rfl, rfl⟩
    go_wp2
    go_ret
    exact ⟨by rw [hr]; rfl, by first | exact unhide B2 | (rw [hD]; exact unhide B2)⟩
theorem nums_step_yes {p : Int → Bool} {k : Nat} (h : p ((k : Int) + 1) = true) : numsTo p (k + 1) = numsTo p k ++ [(k : Int) + 1] := by rw [numsTo, if_pos h]
theorem nums_step_no {p : Int → Bool} {k : Nat} (h : p ((k : Int) + 1) = false) : numsTo p (k + 1) = numsTo p k := by rw [numsTo, if_neg (by rw [h]; simp)]
set_option maxRecDepth 20000 in
set_option maxHeartbeats 8000000 in
theorem refAll_calls (hv : IntsAt w va v) (hl : IntsAt w la l) (vn ln : Nat) (hvn : v.length = vn) (hln : l.length = ln) (hvx : vn ≤ maxLen) (hlx : ln ≤ maxLen) :
    Calls Try.prog 23 #[mV va vn vc la ln lc] w fun e w' => ∃ sp n c, e = .returned (.slice sp n c) ∧ Hid ((allM v l).length = n) ∧ OwnI w.heap.size w' sp c (allM v l) ∧ Below w.heap.size w w' := by
  have b1' : Below w.heap.size w (w.alloc (mB va vn vc la ln lc)) := (Below.refl _ _).alloc (Nat.le_refl _) _
  have Z1 : (w.alloc (mB va vn vc la ln lc)).heap.size = w.heap.size + 1 := by simp
  have b1 := hide (show Below w.heap.size w ((w.alloc (mB va vn vc la ln lc)).alloc (.cells #[] 3)) from b1'.alloc b1'.size _)
  have X1 := hide (heap_old (.cells #[] 3) (heap_new w (mB va vn vc la ln lc)))
  have O1 := hide (show OwnI (w.heap.size + 1) ((w.alloc (mB va vn vc la ln lc)).alloc (.cells #[] 3)) (some ⟨w.heap.size + 1, 0, none⟩) 0 [] from by
    have := OwnI.empty (w.alloc (mB va vn vc la ln lc)) (w.heap.size + 1) (by simp)
    rwa [Z1] at this)
  have V := hide (hv.later (unhide b1))
  have L := hide (hl.later (unhide b1))
  have ZE := hide (show ((w.alloc (mB va vn vc la ln lc)).alloc (.cells #[] 3)).heap.size = w.heap.size + 2 by simp)
  have VN := hide hvn
  have LN := hide hln
  have VL := hide hv.lt
  have LL := hide hl.lt
  clear hv hl hvn hln b1' Z1
  go_enter Try.func23, Try.ntmps23
  go_wp2_with fail
  generalize hD : w.heap.size = D at *
  generalize (w.alloc (mB va vn vc la ln lc)).alloc (.cells #[] 3) = w1 at *
  go_loopw [3, 4] (fun s i wr => ∃ (k n c : Nat) (sp : Option Addr), k ≤ 9 ∧ s = .slice sp n c ∧ i = .int .i64 ((k : Int) + 1) ∧ Hid (0 < k → rightM v l = true) ∧ Hid ((numsTo (fun x => decide (x ∈ v ∨ x ∈ l)) k).length = n) ∧ Hid (OwnI (D + 1) wr sp c (numsTo (fun x => decide (x ∈ v ∨ x ∈ l)) k)) ∧ Hid (Below (D + 1) w1 wr)) (fun _ i _ => (10 - intOf i).toNat)
  case atStart => exact ⟨0, 0, 0, some ⟨D + 1, 0, none⟩, by omega, rfl, rfl, (fun h => absurd h (by omega)), rfl, unhide O1, Below.refl _ _⟩
  case round =>
    obtain ⟨k, n, c, sp, hk, rfl, rfl, hrk, hn, ho, hB⟩ := hrel
    have V2 := hide ((unhide V).below (unhide hB) (fun h0 b off e => by have := unhide VL h0 b off e; omega))
    have L2 := hide ((unhide L).below (unhide hB) (fun h0 b off e => by have := unhide LL h0 b off e; omega))
    have X2 := hide (((unhide hB).block D (by omega)).trans (unhide X1))
    have c0 := box_cell (unhide X2) 0 _ rfl
    have c1 := box_cell (unhide X2) 1 _ rfl
    have hS1 := hide (show D + 2 ≤ wr.heap.size by have := (unhide hB).size; have := unhide ZE; omega)
    by_cases hk9 : k < 9
    · have hi1 : (k : Int) + 1 ≤ 9 := by omega
      go_wp2_with fail
      refine (refRight_calls (unhide V2) (unhide L2) vn ln (unhide VN) (unhide LN) hvx hlx).mono ?_
      rintro e w2 ⟨rfl, b2⟩
      have ho2 := hide ((unhide ho).later b2)
      have hB2 := hide ((unhide hB).trans (b2.mono (by have := unhide hS1; omega)))
      have V3 := hide ((unhide V2).later b2)
      have L3 := hide ((unhide L2).later b2)
      have X3 := hide (later_block b2 (unhide X2))
      have hS2 := hide (show D + 2 ≤ w2.heap.size from Nat.le_trans (unhide hS1) b2.size)
      clear b2 c0 c1
      have c0 := box_cell (unhide X3) 0 _ rfl
      have c1 := box_cell (unhide X3) 1 _ rfl
      cases hr : rightM v l
      · have AE := hide (show numsTo (fun x => decide (x ∈ v ∨ x ∈ l)) k = allM v l by
          have h0 : k = 0 := by
            rcases Nat.eq_zero_or_pos k with h | h
            · exact h
            · have := unhide hrk h
              rw [hr] at this
              cases this
          subst h0
          rw [allM, hr]
          rfl)
        rw [unhide AE] at hn ho2
        go_wp2
        go_ret
        exact ⟨sp, n, c, rfl, hn, (unhide ho2).mono (by omega), by first | exact (unhide b1).trans ((unhide hB2).mono (by omega)) | (rw [hD]; exact (unhide b1).trans ((unhide hB2).mono (by omega)))⟩
      · go_wp2_with fail
        refine (in_calls (unhide V3) ((k : Int) + 1) vn (unhide VN) hvx).mono ?_
        rintro e w3 ⟨rfl, rfl⟩
        by_cases hin : ((k : Int) + 1) ∈ v
        · have e1 : decide (((k : Int) + 1) ∈ v) = true := by simp [hin]
          have RE := hide (nums_step_yes (p := fun x => decide (x ∈ v ∨ x ∈ l)) (k := k) (by simp [hin]))
          rw [e1]
          clear e1 hin
          go_wp2_with (at_builtin; refine unhide ?_)
          refine hide ?_
          have ba : Below w3.heap.size w3 (w3.alloc (.cells #[.int .i64 ((k : Int) + 1)] 3)) := (Below.refl _ _).alloc (Nat.le_refl _) _
          have hs2 : D + 1 ≤ (w3.alloc (.cells #[.int .i64 ((k : Int) + 1)] 3)).heap.size := Nat.le_trans (by have := unhide hS2; omega) ba.size
          refine wpList_appendI rfl (.tmp 24) (.tmp 26) rfl (D + 1) sp n c (numsTo (fun x => decide (x ∈ v ∨ x ∈ l)) k) rfl (unhide hn) ((unhide ho2).later ba) (some ⟨w3.heap.size, 0, none⟩) 1 1 rfl [(k : Int) + 1] rfl (ints_one (heap_new _ _) (by omega)) (fun h => by cases h) (by have := nums_len (fun x => decide (x ∈ v ∨ x ∈ l)) k; omega) hs2 ?_
          intro sp4 n4 k4 w4 hn4 o4 g4
          have O4 := hide o4
          have N4 := hide (unhide hn4)
          have B4 := hide ((unhide hB2).trans ((ba.mono (by have := unhide hS2; omega)).trans (GrewI.below g4 ((unhide ho2).later ba) hs2)))
          rw [← unhide RE] at O4 N4
          clear o4 g4 hn4 ba hs2
          go_wp2
          exact ⟨⟨k + 1, n4, k4, sp4, by omega, rfl, by go_num, (fun _ => hr), unhide N4, unhide O4, unhide B4⟩, by simp [intOf]; omega⟩
        · have e1 : decide (((k : Int) + 1) ∈ v) = false := by simp [hin]
          rw [e1]
          clear e1
          go_wp2_with fail
          refine (in_calls (unhide L3) ((k : Int) + 1) ln (unhide LN) hlx).mono ?_
          rintro e w4 ⟨rfl, rfl⟩
          by_cases hil : ((k : Int) + 1) ∈ l
          · have e1 : decide (((k : Int) + 1) ∈ l) = true := by simp [hil]
            have RE := hide (nums_step_yes (p := fun x => decide (x ∈ v ∨ x ∈ l)) (k := k) (by simp [hil]))
            rw [e1]
            clear e1 hil hin
            go_wp2_with (at_builtin; refine unhide ?_)
            refine hide ?_
            have ba : Below w4.heap.size w4 (w4.alloc (.cells #[.int .i64 ((k : Int) + 1)] 3)) := (Below.refl _ _).alloc (Nat.le_refl _) _
            have hs2 : D + 1 ≤ (w4.alloc (.cells #[.int .i64 ((k : Int) + 1)] 3)).heap.size := Nat.le_trans (by have := unhide hS2; omega) ba.size
            refine wpList_appendI rfl (.tmp 24) (.tmp 26) rfl (D + 1) sp n c (numsTo (fun x => decide (x ∈ v ∨ x ∈ l)) k) rfl (unhide hn) ((unhide ho2).later ba) (some ⟨w4.heap.size, 0, none⟩) 1 1 rfl [(k : Int) + 1] rfl (ints_one (heap_new _ _) (by omega)) (fun h => by cases h) (by have := nums_len (fun x => decide (x ∈ v ∨ x ∈ l)) k; omega) hs2 ?_
            intro sp5 n5 k5 w5 hn5 o5 g5
            have O5 := hide o5
            have N5 := hide (unhide hn5)
            have B5 := hide ((unhide hB2).trans ((ba.mono (by have := unhide hS2; omega)).trans (GrewI.below g5 ((unhide ho2).later ba) hs2)))
            rw [← unhide RE] at O5 N5
            clear o5 g5 hn5 ba hs2
            go_wp2
            exact ⟨⟨k + 1, n5, k5, sp5, by omega, rfl, by go_num, (fun _ => hr), unhide N5, unhide O5, unhide B5⟩, by simp [intOf]; omega⟩
          · have e1 : decide (((k : Int) + 1) ∈ l) = false := by simp [hil]
            have RE := hide (nums_step_no (p := fun x => decide (x ∈ v ∨ x ∈ l)) (k := k) (by simp [hil, hin]))
            rw [e1]
            clear e1 hil hin
            rw [← unhide RE] at hn ho2
            go_wp2
            exact ⟨⟨k + 1, n, c, sp, by omega, rfl, by go_num, (fun _ => hr), unhide hn, unhide ho2, unhide hB2⟩, by simp [intOf]; omega⟩
    · obtain rfl : k = 9 := by omega
      have AE := hide (show numsTo (fun x => decide (x ∈ v ∨ x ∈ l)) 9 = allM v l by rw [allM, unhide hrk (by omega)]; rfl)
      rw [unhide AE] at hn ho
      go_wp2
      go_ret
      exact ⟨sp, n, c, rfl, hn, (unhide ho).mono (by omega), by first | exact (unhide b1).trans ((unhide hB).mono (by omega)) | (rw [hD]; exact (unhide b1).trans ((unhide hB).mono (by omega)))⟩
end
end Go.Proofs.Ytnclkkoefejjiaa
