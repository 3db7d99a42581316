/- The document's Quorum, SameInts, Same. -/
import Derived.Test.YtnclkkoefejjiaaMc1
namespace Go.Proofs.Ytnclkkoefejjiaa
open Go.ChangeShapes Go.WideShapes Go.ChangeAt Go.RowKit

section
variable {w : World} {va : Option Addr} {vc : Nat} {v : List Int} {la : Option Addr} {lc : Nat} {l : List Int} {ya : Option Addr} {yc : Nat} {ys : List Int}
set_option maxRecDepth 20000 in
set_option maxHeartbeats 4000000 in
theorem refQuorum_calls (hv : IntsAt w va v) (hl : IntsAt w la l) (hy : IntsAt w ya ys) (vn ln yn : Nat) (hvn : v.length = vn) (hln : l.length = ln) (hyn : ys.length = yn) (hvx : vn ≤ maxLen) (hlx : ln ≤ maxLen) (hyx : yn ≤ maxLen) :
    Calls Try.prog 26 #[mV va vn vc la ln lc, .slice ya yn yc] w fun e w' => e = .returned (.bool (quorumM v l ys)) ∧ Below w.heap.size w w' := by
  have X1 := hide (heap_new w (mB va vn vc la ln lc))
  have b1 := hide (show Below w.heap.size w (w.alloc (mB va vn vc la ln lc)) from (Below.refl _ _).alloc (Nat.le_refl _) _)
  have V := hide (hv.later (unhide b1))
  have L := hide (hl.later (unhide b1))
  have Y := hide (hy.later (unhide b1))
  have VN := hide hvn
  have LN := hide hln
  have YN := hide hyn
  have c0 := box_cell (unhide X1) 0 _ rfl
  have c1 := box_cell (unhide X1) 1 _ rfl
  have hvx' := hvx
  simp only [maxLen] at hvx'
  clear hv hl hy hvn hln hyn
  go_enter Try.func26, Try.ntmps26
  go_wp2_with fail
  generalize hD : w.heap.size = D at *
  generalize w.alloc (mB va vn vc la ln lc) = w1 at *
  go_loopw [5, 6] (fun s i wr => ∃ (j q : Nat), j ≤ vn ∧ q ≤ j ∧ s = .int .i64 (q : Int) ∧ i = .int .i64 (j : Int) ∧ Hid (((v.take j).filter fun x => decide (x ∈ ys)).length = q) ∧ Hid (wr = w1)) (fun _ i _ => vn - (intOf i).toNat)
  case atStart => exact ⟨0, 0, by omega, by omega, rfl, rfl, by simp [Hid], rfl⟩
  case round =>
    obtain ⟨j, q, hj, hqj, rfl, rfl, hr, hw⟩ := hrel
    have hw' := unhide hw
    subst hw'
    by_cases hjm : j < vn
    · have hjl : j < v.length := by rw [unhide VN]; exact hjm
      obtain ⟨b, off, rfl, p0⟩ := (unhide V).cell j hjl
      have hj0 : (0 : Int) ≤ (j : Int) := by omega
      have hj1 : (j : Int) < (vn : Int) := by omega
      have hT := hide (List.take_succ_eq_append_getElem hjl)
      generalize v[j] = x at *
      go_wp2_with fail
      refine (in_calls (unhide Y) x yn (unhide YN) hyx).mono ?_
      rintro e w2 ⟨rfl, rfl⟩
      by_cases h5 : x ∈ ys
      · have e5 : decide (x ∈ ys) = true := by simp [h5]
        have R := hide (show ((v.take (j + 1)).filter fun x => decide (x ∈ ys)).length = q + 1 by rw [unhide hT, List.filter_append, List.length_append, unhide hr]; simp [h5])
        rw [e5]
        clear e5 h5
        go_wp2
        exact ⟨⟨j + 1, q + 1, by omega, by omega, by go_num, by go_num, unhide R, by first | exact rfl | exact hide trivial⟩, by simp [intOf]; omega⟩
      · have e5 : decide (x ∈ ys) = false := by simp [h5]
        have R := hide (show ((v.take (j + 1)).filter fun x => decide (x ∈ ys)).length = q by rw [unhide hT, List.filter_append, List.length_append, unhide hr]; simp [h5])
        rw [e5]
        clear e5 h5
        go_wp2
        exact ⟨⟨j + 1, q, by omega, by omega, rfl, by go_num, unhide R, by first | exact rfl | exact hide trivial⟩, by simp [intOf]; omega⟩
    · obtain rfl : j = vn := by omega
      have R := hide (show (v.filter fun x => decide (x ∈ ys)).length = q by have := unhide hr; rwa [List.take_of_length_le (by rw [unhide VN]; exact Nat.le_refl _)] at this)
      go_wp2_with fail
      refine (refRight_calls (unhide V) (unhide L) j ln (unhide VN) (unhide LN) hvx hlx).mono ?_
      rintro e w2 ⟨rfl, b2⟩
      have X2 := hide (later_block b2 (unhide X1))
      have B2 := hide ((unhide b1).trans (b2.mono (by have := (unhide b1).size; omega)))
      clear b2 c0 c1
      have c0 := box_cell (unhide X2) 0 _ rfl
      have c1 := box_cell (unhide X2) 1 _ rfl
      cases hrm : rightM v l
      · go_wp2
        go_ret
        exact ⟨by simp [quorumM, hrm], by first | exact unhide B2 | (rw [hD]; exact unhide B2)⟩
      · have h9 := (right_parts hrm).2.2.1
        have hj9 : j ≤ 9 := by rw [← unhide VN]; exact h9
        have E := hide (show quorumM v l ys = decide ((j : Int) < 2 * (q : Int)) by
          simp only [quorumM, hrm, Bool.true_and]
          rw [unhide R, unhide VN, decide_eq_decide]
          omega)
        go_wp2
        go_ret
        exact ⟨by rw [unhide E]; rfl, by first | exact unhide B2 | (rw [hD]; exact unhide B2)⟩
set_option maxHeartbeats 4000000 in
theorem sameInts_calls (ha : IntsAt w va v) (hb : IntsAt w la l) (vn ln : Nat) (hvn : v.length = vn) (hln : l.length = ln) (hvx : vn ≤ maxLen) (hlx : ln ≤ maxLen) :
    Calls Try.prog 21 #[.slice va vn vc, .slice la ln lc] w fun e w' => e = .returned (.bool (decide (v = l))) ∧ Below w.heap.size w w' := by
  have VN := hide hvn
  have LN := hide hln
  have V := hide ha
  have L := hide hb
  have hvx' := hvx
  have hlx' := hlx
  simp only [maxLen] at hvx' hlx'
  clear hvn hln ha hb
  by_cases hne : vn = ln
  · subst hne
    go_enter Try.func21, Try.ntmps21
    go_wp2_with fail
    go_loopw [5] (fun i wr => ∃ (j : Nat), j ≤ vn ∧ i = .int .i64 (j : Int) ∧ Hid (v.take j = l.take j) ∧ Hid (Below w.heap.size w wr)) (fun i _ => vn - (intOf i).toNat)
    case atStart => exact ⟨0, by omega, rfl, by simp [Hid], Below.refl _ _⟩
    case round =>
      obtain ⟨j, hj, rfl, hr, F⟩ := hrel
      by_cases hjm : j < vn
      · have hjv : j < v.length := by rw [unhide VN]; exact hjm
        have hjl : j < l.length := by rw [unhide LN]; exact hjm
        obtain ⟨b, off, rfl, p0⟩ := ((unhide V).later (unhide F)).cell j hjv
        obtain ⟨b', off', rfl, p1⟩ := ((unhide L).later (unhide F)).cell j hjl
        have hj0 : (0 : Int) ≤ (j : Int) := by omega
        have hj1 : (j : Int) < (vn : Int) := by omega
        have hT := hide (List.take_succ_eq_append_getElem hjv)
        have hU := hide (List.take_succ_eq_append_getElem hjl)
        have hN := hide (show v[j] ≠ l[j] → v ≠ l from fun h e => h (by subst e; rfl))
        generalize v[j] = x at *
        generalize l[j] = y at *
        go_wp2_with fail
        go_region_held3 (fun w' => w'.cell? ⟨b, off + j, none⟩ = some (.int .i64 x) ∧ w'.cell? ⟨b', off' + j, none⟩ = some (.int .i64 y)) (first | go_keep | exact ⟨p0, p1⟩) (fail)
        have F2 := hide (unhide F).drew
        by_cases hxy : x = y
        · subst hxy
          have R := hide (show v.take (j + 1) = l.take (j + 1) by rw [unhide hT, unhide hU, unhide hr])
          go_wp2
          exact ⟨⟨j + 1, by omega, by go_num, unhide R, unhide F2⟩, by simp [intOf]; omega⟩
        · have R := hide (unhide hN hxy)
          go_wp2
          go_ret
          exact ⟨by simp [unhide R], unhide F2⟩
      · obtain rfl : j = vn := by omega
        have R := hide (show v = l by have := unhide hr; rwa [List.take_of_length_le (by rw [unhide VN]; exact Nat.le_refl _), List.take_of_length_le (by rw [unhide LN]; exact Nat.le_refl _)] at this)
        go_wp2
        go_ret
        exact ⟨by simp [unhide R], unhide F⟩
  · have hne' : ¬ ((vn : Int) = (ln : Int)) := by omega
    have R := hide (show v ≠ l from fun e => hne (by rw [← unhide VN, ← unhide LN, e]))
    go_enter Try.func21, Try.ntmps21
    go_wp2
    go_ret
    exact ⟨by simp [unhide R], Below.refl _ _⟩
end
section
variable {w : World} {va : Option Addr} {vc : Nat} {v : List Int} {la : Option Addr} {lc : Nat} {l : List Int} {va' : Option Addr} {vc' : Nat} {v' : List Int} {la' : Option Addr} {lc' : Nat} {l' : List Int}
set_option maxRecDepth 20000 in
set_option maxHeartbeats 4000000 in
theorem same_calls (hv : IntsAt w va v) (hl : IntsAt w la l) (hv' : IntsAt w va' v') (hl' : IntsAt w la' l') (vn ln vn' ln' : Nat) (hvn : v.length = vn) (hln : l.length = ln) (hvn' : v'.length = vn') (hln' : l'.length = ln') (hvx : vn ≤ maxLen) (hlx : ln ≤ maxLen) (hvx' : vn' ≤ maxLen) (hlx' : ln' ≤ maxLen) :
    Calls Try.prog 27 #[mV va vn vc la ln lc, mV va' vn' vc' la' ln' lc'] w fun e w' => e = .returned (.bool (decide (v = v') && decide (l = l'))) ∧ Below w.heap.size w w' := by
  have b1 := hide (show Below w.heap.size w ((w.alloc (mB va vn vc la ln lc)).alloc (mB va' vn' vc' la' ln' lc')) from ((Below.refl _ _).alloc (Nat.le_refl _) _).alloc (by simp) _)
  have X1 := hide (heap_old (mB va' vn' vc' la' ln' lc') (heap_new w (mB va vn vc la ln lc)))
  have X2 := hide (show ((w.alloc (mB va vn vc la ln lc)).alloc (mB va' vn' vc' la' ln' lc')).heap[w.heap.size + 1]? = some (mB va' vn' vc' la' ln' lc') by
    have := heap_new (w.alloc (mB va vn vc la ln lc)) (mB va' vn' vc' la' ln' lc')
    rwa [World.size_alloc] at this)
  have V := hide (hv.later (unhide b1))
  have L := hide (hl.later (unhide b1))
  have V' := hide (hv'.later (unhide b1))
  have L' := hide (hl'.later (unhide b1))
  have VN := hide hvn
  have LN := hide hln
  have VN' := hide hvn'
  have LN' := hide hln'
  have c0 := box_cell (unhide X1) 0 _ rfl
  have c1 := box_cell (unhide X1) 1 _ rfl
  have d0 := box_cell (unhide X2) 0 _ rfl
  have d1 := box_cell (unhide X2) 1 _ rfl
  clear hv hl hv' hl' hvn hln hvn' hln'
  go_enter Try.func27, Try.ntmps27
  go_wp2_with fail
  generalize hD : w.heap.size = D at *
  generalize (w.alloc (mB va vn vc la ln lc)).alloc (mB va' vn' vc' la' ln' lc') = w1 at *
  refine (sameInts_calls (unhide V) (unhide V') vn vn' (unhide VN) (unhide VN') hvx hvx').mono ?_
  rintro e w2 ⟨rfl, b2⟩
  have X3 := hide (later_block b2 (unhide X1))
  have X4 := hide (later_block b2 (unhide X2))
  have L2 := hide ((unhide L).later b2)
  have L2' := hide ((unhide L').later b2)
  have B2 := hide ((unhide b1).trans (b2.mono (by have := (unhide b1).size; omega)))
  clear b2 c0 c1 d0 d1
  have c1 := box_cell (unhide X3) 1 _ rfl
  have d1 := box_cell (unhide X4) 1 _ rfl
  by_cases hvv : v = v'
  · have e1 : decide (v = v') = true := by simp [hvv]
    have HV := hide hvv
    rw [e1]
    clear e1 hvv
    go_wp2_with fail
    refine (sameInts_calls (unhide L2) (unhide L2') ln ln' (unhide LN) (unhide LN') hlx hlx').mono ?_
    rintro e w3 ⟨rfl, b3⟩
    have B3 := hide ((unhide B2).trans (b3.mono (by have := (unhide B2).size; omega)))
    clear b3
    go_wp2
    go_ret
    exact ⟨by simp [unhide HV], by first | exact unhide B3 | (rw [hD]; exact unhide B3)⟩
  · have e1 : decide (v = v') = false := by simp [hvv]
    have HV := hide hvv
    rw [e1]
    clear e1 hvv
    go_wp2
    go_ret
    exact ⟨by simp [unhide HV], by first | exact unhide B2 | (rw [hD]; exact unhide B2)⟩
end
end Go.Proofs.Ytnclkkoefejjiaa
