/- The document's Put; changes' bytes, the program's and the document's. -/
import Derived.Test.YtnclkkoefejjiaaMap1
import Derived.Test.YtnclkkoefejjiaaRfn0
namespace Go.Proofs.Ytnclkkoefejjiaa
open Go.ChangeShapes Go.WideShapes Go.ChangeAt Go.RowKit

theorem OwnB.nil0 {base : Nat} {w : World} {sp : Option Addr} {c : Nat} {l : List Nat} (h : OwnB base w sp c l) : sp = none → c = 0 := by
  rcases h.owns.2 with ⟨hv, h0⟩ | ⟨g, cap, cur, hv, _⟩
  · simp only [Value.slice.injEq] at hv
    exact fun _ => hv.2.2
  · simp only [Value.slice.injEq] at hv
    intro e
    rw [e] at hv
    cases hv.1
section
variable {w : World} {sp : Option Addr} {c : Nat} {b : List Nat}
set_option maxHeartbeats 2000000 in
theorem radd_calls (base n0 : Nat) (x : Int) (hn0 : b.length = n0) (hown : OwnB base w sp c b) (hb : b.length ≤ 1000) (hx : 0 ≤ x ∧ x ≤ 100) (hbase : base ≤ w.heap.size) :
    Calls Try.prog 60 #[.slice sp n0 c, .int .i64 x] w fun e w' => ∃ sp' n' c', e = .returned (.slice sp' n' c') ∧ Hid ((b ++ [x.toNat]).length = n') ∧ OwnB base w' sp' c' (b ++ [x.toNat]) ∧ Below base w w' := by
  obtain ⟨k, rfl⟩ : ∃ k : Nat, x = (k : Int) := ⟨x.toNat, by omega⟩
  have hk : k ≤ 100 := by omega
  have e : numB k = [k] := numB_small (by omega)
  have E := hide e
  have H := hide hown
  have N0 := hide hn0
  have HB := hide hb
  clear hown hn0 hb e hx
  go_enter Try.func60, Try.ntmps60
  go_wp2_with fail
  refine (refNumber_yes k w (by omega)).mono ?_
  rintro e w1 ⟨xp, m, xc, rfl, hm, hx, b1⟩
  rw [unhide E] at hm hx
  have O1 := hide ((unhide H).later b1)
  have X1 := hide hx
  have B1 := hide b1
  have HM := hide (unhide hm)
  clear hx b1
  go_wp2_with (at_builtin; refine wpList_append8 rfl (.tmp 12) (.tmp 13) rfl base sp n0 c b rfl (unhide N0) (by exact unhide O1) xp m xc rfl [k] (unhide HM) (by exact (unhide X1).bytes) (unhide X1).nil0 (by have := unhide HB; have h2 := unhide HM; simp only [List.length_cons, List.length_nil] at h2; omega) (by exact Nat.le_trans hbase (unhide B1).size) ?_; intro sp' n' c' w' hn' ho' hg' hb')
  go_ret
  exact ⟨sp', n', c', rfl, by simpa using hn', by simpa using ho', ((unhide B1).mono hbase).trans hb'⟩
end
section
variable {w : World} {va : Option Addr} {vc : Nat} {v : List Int} {la : Option Addr} {lc : Nat} {l : List Int}
theorem take_map {l : List Int} {j : Nat} (b : List Nat) (hj : j < l.length) : b ++ (l.take (j + 1)).map Int.toNat = b ++ (l.take j).map Int.toNat ++ [l[j].toNat] := by
  rw [List.take_succ_eq_append_getElem hj, List.map_append, List.append_assoc]
  rfl
set_option maxRecDepth 20000 in
set_option maxHeartbeats 8000000 in
theorem rput_no (hv : IntsAt w va v) (hl : IntsAt w la l) (vn ln : Nat) (hvn : v.length = vn) (hln : l.length = ln) (hvx : vn ≤ maxLen) (hlx : ln ≤ maxLen) (hr : rightM v l = false) :
    Calls Try.prog 34 #[mV va vn vc la ln lc] w fun e w' => e = .returned (.tuple #[.slice none 0 0, .int .i64 2]) ∧ Below w.heap.size w w' := by
  have X1 := hide (heap_new w (mB va vn vc la ln lc))
  have b1 := hide (show Below w.heap.size w (w.alloc (mB va vn vc la ln lc)) from (Below.refl _ _).alloc (Nat.le_refl _) _)
  have V := hide (hv.later (unhide b1))
  have L := hide (hl.later (unhide b1))
  have VN := hide hvn
  have LN := hide hln
  have c0 := box_cell (unhide X1) 0 _ rfl
  have c1 := box_cell (unhide X1) 1 _ rfl
  clear hv hl hvn hln
  go_enter Try.func34, Try.ntmps34
  go_wp2_with fail
  generalize hD : w.heap.size = D at *
  generalize w.alloc (mB va vn vc la ln lc) = w1 at *
  refine (refRight_calls (unhide V) (unhide L) vn ln (unhide VN) (unhide LN) hvx hlx).mono ?_
  rintro e w2 ⟨rfl, b2⟩
  have B2 := hide ((unhide b1).trans (b2.mono (by have := (unhide b1).size; omega)))
  rw [hr]
  clear b2 c0 c1
  go_wp2
  go_ret2
  exact ⟨rfl, by first | exact unhide B2 | (rw [hD]; exact unhide B2)⟩
set_option maxRecDepth 20000 in
set_option maxHeartbeats 16000000 in
theorem rput_yes (hv : IntsAt w va v) (hl : IntsAt w la l) (vn ln : Nat) (hvn : v.length = vn) (hln : l.length = ln) (hvx : vn ≤ maxLen) (hlx : ln ≤ maxLen) (hr : rightM v l = true) :
    Calls Try.prog 34 #[mV va vn vc la ln lc] w fun e w' => ∃ sp n c, e = .returned (.tuple #[.slice sp n c, .int .i64 0]) ∧ Hid ((listB v ++ listB l).length = n) ∧ OwnB w.heap.size w' sp c (listB v ++ listB l) ∧ Below w.heap.size w w' := by
  have X1 := hide (heap_new w (mB va vn vc la ln lc))
  have b1 := hide (show Below w.heap.size w (w.alloc (mB va vn vc la ln lc)) from (Below.refl _ _).alloc (Nat.le_refl _) _)
  have V := hide (hv.later (unhide b1))
  have L := hide (hl.later (unhide b1))
  have VN := hide hvn
  have LN := hide hln
  have c0 := box_cell (unhide X1) 0 _ rfl
  have c1 := box_cell (unhide X1) 1 _ rfl
  obtain ⟨hr1, hr2, hv9, hl9, hv0⟩ := right_parts hr
  have INv := hide (show ∀ x ∈ v, 0 ≤ x ∧ x ≤ 9 from fun x hx => by have := rise_in v 0 (by omega) hr1 x hx; omega)
  have INl := hide (show ∀ x ∈ l, 0 ≤ x ∧ x ≤ 9 from fun x hx => by have := rise_in l 0 (by omega) hr2 x hx; omega)
  have hvn9 : vn ≤ 9 := by omega
  have hln9 : ln ≤ 9 := by omega
  clear hv hl hvn hln hr1 hr2 hv9 hl9 hv0
  go_enter Try.func34, Try.ntmps34
  go_wp2_with fail
  generalize hD : w.heap.size = D at *
  generalize w.alloc (mB va vn vc la ln lc) = w1 at *
  refine (refRight_calls (unhide V) (unhide L) vn ln (unhide VN) (unhide LN) hvx hlx).mono ?_
  rintro e w2 ⟨rfl, b2⟩
  have B2 := hide b2
  rw [hr]
  clear b2 c0 c1
  have b3 := hide (show Below w2.heap.size w2 (w2.alloc (.cells #[] 5)) from (Below.refl _ _).alloc (Nat.le_refl _) _)
  have O3 := hide (OwnB.empty w2 w2.heap.size (Nat.le_refl _))
  have F3 := hide ((unhide B2).trans ((unhide b3).mono (unhide B2).size))
  have X3 := hide (later_block (unhide F3) (unhide X1))
  have c0 := box_cell (unhide X3) 0 _ rfl
  have c1 := box_cell (unhide X3) 1 _ rfl
  go_wp2_with fail
  generalize hE : w2.heap.size = E at *
  generalize w2.alloc (.cells #[] 5) = w3 at *
  refine (radd_calls E 0 (vn : Int) rfl (unhide O3) (by simp) (by omega) (by have := (unhide b3).size; omega)).mono ?_
  rintro e w4 ⟨sp4, n4, k4, rfl, hn4, ho4, b4⟩
  rw [List.nil_append, Int.toNat_natCast] at hn4 ho4
  have O4 := hide ho4
  have G4 := hide ((unhide b3).trans b4)
  have S2 := hide (show w1.heap.size ≤ E by rw [← hE]; exact (unhide B2).size)
  have KEEP := hide (show ∀ W : World, Below E w2 W → Below w1.heap.size w1 W from fun W h => (unhide B2).trans (h.mono (by have := unhide S2; omega)))
  clear ho4 b4 c0 c1
  go_wp2_with fail
  go_loopw [4, 5] (fun s i wr => ∃ (j n c : Nat) (sp : Option Addr), j ≤ vn ∧ s = .slice sp n c ∧ i = .int .i64 (j : Int) ∧ Hid (([vn] ++ (v.take j).map Int.toNat).length = n) ∧ Hid (OwnB E wr sp c ([vn] ++ (v.take j).map Int.toNat)) ∧ Hid (Below E w2 wr)) (fun _ i _ => vn - (intOf i).toNat)
  case atStart => exact ⟨0, n4, k4, sp4, by omega, rfl, rfl, by simpa using hn4, by simpa using O4, unhide G4⟩
  case round =>
    obtain ⟨j, n, c, sp, hj, rfl, rfl, hn, ho, hB⟩ := hrel
    have FR := hide (unhide KEEP _ (unhide hB))
    have XR := hide (later_block (unhide FR) (unhide X1))
    have c0 := box_cell (unhide XR) 0 _ rfl
    have c1 := box_cell (unhide XR) 1 _ rfl
    have ER := hide (show E ≤ wr.heap.size by have := (unhide hB).size; omega)
    by_cases hjm : j < vn
    · have hjl : j < v.length := by rw [unhide VN]; exact hjm
      obtain ⟨b, off, rfl, p0⟩ := ((unhide V).later (unhide FR)).cell j hjl
      have hT := hide (take_map [vn] hjl)
      have hI := hide (unhide INv _ (List.getElem_mem hjl))
      generalize v[j] = x at *
      have hj0 : (0 : Int) ≤ (j : Int) := by omega
      have hj1 : (j : Int) < (vn : Int) := by omega
      go_wp2_with fail
      refine (radd_calls E n x (unhide hn) (unhide ho) (by simp only [List.length_append, List.length_cons, List.length_nil, List.length_map, List.length_take]; omega) (by have := unhide hI; omega) (unhide ER)).mono ?_
      rintro e w5 ⟨sp5, n5, k5, rfl, hn5, ho5, b5⟩
      rw [← unhide hT] at hn5 ho5
      have O5 := hide ho5
      have B5 := hide ((unhide hB).trans b5)
      clear ho5 b5
      go_wp2
      exact ⟨⟨j + 1, n5, k5, sp5, by omega, rfl, by go_num, hn5, unhide O5, unhide B5⟩, by simp [intOf]; omega⟩
    · obtain rfl : j = vn := by omega
      have EQ := hide (show [j] ++ (v.take j).map Int.toNat = listB v by
        rw [List.take_of_length_le (by rw [unhide VN]; exact Nat.le_refl _)]
        unfold listB
        rw [unhide VN]
        rfl)
      rw [unhide EQ] at hn ho
      have LV := hide (show (listB v).length = j + 1 by unfold listB; simp [unhide VN])
      go_wp2_with fail
      refine (radd_calls E n (ln : Int) (unhide hn) (unhide ho) (by rw [unhide LV]; omega) (by omega) (unhide ER)).mono ?_
      rintro e w5 ⟨sp5, n5, k5, rfl, hn5, ho5, b5⟩
      rw [Int.toNat_natCast] at hn5 ho5
      have O5 := hide ho5
      have G5 := hide ((unhide hB).trans b5)
      clear ho5 b5 c0 c1
      go_wp2_with fail
      go_loopw [4, 6] (fun s i wr' => ∃ (q n c : Nat) (sp : Option Addr), q ≤ ln ∧ s = .slice sp n c ∧ i = .int .i64 (q : Int) ∧ Hid (((listB v ++ [ln]) ++ (l.take q).map Int.toNat).length = n) ∧ Hid (OwnB E wr' sp c ((listB v ++ [ln]) ++ (l.take q).map Int.toNat)) ∧ Hid (Below E w2 wr')) (fun _ i _ => ln - (intOf i).toNat)
      case atStart => exact ⟨0, n5, k5, sp5, by omega, rfl, rfl, by simpa using hn5, by simpa using O5, unhide G5⟩
      case round =>
        obtain ⟨q, n, c, sp, hq, rfl, rfl, hn, ho, hB⟩ := hrel
        have FR := hide (unhide KEEP _ (unhide hB))
        have XR := hide (later_block (unhide FR) (unhide X1))
        have c0 := box_cell (unhide XR) 0 _ rfl
        have c1 := box_cell (unhide XR) 1 _ rfl
        have ER := hide (show E ≤ wr.heap.size by have := (unhide hB).size; omega)
        by_cases hqm : q < ln
        · have hql : q < l.length := by rw [unhide LN]; exact hqm
          obtain ⟨b, off, rfl, p0⟩ := ((unhide L).later (unhide FR)).cell q hql
          have hT := hide (take_map (listB v ++ [ln]) hql)
          have hI := hide (unhide INl _ (List.getElem_mem hql))
          generalize l[q] = x at *
          have hj0 : (0 : Int) ≤ (q : Int) := by omega
          have hj1 : (q : Int) < (ln : Int) := by omega
          go_wp2_with fail
          refine (radd_calls E n x (unhide hn) (unhide ho) (by have := unhide LV; simp only [List.length_append, List.length_cons, List.length_nil, List.length_map, List.length_take]; omega) (by have := unhide hI; omega) (unhide ER)).mono ?_
          rintro e w6 ⟨sp6, n6, k6, rfl, hn6, ho6, b6⟩
          rw [← unhide hT] at hn6 ho6
          have O6 := hide ho6
          have B6 := hide ((unhide hB).trans b6)
          clear ho6 b6
          go_wp2
          exact ⟨⟨q + 1, n6, k6, sp6, by omega, rfl, by go_num, hn6, unhide O6, unhide B6⟩, by simp [intOf]; omega⟩
        · obtain rfl : q = ln := by omega
          have EQ2 := hide (show (listB v ++ [q]) ++ (l.take q).map Int.toNat = listB v ++ listB l by
            rw [List.take_of_length_le (by rw [unhide LN]; exact Nat.le_refl _), List.append_assoc]
            congr 1
            unfold listB
            rw [unhide LN]
            rfl)
          rw [unhide EQ2] at hn ho
          have FF := hide ((unhide b1).trans ((unhide FR).mono (by have := (unhide b1).size; omega)))
          have SS := hide (show D ≤ E by have := unhide S2; have := (unhide b1).size; omega)
          go_wp2
          go_ret2
          exact ⟨sp, n, c, rfl, hn, (unhide ho).mono (by first | exact unhide SS | (rw [hD]; exact unhide SS)), by first | exact unhide FF | (rw [hD]; exact unhide FF)⟩
end
theorem rightChange_calls (d n : Int) (w : World) : Calls Try.prog 58 #[cV d n] w fun e w' => e = .returned (.bool (mayM d n)) ∧ Below w.heap.size w w' := by
  have X1 := hide (heap_new w (cB d n))
  have b1 := hide (show Below w.heap.size w (w.alloc (cB d n)) from (Below.refl _ _).alloc (Nat.le_refl _) _)
  have c0 := box_cell (unhide X1) 0 _ rfl
  have c1 := box_cell (unhide X1) 1 _ rfl
  by_cases h1 : 1 ≤ d
  · by_cases h2 : d ≤ 4
    · by_cases h3 : 1 ≤ n
      · by_cases h4 : n ≤ 9
        · have E := hide (show mayM d n = true by simp [mayM, h1, h2, h3, h4])
          go_enter Try.func58, Try.ntmps58
          go_wp2
          go_ret
          exact ⟨by rw [unhide E]; rfl, unhide b1⟩
        · have E := hide (show mayM d n = false by simp [mayM, h4])
          go_enter Try.func58, Try.ntmps58
          go_wp2
          go_ret
          exact ⟨by rw [unhide E]; rfl, unhide b1⟩
      · have E := hide (show mayM d n = false by simp [mayM, h3])
        go_enter Try.func58, Try.ntmps58
        go_wp2
        go_ret
        exact ⟨by rw [unhide E]; rfl, unhide b1⟩
    · have E := hide (show mayM d n = false by simp [mayM, h2])
      go_enter Try.func58, Try.ntmps58
      go_wp2
      go_ret
      exact ⟨by rw [unhide E]; rfl, unhide b1⟩
  · have E := hide (show mayM d n = false by simp [mayM, h1])
    go_enter Try.func58, Try.ntmps58
    go_wp2
    go_ret
    exact ⟨by rw [unhide E]; rfl, unhide b1⟩
end Go.Proofs.Ytnclkkoefejjiaa
