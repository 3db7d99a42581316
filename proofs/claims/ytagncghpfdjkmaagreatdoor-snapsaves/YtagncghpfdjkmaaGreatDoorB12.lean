/- The contracts of the document's answers of layer 2: Number. -/
import Derived.Test.YtagncghpfdjkmaaGreatDoorB10
import Derived.Test.YtagncghpfdjkmaaGreatDoorB11
import Derived.Laws.Pointers
section
namespace Go.Proofs.YtagncghpfdjkmaaGreatDoor
open Go.ChangeShapes Go.WideShapes Go.ChangeAt Go.RowKit

set_option maxRecDepth 20000 in
set_option maxHeartbeats 1000000 in
theorem refNumber_yes (n : Nat) (w : World) (hn : n ≤ 1099511627776) :
    Calls Tryz.prog 102 #[.int .i64 (n : Int)] w fun e w' => ∃ sp n' c', e = .returned (.tuple #[.slice sp n' c', .int .i64 0]) ∧ Hid ((numB n).length = n') ∧ OwnB w.heap.size w' sp c' (numB n) ∧ Below w.heap.size w w' := by
  have HLen := hide (show (numB n).length ≤ 2199023255553 by have := (numB_length n).2; omega)
  have o1 := hide (OwnB.empty w w.heap.size (Nat.le_refl _))
  have b1 := hide (show Below w.heap.size w (w.alloc (.cells #[] 5)) from (Below.refl _ _).alloc (Nat.le_refl _) _)
  go_enter Tryz.func102, Tryz.ntmps102
  go_wp2
  go_loopw [0, 4] (fun i v wr => ∃ (sp' : Option Addr) (n' c' : Nat) (l' : List Nat) (m : Nat), m ≤ 1099511627776 ∧ v = .slice sp' n' c' ∧ i = .int .i64 (m : Int) ∧ Hid (l'.length = n') ∧ Hid (OwnB w.heap.size wr sp' c' l') ∧ Hid (l' ++ numB m = numB n) ∧ Hid (Below w.heap.size w wr)) (fun i _ _ => (intOf i).toNat)
  case atStart => exact ⟨_, 0, 0, [], n, hn, rfl, rfl, rfl, unhide o1, by simp [Hid], unhide b1⟩
  case round =>
    obtain ⟨sp', n', c', l', m, hm, rfl, rfl, hl', ho', heq, hbw⟩ := hrel
    have hlen' := hide (show l'.length + 1 ≤ 140737488355328 by
      have h1 := unhide HLen
      rw [← unhide heq, List.length_append] at h1
      have := (numB_length m).1
      omega)
    have hbr := hide (show w.heap.size ≤ wr.heap.size from (unhide hbw).size)
    by_cases h128 : m < 128
    · have hlit := hide (bytesAt_block (l := [m]) (heap_new wr (.cells #[.int .u8 (m : Int)] 5)) (by intro c hc; simp only [List.mem_cons, List.not_mem_nil, or_false] at hc; omega))
      have bA := hide (show Below wr.heap.size wr (wr.alloc (.cells #[.int .u8 (m : Int)] 5)) from (Below.refl _ _).alloc (Nat.le_refl _) _)
      have heq' := hide (show l' ++ [m] = numB n by rw [← unhide heq, numB_small h128])
      have hmod : (m : Int) % 128 = (m : Int) := by omega
      have hdiv : (m : Int) / 128 = 0 := by omega
      go_wp2_with (at_builtin; refine wpList_append8 rfl (.tmp 19) (.tmp 22) rfl w.heap.size sp' n' c' l' rfl (unhide hl') (by exact (unhide ho').later (unhide bA)) (some ⟨wr.heap.size, 0, none⟩) 1 1 rfl [m] rfl (by exact unhide hlit) (fun h => by cases h) (unhide hlen') (by exact Nat.le_trans (unhide hbr) (unhide bA).size) ?_; intro sp2 n2 c2 W2 hn2 ho2 hg2 hb2)
      rw [unhide heq'] at hn2 ho2
      go_ret2
      exact ⟨sp2, n2, c2, rfl, hn2, ho2, ((unhide hbw).trans ((unhide bA).mono (unhide hbr))).trans hb2⟩
    · obtain ⟨q, hq⟩ : ∃ q, q = m % 128 + 128 := ⟨_, rfl⟩
      obtain ⟨d, hd⟩ : ∃ d, d = m / 128 := ⟨_, rfl⟩
      have hlit := hide (bytesAt_block (l := [q]) (heap_new wr (.cells #[.int .u8 (q : Int)] 5)) (by intro c hc; simp only [List.mem_cons, List.not_mem_nil, or_false] at hc; omega))
      have bA := hide (show Below wr.heap.size wr (wr.alloc (.cells #[.int .u8 (q : Int)] 5)) from (Below.refl _ _).alloc (Nat.le_refl _) _)
      have heq' := hide (show l' ++ [q] ++ numB d = numB n by rw [← unhide heq, numB_great h128, hq, hd, List.append_assoc]; rfl)
      have hmod : (m : Int) % 128 + 128 = (q : Int) := by omega
      have hdiv : (m : Int) / 128 = (d : Int) := by omega
      have hd0 : ¬ (d : Int) = 0 := by omega
      have hq256 : (q : Int) < 256 := by omega
      have HD := hide hd
      have HQ := hide hq
      clear hd hq
      go_wp2_with (at_builtin; refine wpList_append8 rfl (.tmp 24) (.tmp 28) rfl w.heap.size sp' n' c' l' rfl (unhide hl') (by exact (unhide ho').later (unhide bA)) (some ⟨wr.heap.size, 0, none⟩) 1 1 rfl [q] rfl (by exact unhide hlit) (fun h => by cases h) (unhide hlen') (by exact Nat.le_trans (unhide hbr) (unhide bA).size) ?_; intro sp2 n2 c2 W2 hn2 ho2 hg2 hb2)
      have hbn := ((unhide hbw).trans ((unhide bA).mono (unhide hbr))).trans hb2
      exact ⟨⟨sp2, n2, c2, l' ++ [q], d, by have := unhide HD; omega, rfl, rfl, hn2, ho2, unhide heq', hbn⟩, by have := unhide HD; simp [intOf]; omega⟩
end Go.Proofs.YtagncghpfdjkmaaGreatDoor
end
/- The document's Put; changes' bytes, the program's and the document's. -/
section
namespace Go.Proofs.YtagncghpfdjkmaaGreatDoor
open Go.ChangeShapes Go.WideShapes Go.ChangeAt Go.RowKit

theorem OwnB.nil0 {base : Nat} {w : World} {sp : Option Addr} {c : Nat} {l : List Nat} (h : OwnB base w sp c l) : sp = none → c = 0 := by
  rcases h.owns.2 with ⟨hv, h0⟩ | ⟨g, cap, cur, hv, _⟩
  · simp only [Value.slice.injEq] at hv
    exact fun _ => hv.2.2
  · simp only [Value.slice.injEq] at hv
    intro e
    rw [e] at hv
    cases hv.1
section
variable {w : World} {sp : Option Addr} {c : Nat} {b : List Nat}
set_option maxHeartbeats 2000000 in
theorem radd_calls (base n0 : Nat) (x : Int) (hn0 : b.length = n0) (hown : OwnB base w sp c b) (hb : b.length ≤ 1000) (hx : 0 ≤ x ∧ x ≤ 100) (hbase : base ≤ w.heap.size) :
    Calls Tryz.prog 101 #[.slice sp n0 c, .int .i64 x] w fun e w' => ∃ sp' n' c', e = .returned (.slice sp' n' c') ∧ Hid ((b ++ [x.toNat]).length = n') ∧ OwnB base w' sp' c' (b ++ [x.toNat]) ∧ Below base w w' := by
  obtain ⟨k, rfl⟩ : ∃ k : Nat, x = (k : Int) := ⟨x.toNat, by omega⟩
  have hk : k ≤ 100 := by omega
  have e : numB k = [k] := numB_small (by omega)
  have E := hide e
  have H := hide hown
  have N0 := hide hn0
  have HB := hide hb
  clear hown hn0 hb e hx
  go_enter Tryz.func101, Tryz.ntmps101
  go_wp2_with fail
  refine (refNumber_yes k w (by omega)).mono ?_
  rintro e w1 ⟨xp, m, xc, rfl, hm, hx, b1⟩
  rw [unhide E] at hm hx
  have O1 := hide ((unhide H).later b1)
  have X1 := hide hx
  have B1 := hide b1
  have HM := hide (unhide hm)
  clear hx b1
  go_wp2_with (at_builtin; refine wpList_append8 rfl (.tmp 12) (.tmp 13) rfl base sp n0 c b rfl (unhide N0) (by exact unhide O1) xp m xc rfl [k] (unhide HM) (by exact (unhide X1).bytes) (unhide X1).nil0 (by have := unhide HB; have h2 := unhide HM; simp only [List.length_cons, List.length_nil] at h2; omega) (by exact Nat.le_trans hbase (unhide B1).size) ?_; intro sp' n' c' w' hn' ho' hg' hb')
  go_ret
  exact ⟨sp', n', c', rfl, by simpa using hn', by simpa using ho', ((unhide B1).mono hbase).trans hb'⟩
end
section
variable {w : World} {va : Option Addr} {vc : Nat} {v : List Int} {la : Option Addr} {lc : Nat} {l : List Int}
theorem take_map {l : List Int} {j : Nat} (b : List Nat) (hj : j < l.length) : b ++ (l.take (j + 1)).map Int.toNat = b ++ (l.take j).map Int.toNat ++ [l[j].toNat] := by
  rw [List.take_succ_eq_append_getElem hj, List.map_append, List.append_assoc]
  rfl
set_option maxRecDepth 20000 in
set_option maxHeartbeats 8000000 in
theorem rput_no (hv : IntsAt w va v) (hl : IntsAt w la l) (vn ln : Nat) (hvn : v.length = vn) (hln : l.length = ln) (hvx : vn ≤ maxLen) (hlx : ln ≤ maxLen) (hr : rightM v l = false) :
    Calls Tryz.prog 55 #[mV va vn vc la ln lc] w fun e w' => e = .returned (.tuple #[.slice none 0 0, .int .i64 2]) ∧ Below w.heap.size w w' := by
  have X1 := hide (heap_new w (mB va vn vc la ln lc))
  have b1 := hide (show Below w.heap.size w (w.alloc (mB va vn vc la ln lc)) from (Below.refl _ _).alloc (Nat.le_refl _) _)
  have V := hide (hv.later (unhide b1))
  have L := hide (hl.later (unhide b1))
  have VN := hide hvn
  have LN := hide hln
  have c0 := box_cell (unhide X1) 0 _ rfl
  have c1 := box_cell (unhide X1) 1 _ rfl
  clear hv hl hvn hln
  go_enter Tryz.func55, Tryz.ntmps55
  go_wp2_with fail
  generalize hD : w.heap.size = D at *
  generalize w.alloc (mB va vn vc la ln lc) = w1 at *
  refine (refRight_calls (unhide V) (unhide L) vn ln (unhide VN) (unhide LN) hvx hlx).mono ?_
  rintro e w2 ⟨rfl, b2⟩
  have B2 := hide ((unhide b1).trans (b2.mono (by have := (unhide b1).size; omega)))
  rw [hr]
  clear b2 c0 c1
  go_wp2
  go_ret2
  exact ⟨rfl, by first | exact unhide B2 | (rw [hD]; exact unhide B2)⟩
set_option maxRecDepth 20000 in
set_option maxHeartbeats 16000000 in
theorem rput_yes (hv : IntsAt w va v) (hl : IntsAt w la l) (vn ln : Nat) (hvn : v.length = vn) (hln : l.length = ln) (hvx : vn ≤ maxLen) (hlx : ln ≤ maxLen) (hr : rightM v l = true) :
    Calls Tryz.prog 55 #[mV va vn vc la ln lc] w fun e w' => ∃ sp n c, e = .returned (.tuple #[.slice sp n c, .int .i64 0]) ∧ Hid ((listB v ++ listB l).length = n) ∧ OwnB w.heap.size w' sp c (listB v ++ listB l) ∧ Below w.heap.size w w' := by
  have X1 := hide (heap_new w (mB va vn vc la ln lc))
  have b1 := hide (show Below w.heap.size w (w.alloc (mB va vn vc la ln lc)) from (Below.refl _ _).alloc (Nat.le_refl _) _)
  have V := hide (hv.later (unhide b1))
  have L := hide (hl.later (unhide b1))
  have VN := hide hvn
  have LN := hide hln
  have c0 := box_cell (unhide X1) 0 _ rfl
  have c1 := box_cell (unhide X1) 1 _ rfl
  obtain ⟨hr1, hr2, hv9, hl9, hv0⟩ := right_parts hr
  have INv := hide (show ∀ x ∈ v, 0 ≤ x ∧ x ≤ 9 from fun x hx => by have := rise_in v 0 (by omega) hr1 x hx; omega)
  have INl := hide (show ∀ x ∈ l, 0 ≤ x ∧ x ≤ 9 from fun x hx => by have := rise_in l 0 (by omega) hr2 x hx; omega)
  have hvn9 : vn ≤ 9 := by omega
  have hln9 : ln ≤ 9 := by omega
  clear hv hl hvn hln hr1 hr2 hv9 hl9 hv0
  go_enter Tryz.func55, Tryz.ntmps55
  go_wp2_with fail
  generalize hD : w.heap.size = D at *
  generalize w.alloc (mB va vn vc la ln lc) = w1 at *
  refine (refRight_calls (unhide V) (unhide L) vn ln (unhide VN) (unhide LN) hvx hlx).mono ?_
  rintro e w2 ⟨rfl, b2⟩
  have B2 := hide b2
  rw [hr]
  clear b2 c0 c1
  have b3 := hide (show Below w2.heap.size w2 (w2.alloc (.cells #[] 5)) from (Below.refl _ _).alloc (Nat.le_refl _) _)
  have O3 := hide (OwnB.empty w2 w2.heap.size (Nat.le_refl _))
  have F3 := hide ((unhide B2).trans ((unhide b3).mono (unhide B2).size))
  have X3 := hide (later_block (unhide F3) (unhide X1))
  have c0 := box_cell (unhide X3) 0 _ rfl
  have c1 := box_cell (unhide X3) 1 _ rfl
  go_wp2_with fail
  generalize hE : w2.heap.size = E at *
  generalize w2.alloc (.cells #[] 5) = w3 at *
  refine (radd_calls E 0 (vn : Int) rfl (unhide O3) (by simp) (by omega) (by have := (unhide b3).size; omega)).mono ?_
  rintro e w4 ⟨sp4, n4, k4, rfl, hn4, ho4, b4⟩
  rw [List.nil_append, Int.toNat_natCast] at hn4 ho4
  have O4 := hide ho4
  have G4 := hide ((unhide b3).trans b4)
  have S2 := hide (show w1.heap.size ≤ E by rw [← hE]; exact (unhide B2).size)
  have KEEP := hide (show ∀ W : World, Below E w2 W → Below w1.heap.size w1 W from fun W h => (unhide B2).trans (h.mono (by have := unhide S2; omega)))
  clear ho4 b4 c0 c1
  go_wp2_with fail
  go_loopw [4, 5] (fun s i wr => ∃ (j n c : Nat) (sp : Option Addr), j ≤ vn ∧ s = .slice sp n c ∧ i = .int .i64 (j : Int) ∧ Hid (([vn] ++ (v.take j).map Int.toNat).length = n) ∧ Hid (OwnB E wr sp c ([vn] ++ (v.take j).map Int.toNat)) ∧ Hid (Below E w2 wr)) (fun _ i _ => vn - (intOf i).toNat)
  case atStart => exact ⟨0, n4, k4, sp4, by omega, rfl, rfl, by simpa using hn4, by simpa using O4, unhide G4⟩
  case round =>
    obtain ⟨j, n, c, sp, hj, rfl, rfl, hn, ho, hB⟩ := hrel
    have FR := hide (unhide KEEP _ (unhide hB))
    have XR := hide (later_block (unhide FR) (unhide X1))
    have c0 := box_cell (unhide XR) 0 _ rfl
    have c1 := box_cell (unhide XR) 1 _ rfl
    have ER := hide (show E ≤ wr.heap.size by have := (unhide hB).size; omega)
    by_cases hjm : j < vn
    · have hjl : j < v.length := by rw [unhide VN]; exact hjm
      obtain ⟨b, off, rfl, p0⟩ := ((unhide V).later (unhide FR)).cell j hjl
      have hT := hide (take_map [vn] hjl)
      have hI := hide (unhide INv _ (List.getElem_mem hjl))
      generalize v[j] = x at *
      have hj0 : (0 : Int) ≤ (j : Int) := by omega
      have hj1 : (j : Int) < (vn : Int) := by omega
      go_wp2_with fail
      refine (radd_calls E n x (unhide hn) (unhide ho) (by simp only [List.length_append, List.length_cons, List.length_nil, List.length_map, List.length_take]; omega) (by have := unhide hI; omega) (unhide ER)).mono ?_
      rintro e w5 ⟨sp5, n5, k5, rfl, hn5, ho5, b5⟩
      rw [← unhide hT] at hn5 ho5
      have O5 := hide ho5
      have B5 := hide ((unhide hB).trans b5)
      clear ho5 b5
      go_wp2
      exact ⟨⟨j + 1, n5, k5, sp5, by omega, rfl, by go_num, hn5, unhide O5, unhide B5⟩, by simp [intOf]; omega⟩
    · obtain rfl : j = vn := by omega
      have EQ := hide (show [j] ++ (v.take j).map Int.toNat = listB v by
        rw [List.take_of_length_le (by rw [unhide VN]; exact Nat.le_refl _)]
        unfold listB
        rw [unhide VN]
        rfl)
      rw [unhide EQ] at hn ho
      have LV := hide (show (listB v).length = j + 1 by unfold listB; simp [unhide VN])
      go_wp2_with fail
      refine (radd_calls E n (ln : Int) (unhide hn) (unhide ho) (by rw [unhide LV]; omega) (by omega) (unhide ER)).mono ?_
      rintro e w5 ⟨sp5, n5, k5, rfl, hn5, ho5, b5⟩
      rw [Int.toNat_natCast] at hn5 ho5
      have O5 := hide ho5
      have G5 := hide ((unhide hB).trans b5)
      clear ho5 b5 c0 c1
      go_wp2_with fail
      go_loopw [4, 6] (fun s i wr' => ∃ (q n c : Nat) (sp : Option Addr), q ≤ ln ∧ s = .slice sp n c ∧ i = .int .i64 (q : Int) ∧ Hid (((listB v ++ [ln]) ++ (l.take q).map Int.toNat).length = n) ∧ Hid (OwnB E wr' sp c ((listB v ++ [ln]) ++ (l.take q).map Int.toNat)) ∧ Hid (Below E w2 wr')) (fun _ i _ => ln - (intOf i).toNat)
      case atStart => exact ⟨0, n5, k5, sp5, by omega, rfl, rfl, by simpa using hn5, by simpa using O5, unhide G5⟩
      case round =>
        obtain ⟨q, n, c, sp, hq, rfl, rfl, hn, ho, hB⟩ := hrel
        have FR := hide (unhide KEEP _ (unhide hB))
        have XR := hide (later_block (unhide FR) (unhide X1))
        have c0 := box_cell (unhide XR) 0 _ rfl
        have c1 := box_cell (unhide XR) 1 _ rfl
        have ER := hide (show E ≤ wr.heap.size by have := (unhide hB).size; omega)
        by_cases hqm : q < ln
        · have hql : q < l.length := by rw [unhide LN]; exact hqm
          obtain ⟨b, off, rfl, p0⟩ := ((unhide L).later (unhide FR)).cell q hql
          have hT := hide (take_map (listB v ++ [ln]) hql)
          have hI := hide (unhide INl _ (List.getElem_mem hql))
          generalize l[q] = x at *
          have hj0 : (0 : Int) ≤ (q : Int) := by omega
          have hj1 : (q : Int) < (ln : Int) := by omega
          go_wp2_with fail
          refine (radd_calls E n x (unhide hn) (unhide ho) (by have := unhide LV; simp only [List.length_append, List.length_cons, List.length_nil, List.length_map, List.length_take]; omega) (by have := unhide hI; omega) (unhide ER)).mono ?_
          rintro e w6 ⟨sp6, n6, k6, rfl, hn6, ho6, b6⟩
          rw [← unhide hT] at hn6 ho6
          have O6 := hide ho6
          have B6 := hide ((unhide hB).trans b6)
          clear ho6 b6
          go_wp2
          exact ⟨⟨q + 1, n6, k6, sp6, by omega, rfl, by go_num, hn6, unhide O6, unhide B6⟩, by simp [intOf]; omega⟩
        · obtain rfl : q = ln := by omega
          have EQ2 := hide (show (listB v ++ [q]) ++ (l.take q).map Int.toNat = listB v ++ listB l by
            rw [List.take_of_length_le (by rw [unhide LN]; exact Nat.le_refl _), List.append_assoc]
            congr 1
            unfold listB
            rw [unhide LN]
            rfl)
          rw [unhide EQ2] at hn ho
          have FF := hide ((unhide b1).trans ((unhide FR).mono (by have := (unhide b1).size; omega)))
          have SS := hide (show D ≤ E by have := unhide S2; have := (unhide b1).size; omega)
          go_wp2
          go_ret2
          exact ⟨sp, n, c, rfl, hn, (unhide ho).mono (by first | exact unhide SS | (rw [hD]; exact unhide SS)), by first | exact unhide FF | (rw [hD]; exact unhide FF)⟩
end
end Go.Proofs.YtagncghpfdjkmaaGreatDoor
end
/- Changes' bytes: PutChange, the program's and the document's. -/
section
namespace Go.Proofs.YtagncghpfdjkmaaGreatDoor
open Go.ChangeShapes Go.WideShapes Go.ChangeAt Go.RowKit

theorem step_build8 {w : World} {ops : Array Oper} {o : Oper} {a : Act} {K : Act → World → Prop} {Q : Exit → Act → World → Prop} {E : Prop} (hgd : o.guard = none)
    (ho : o.op = .buildSlice 27 0 #[]) (base : Nat) (hbase : base ≤ w.heap.size)
    (h : ∀ sp w', OwnB base w' sp 0 [] → Below w.heap.size w w' → K (a.put o.dst (.slice sp 0 0)) w') :
    if Region.wanted o (yielded ops a.tmps) = true then Oper.wp Tryz.prog o a w K Q else E := by
  have hw : Region.wanted o (yielded ops a.tmps) = true := by simp [Region.wanted, hgd]
  rw [if_pos hw]
  have h1 := h (some ⟨w.heap.size, 0, none⟩) (w.alloc (.cells #[] 5)) (OwnB.empty w base hbase) ((Below.refl _ _).alloc (Nat.le_refl _) _)
  unfold Oper.wp
  simp [execOp, ho, go_sem]
  exact h1
/-- Bytes that are told: those of what may be, and none else. -/
def putB (v l : List Int) : List Nat := if rightM v l then listB v ++ listB l else []
def putE (v l : List Int) : Int := if rightM v l then 0 else 2
section
variable {w : World} {va : Option Addr} {vc : Nat} {v : List Int} {la : Option Addr} {lc : Nat} {l : List Int}
theorem mput_calls (hv : IntsAt w va v) (hl : IntsAt w la l) (vn ln : Nat) (hvn : v.length = vn) (hln : l.length = ln) (hvx : vn ≤ maxLen) (hlx : ln ≤ maxLen) :
    Calls Tryz.prog 51 #[mV va vn vc la ln lc] w fun e w' => ∃ sp n c, e = .returned (.tuple #[.slice sp n c, .int .i64 (putE v l)]) ∧ Hid ((putB v l).length = n) ∧ OwnB w.heap.size w' sp c (putB v l) ∧ Below w.heap.size w w' := by
  cases hr : rightM v l
  · have e1 : putB v l = [] := by rw [putB, hr]; rfl
    have e2 : putE v l = 2 := by rw [putE, hr]; rfl
    rw [e1, e2]
    exact (mput_no hv hl vn ln hvn hln hvx hlx hr).mono fun e w' ⟨he, hb⟩ => ⟨none, 0, 0, he, rfl, OwnB.ofNil _ _, hb⟩
  · have e1 : putB v l = listB v ++ listB l := by rw [putB, hr]; rfl
    have e2 : putE v l = 0 := by rw [putE, hr]; rfl
    rw [e1, e2]
    exact mput_yes hv hl vn ln hvn hln hvx hlx hr
theorem rputM_calls (hv : IntsAt w va v) (hl : IntsAt w la l) (vn ln : Nat) (hvn : v.length = vn) (hln : l.length = ln) (hvx : vn ≤ maxLen) (hlx : ln ≤ maxLen) :
    Calls Tryz.prog 55 #[mV va vn vc la ln lc] w fun e w' => ∃ sp n c, e = .returned (.tuple #[.slice sp n c, .int .i64 (putE v l)]) ∧ Hid ((putB v l).length = n) ∧ OwnB w.heap.size w' sp c (putB v l) ∧ Below w.heap.size w w' := by
  cases hr : rightM v l
  · have e1 : putB v l = [] := by rw [putB, hr]; rfl
    have e2 : putE v l = 2 := by rw [putE, hr]; rfl
    rw [e1, e2]
    exact (rput_no hv hl vn ln hvn hln hvx hlx hr).mono fun e w' ⟨he, hb⟩ => ⟨none, 0, 0, he, rfl, OwnB.ofNil _ _, hb⟩
  · have e1 : putB v l = listB v ++ listB l := by rw [putB, hr]; rfl
    have e2 : putE v l = 0 := by rw [putE, hr]; rfl
    rw [e1, e2]
    exact rput_yes hv hl vn ln hvn hln hvx hlx hr
end
end Go.Proofs.YtagncghpfdjkmaaGreatDoor
end
/- Readers of wire: bytes that are gone through behind a pointer; giving up. -/
section
namespace Go.Proofs.YtagncghpfdjkmaaGreatDoor
open Go.ChangeShapes Go.WideShapes Go.ChangeAt Go.RowKit

/-- The panic by which a reader gives up. -/
abbrev given (e : Nat) : List PanicEntry := [{ v := .iface 214 (.agg #[.int .i64 (e : Int)]), recovered := false }]
theorem giveUp_calls (e : Nat) (w : World) : Calls Tryz.prog 175 #[.int .i64 (e : Int)] w fun en w' => en = .panicked (given e) ∧ w' = w := by
  go_enter Tryz.func175, Tryz.ntmps175
  go_wp2
  exact ⟨rfl, rfl, rfl⟩

/-- A reader of bytes: its block, the bytes, the place. -/
structure RdAt (R : Nat) (w : World) (a : Option Addr) (c : Nat) (l : List Nat) (k : Nat) : Prop where
  blk : w.heap[R]? = some (.cells #[.slice a l.length c, .int .i64 (k : Int)] 187 (0, 0))
  bytes : BytesAt w a l
  low : ∀ b off, 0 < l.length → a = some ⟨b, off, none⟩ → b ≠ R
  le : k ≤ l.length

theorem RdAt.c0 {R : Nat} {w : World} {a : Option Addr} {c : Nat} {l : List Nat} {k : Nat} (h : RdAt R w a c l k) : w.cell? ⟨R, 0, none⟩ = some (.slice a l.length c) := by
  rw [cell_of_row w R 0 _ _ _ h.blk]; rfl
theorem RdAt.c1 {R : Nat} {w : World} {a : Option Addr} {c : Nat} {l : List Nat} {k : Nat} (h : RdAt R w a c l k) : w.cell? ⟨R, 1, none⟩ = some (.int .i64 (k : Int)) := by
  rw [cell_of_row w R 1 _ _ _ h.blk]; rfl
theorem RdAt.f1 {R : Nat} {w : World} {a : Option Addr} {c : Nat} {l : List Nat} {k : Nat} (h : RdAt R w a c l k) : w.frozen? ⟨R, 1, none⟩ = false := by
  simp [World.frozen?, h.blk]
/-- The place moves; other blocks than the reader's stay. -/
theorem RdAt.moved {R : Nat} {w : World} {a : Option Addr} {c : Nat} {l : List Nat} {k : Nat} (h : RdAt R w a c l k) (k' : Nat) (hk : k' ≤ l.length) : RdAt R (w.setCell ⟨R, 1, none⟩ (.int .i64 (k' : Int))) a c l k' := by
  have hg := grown_set w R 1 (.int .i64 (k' : Int))
  refine ⟨?_, ?_, h.low, hk⟩
  · have := heap_setCell_same w R 1 _ 187 (.int .i64 (k' : Int)) h.blk
    simpa using this
  · refine ⟨h.bytes.lt, fun i hi => ?_⟩
    obtain ⟨b, off, h1, h2⟩ := h.bytes.cell i hi
    refine ⟨b, off, h1, ?_⟩
    rw [hg.cell_far ⟨b, off + i, none⟩ (World.block_lt_of_cell? _ _ h2) (by simpa using h.low b off (by omega) h1)]
    exact h2
theorem RdAt.drewN {R : Nat} {w : World} {a : Option Addr} {c : Nat} {l : List Nat} {k : Nat} (h : RdAt R w a c l k) (n : Nat) : RdAt R (w.drewN n) a c l k := ⟨h.blk, ⟨h.bytes.lt, h.bytes.cell⟩, h.low, h.le⟩
theorem grown_drewN (w : World) (n : Nat) (row : Option Nat) : w.grownBy (w.drewN n) row := ⟨rfl, rfl, rfl, Nat.le_refl _, fun _ _ _ => rfl⟩

theorem one_short (R : Nat) (a : Option Addr) (c : Nat) (l : List Nat) (k : Nat) (w : World) (h : RdAt R w a c l k) (hk : k = l.length) :
    Calls Tryz.prog 174 #[.pointer (some ⟨R, 0, none⟩)] w fun e w' => e = .panicked (given 3) ∧ RdAt R w' a c l k ∧ w.grownBy w' (some R) := by
  have c0 := h.c0
  have c1 := h.c1
  subst hk
  have H := hide h
  clear h
  go_enter Tryz.func174, Tryz.ntmps174
  go_wp2_with fail
  go_quiet (fail)
  go_wp2_with fail
  refine (giveUp_calls 3 _).mono ?_
  rintro e w' ⟨rfl, rfl⟩
  go_wp2
  exact ⟨rfl, rfl, (unhide H).drewN _, grown_drewN _ _ _⟩
theorem one_ok (R : Nat) (a : Option Addr) (c : Nat) (l : List Nat) (k : Nat) (w : World) (h : RdAt R w a c l k) (hk : k < l.length) (hl : l.length ≤ maxLen) :
    Calls Tryz.prog 174 #[.pointer (some ⟨R, 0, none⟩)] w fun e w' => e = .returned (.int .u8 ((l.getD k 0 : Nat) : Int)) ∧ RdAt R w' a c l (k + 1) ∧ w.grownBy w' (some R) := by
  have c0 := h.c0
  have c1 := h.c1
  have f1 := h.f1
  obtain ⟨b, off, rfl, hc⟩ := h.bytes.cell k hk
  have H := hide h
  have H1 := hide hk
  unfold maxLen at hl
  clear h
  generalize l.getD k 0 = x at *
  have hne : ¬ k = l.length := by omega
  go_enter Tryz.func174, Tryz.ntmps174
  go_wp2_with fail
  go_quiet (fail)
  go_wp2_with fail
  go_quiet (fail)
  go_wp2
  go_ret
  exact ⟨rfl, ((unhide H).drewN _).moved (k + 1) (unhide H1), grown_trans (grown_drewN _ _ _) (grown_set _ _ _ _)⟩
end Go.Proofs.YtagncghpfdjkmaaGreatDoor
end
/- Plain: the number at a place of bytes. -/
section
namespace Go.Proofs.YtagncghpfdjkmaaGreatDoor

/-- What is read from a place on: the error, the number, the place behind; 's' bytes are read already, and 'n' of them. -/
def takeF (l : List Nat) : Nat → Nat → Nat → Nat → Nat × Nat × Nat
  | 0, _, _, k => (6, 0, k)
  | f + 1, s, n, k =>
    if l.length ≤ k then (3, 0, k)
    else if 128 ≤ l.getD k 0 then (if f = 0 then (6, 0, k + 1) else takeF l f (s + 1) (n + l.getD k 0 % 128 * 128 ^ s) (k + 1))
    else if l.getD k 0 = 0 ∧ 0 < s then (4, 0, k + 1)
    else if 1099511627776 < n + l.getD k 0 * 128 ^ s then (6, 0, k + 1)
    else (0, n + l.getD k 0 * 128 ^ s, k + 1)
def takeN (l : List Nat) (k : Nat) : Nat × Nat × Nat := takeF l 6 0 0 k
theorem takeF_short {l : List Nat} {k : Nat} (f s m : Nat) (hk : ¬ k < l.length) : takeF l (f + 1) s m k = (3, 0, k) := by
  rw [takeF, if_pos (by omega)]
theorem takeF_more {l : List Nat} {k x : Nat} (f s m : Nat) (hx : l.getD k 0 = x) (hk : k < l.length) (h : 128 ≤ x) (hf : f ≠ 0) : takeF l (f + 1) s m k = takeF l f (s + 1) (m + x % 128 * 128 ^ s) (k + 1) := by
  rw [takeF, if_neg (by omega), hx, if_pos h, if_neg hf]
theorem takeF_last {l : List Nat} {k x : Nat} (s m : Nat) (hx : l.getD k 0 = x) (hk : k < l.length) (h : 128 ≤ x) : takeF l (0 + 1) s m k = (6, 0, k + 1) := by
  rw [takeF, if_neg (by omega), hx, if_pos h, if_pos rfl]
theorem takeF_form {l : List Nat} {k x : Nat} (f s m : Nat) (hx : l.getD k 0 = x) (hk : k < l.length) (h : x = 0) (hs : 0 < s) : takeF l (f + 1) s m k = (4, 0, k + 1) := by
  rw [takeF, if_neg (by omega), hx, if_neg (by omega), if_pos ⟨h, hs⟩]
theorem takeF_big {l : List Nat} {k x : Nat} (f s m : Nat) (hx : l.getD k 0 = x) (hk : k < l.length) (h : ¬ 128 ≤ x) (h0 : ¬ (x = 0 ∧ 0 < s)) (hb : 1099511627776 < m + x * 128 ^ s) : takeF l (f + 1) s m k = (6, 0, k + 1) := by
  rw [takeF, if_neg (by omega), hx, if_neg h, if_neg h0, if_pos hb]
theorem takeF_ok {l : List Nat} {k x : Nat} (f s m : Nat) (hx : l.getD k 0 = x) (hk : k < l.length) (h : ¬ 128 ≤ x) (h0 : ¬ (x = 0 ∧ 0 < s)) (hb : ¬ 1099511627776 < m + x * 128 ^ s) : takeF l (f + 1) s m k = (0, m + x * 128 ^ s, k + 1) := by
  rw [takeF, if_neg (by omega), hx, if_neg h, if_neg h0, if_neg hb]
/-- The number at a place and the place behind it, or the error. -/
def takeE (l : List Nat) (k : Nat) : Except Nat (Nat × Nat) := if (takeN l k).1 = 0 then .ok ((takeN l k).2.1, (takeN l k).2.2) else .error (takeN l k).1
/-- A hard state from a place on. -/
def hardE (l : List Nat) (k : Nat) : Except Nat ((Nat × Nat) × Nat) :=
  match takeE l k with
  | .error x => .error x
  | .ok (t, k) =>
    match takeE l k with
    | .error x => .error x
    | .ok (v, k) => if 9 < v then .error 4 else .ok ((t, v), k)
/-- Nothing stands behind. -/
def wholeE {α : Type} (l : List Nat) (r : Except Nat (α × Nat)) : Except Nat α :=
  match r with
  | .error x => .error x
  | .ok (x, k) => if k < l.length then .error 4 else .ok x
theorem takeE_pos {l : List Nat} {k x : Nat} (h : takeE l k = .error x) : x ≠ 0 := by
  unfold takeE at h
  split at h
  · cases h
  · cases h; assumption
/-- A byte from a to b. -/
def oneE (l : List Nat) (a b k : Nat) : Except Nat (Nat × Nat) := if k < l.length then (if a ≤ l.getD k 0 ∧ l.getD k 0 ≤ b then .ok (l.getD k 0, k + 1) else .error 4) else .error 3
def posE (l : List Nat) (k : Nat) : Except Nat (Nat × Nat) :=
  match takeE l k with
  | .error x => .error x
  | .ok (n, k) => if n = 0 then .error 4 else .ok (n, k)
def sizeE (l : List Nat) (kind k : Nat) : Except Nat (Nat × Nat) :=
  match takeE l k with
  | .error x => .error x
  | .ok (n, k) => if kind = 1 ∧ 0 < n then .error 4 else if 2048 < n then .error 6 else .ok (n, k)
def dataE (l : List Nat) (n k : Nat) : Except Nat (List Nat × Nat) := if l.length - k < n then .error 3 else .ok ((l.drop k).take n, k + n)
/-- An entry from a place on. -/
def entryE (l : List Nat) (k : Nat) : Except Nat ((Nat × Nat × Nat × List Nat) × Nat) :=
  match oneE l 1 3 k with
  | .error x => .error x
  | .ok (kd, k) =>
    match posE l k with
    | .error x => .error x
    | .ok (t, k) =>
      match posE l k with
      | .error x => .error x
      | .ok (i, k) =>
        match sizeE l kd k with
        | .error x => .error x
        | .ok (n, k) =>
          match dataE l n k with
          | .error x => .error x
          | .ok (d, k) => .ok ((kd, t, i, d), k)
/-- Bytes with their length ahead. -/
def rowE (l : List Nat) (most k : Nat) : Except Nat (List Nat × Nat) :=
  match takeE l k with
  | .error x => .error x
  | .ok (n, k) => if most < n then .error 6 else dataE l n k
end Go.Proofs.YtagncghpfdjkmaaGreatDoor
end
