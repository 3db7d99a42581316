/- Member: addNumber, addList, Put. -/
import Derived.Test.YtnclkkoefejjiaaMb6
import Derived.Test.YtnclkkoefejjiaaApi
import Derived.Test.YtnclkkoefejjiaaWput
import Derived.Deep.RegionHeld3
namespace Go.Proofs.Ytnclkkoefejjiaa
open Go.ChangeShapes Go.WideShapes Go.ChangeAt Go.RowKit Go.Maps

theorem IntsAt.lt {w : World} {a : Option Addr} {l : List Int} (h : IntsAt w a l) (h0 : 0 < l.length) : ∀ b off, a = some ⟨b, off, none⟩ → b < w.heap.size := by
  intro b off e
  obtain ⟨b', off', e', h1⟩ := h.cell 0 h0
  rw [e'] at e
  cases e
  exact cell_lt h1
theorem IntsAt.below {base : Nat} {w w' : World} {a : Option Addr} {l : List Int} (h : IntsAt w a l) (hb : Below base w w') (hlo : 0 < l.length → ∀ b off, a = some ⟨b, off, none⟩ → b < base) : IntsAt w' a l :=
  ⟨h.bd, fun i hi => by
    obtain ⟨b, off, e, hc⟩ := h.cell i hi
    exact ⟨b, off, e, (hb.cell (p := ⟨b, off + i, none⟩) (hlo (by omega) b off e)).trans hc⟩⟩
def listB (l : List Int) : List Nat := l.length :: l.map Int.toNat
section
variable {w : World} {sp : Option Addr} {c : Nat} {b : List Nat}
set_option maxHeartbeats 2000000 in
theorem maddNumber_calls (base n0 : Nat) (x : Int) (hn0 : b.length = n0) (hown : OwnB base w sp c b) (hb : b.length ≤ 1000) (hx : 0 ≤ x ∧ x ≤ 100) (hbase : base ≤ w.heap.size) :
    Calls Try.prog 61 #[.slice sp n0 c, .int .i64 x] w fun e w' => ∃ sp' n' c', e = .returned (.slice sp' n' c') ∧ Hid ((b ++ [x.toNat]).length = n') ∧ OwnB base w' sp' c' (b ++ [x.toNat]) ∧ Below base w w' := by
  obtain ⟨k, rfl⟩ : ∃ k : Nat, x = (k : Int) := ⟨x.toNat, by omega⟩
  have hk : k ≤ 100 := by omega
  have e : numB k = [k] := numB_small (by omega)
  have E := hide e
  have H := hide hown
  have N0 := hide hn0
  have HB := hide hb
  clear hown hn0 hb e hx
  go_enter Try.func61, Try.ntmps61
  go_wp2_with fail
  refine (number_yes k w (by omega)).mono ?_
  rintro e w1 ⟨xp, m, xc, rfl, hm, hx, b1⟩
  rw [unhide E] at hm hx
  have O1 := hide ((unhide H).later b1)
  have X1 := hide hx
  have B1 := hide b1
  have HM := hide (unhide hm)
  clear hx b1
  go_wp2_with (at_builtin; refine wpList_append8 rfl (.tmp 12) (.tmp 13) rfl base sp n0 c b rfl (unhide N0) (by exact unhide O1) xp m xc rfl [k] (unhide HM) (by exact (unhide X1).bytes) (by intro h; subst h; rcases (unhide X1).owns.2 with ⟨h1, _⟩ | ⟨_, _, _, h1, _⟩ <;> simp_all) (by have := unhide HB; have h2 := unhide HM; simp only [List.length_cons, List.length_nil] at h2; omega) (by exact Nat.le_trans hbase (unhide B1).size) ?_; intro sp' n' c' w' hn' ho' hg' hb')
  go_ret
  exact ⟨sp', n', c', rfl, by simpa using hn', by simpa using ho', ((unhide B1).mono hbase).trans hb'⟩
variable {la : Option Addr} {lc : Nat} {l : List Int}
set_option maxHeartbeats 4000000 in
theorem addList_calls (base n0 ln : Nat) (hn0 : b.length = n0) (hown : OwnB base w sp c b) (hb : b.length ≤ 100) (hl : IntsAt w la l) (hlo : 0 < l.length → ∀ b off, la = some ⟨b, off, none⟩ → b < base) (hln : l.length = ln) (hl9 : ln ≤ 9) (hin : ∀ x ∈ l, 0 ≤ x ∧ x ≤ 9) (hbase : base ≤ w.heap.size) :
    Calls Try.prog 59 #[.slice sp n0 c, .slice la ln lc] w fun e w' => ∃ sp' n' c', e = .returned (.slice sp' n' c') ∧ Hid ((b ++ listB l).length = n') ∧ OwnB base w' sp' c' (b ++ listB l) ∧ Below base w w' := by
  have H := hide hown
  have N0 := hide hn0
  have HB := hide hb
  have HL := hide hl
  have LO := hide hlo
  have LN := hide hln
  have IN := hide hin
  clear hown hn0 hb hl hlo hln hin
  go_enter Try.func59, Try.ntmps59
  go_wp2_with fail
  refine (maddNumber_calls base n0 (ln : Int) (unhide N0) (unhide H) (by have := unhide HB; omega) (by omega) hbase).mono ?_
  rintro e w1 ⟨sp1, n1, c1, rfl, hn1, ho1, b1⟩
  rw [Int.toNat_natCast] at hn1 ho1
  have O1 := hide ho1
  have B1 := hide b1
  clear ho1 b1
  go_wp2_with fail
  go_loopw [0, 13] (fun v i wr => ∃ (j n : Nat) (sp : Option Addr) (c : Nat), j ≤ ln ∧ v = .slice sp n c ∧ i = .int .i64 (j : Int) ∧ Hid ((b ++ (ln :: (l.take j).map Int.toNat)).length = n) ∧ Hid (OwnB base wr sp c (b ++ (ln :: (l.take j).map Int.toNat))) ∧ Hid (Below base w wr)) (fun _ i _ => ln - (intOf i).toNat)
  case atStart => exact ⟨0, n1, sp1, c1, by omega, rfl, rfl, by simpa using hn1, by simpa using O1, unhide B1⟩
  case round =>
    obtain ⟨j, n, sp2, c2, hj, rfl, rfl, hn, ho, hB⟩ := hrel
    by_cases hjm : j < ln
    · have hjl : j < l.length := by rw [unhide LN]; exact hjm
      obtain ⟨bb, off, rfl, p0⟩ := ((unhide HL).below (unhide hB) (unhide LO)).cell j hjl
      have hT := hide (List.take_succ_eq_append_getElem hjl)
      have hI := hide (unhide IN _ (List.getElem_mem hjl))
      generalize l[j] = x at *
      have hj0 : (0 : Int) ≤ (j : Int) := by omega
      have hj1 : (j : Int) < (ln : Int) := by omega
      go_wp2_with fail
      refine (maddNumber_calls base n x (unhide hn) (unhide ho) (by have h1 := unhide HB; simp only [List.length_append, List.length_cons, List.length_map, List.length_take]; omega) (by have := unhide hI; omega) (Nat.le_trans hbase (unhide hB).size)).mono ?_
      rintro e w2 ⟨sp3, n3, c3, rfl, hn3, ho3, b3⟩
      have EQ : b ++ (ln :: (l.take j).map Int.toNat) ++ [x.toNat] = b ++ (ln :: (l.take (j + 1)).map Int.toNat) := by
        rw [unhide hT]
        simp
      rw [EQ] at hn3 ho3
      have O3 := hide ho3
      have B3 := hide ((unhide hB).trans b3)
      clear ho3 b3 EQ
      go_wp2
      exact ⟨⟨j + 1, n3, sp3, c3, by omega, rfl, by go_num, hn3, unhide O3, unhide B3⟩, by simp [intOf]; omega⟩
    · obtain rfl : j = ln := by omega
      have EQ : b ++ (j :: (l.take j).map Int.toNat) = b ++ listB l := by
        rw [List.take_of_length_le (by rw [unhide LN]; exact Nat.le_refl _)]
        unfold listB
        rw [unhide LN]
      rw [EQ] at hn ho
      clear EQ
      go_wp2
      go_ret
      exact ⟨sp2, n, c2, rfl, hn, unhide ho, unhide hB⟩
end
section
variable {w : World} {va : Option Addr} {vc : Nat} {v : List Int} {la : Option Addr} {lc : Nat} {l : List Int}
set_option maxRecDepth 20000 in
set_option maxHeartbeats 4000000 in
theorem mput_no (hv : IntsAt w va v) (hl : IntsAt w la l) (vn ln : Nat) (hvn : v.length = vn) (hln : l.length = ln) (hvx : vn ≤ maxLen) (hlx : ln ≤ maxLen) (hr : rightM v l = false) :
    Calls Try.prog 33 #[mV va vn vc la ln lc] w fun e w' => e = .returned (.tuple #[.slice none 0 0, .int .i64 2]) ∧ Below w.heap.size w w' := by
  have X1 := hide (heap_new w (mB va vn vc la ln lc))
  have b1 := hide (show Below w.heap.size w (w.alloc (mB va vn vc la ln lc)) from (Below.refl _ _).alloc (Nat.le_refl _) _)
  have V := hide (hv.later (unhide b1))
  have L := hide (hl.later (unhide b1))
  have VN := hide hvn
  have LN := hide hln
  have c0 := box_cell (unhide X1) 0 _ rfl
  have c1 := box_cell (unhide X1) 1 _ rfl
  clear hv hl hvn hln
  go_enter Try.func33, Try.ntmps33
  go_wp2_with fail
  generalize hD : w.heap.size = D at *
  generalize w.alloc (mB va vn vc la ln lc) = w1 at *
  refine (right_calls (unhide V) (unhide L) vn ln (unhide VN) (unhide LN) hvx hlx).mono ?_
  rintro e w2 ⟨rfl, b2⟩
  have B2 := hide ((unhide b1).trans (b2.mono (by have := (unhide b1).size; omega)))
  rw [hr]
  clear b2 c0 c1
  go_wp2
  go_ret2
  exact ⟨rfl, by rw [hD]; exact unhide B2⟩
set_option maxRecDepth 20000 in
set_option maxHeartbeats 4000000 in
theorem mput_yes (hv : IntsAt w va v) (hl : IntsAt w la l) (vn ln : Nat) (hvn : v.length = vn) (hln : l.length = ln) (hvx : vn ≤ maxLen) (hlx : ln ≤ maxLen) (hr : rightM v l = true) :
    Calls Try.prog 33 #[mV va vn vc la ln lc] w fun e w' => ∃ sp n c, e = .returned (.tuple #[.slice sp n c, .int .i64 0]) ∧ Hid ((listB v ++ listB l).length = n) ∧ OwnB w.heap.size w' sp c (listB v ++ listB l) ∧ Below w.heap.size w w' := by
  have X1 := hide (heap_new w (mB va vn vc la ln lc))
  have b1 := hide (show Below w.heap.size w (w.alloc (mB va vn vc la ln lc)) from (Below.refl _ _).alloc (Nat.le_refl _) _)
  have V0 := hide hv
  have L0 := hide hl
  have V := hide (hv.later (unhide b1))
  have L := hide (hl.later (unhide b1))
  have VN := hide hvn
  have LN := hide hln
  have c0 := box_cell (unhide X1) 0 _ rfl
  have c1 := box_cell (unhide X1) 1 _ rfl
  obtain ⟨hr1, hr2, hv9, hl9, hv0⟩ := right_parts hr
  have INv := hide (show ∀ x ∈ v, 0 ≤ x ∧ x ≤ 9 from fun x hx => by have := rise_in v 0 (by omega) hr1 x hx; omega)
  have INl := hide (show ∀ x ∈ l, 0 ≤ x ∧ x ≤ 9 from fun x hx => by have := rise_in l 0 (by omega) hr2 x hx; omega)
  have hvn9 : vn ≤ 9 := by omega
  have hln9 : ln ≤ 9 := by omega
  clear hv hl hvn hln hr1 hr2 hv9 hl9 hv0
  go_enter Try.func33, Try.ntmps33
  go_wp2_with fail
  generalize hD : w.heap.size = D at *
  generalize w.alloc (mB va vn vc la ln lc) = w1 at *
  refine (right_calls (unhide V) (unhide L) vn ln (unhide VN) (unhide LN) hvx hlx).mono ?_
  rintro e w2 ⟨rfl, b2⟩
  have B2 := hide ((unhide b1).trans (b2.mono (by have := (unhide b1).size; omega)))
  have V2 := hide ((unhide V).later b2)
  have L2 := hide ((unhide L).later b2)
  have X2 := hide (later_block b2 (unhide X1))
  rw [hr]
  clear b2 c0 c1 V L X1
  have c0 := box_cell (unhide X2) 0 _ rfl
  have c1 := box_cell (unhide X2) 1 _ rfl
  have hlt := hide (show D < w2.heap.size from (Array.getElem?_eq_some_iff.1 (unhide X2)).1)
  have key := hide (show ∀ W' : World, Below w2.heap.size w2 W' → W'.cell? ⟨D, 0, none⟩ = some (.slice va vn vc) ∧ W'.cell? ⟨D, 1, none⟩ = some (.slice la ln lc) from
    fun W' h => ⟨(h.cell (p := ⟨D, 0, none⟩) (unhide hlt)).trans c0, (h.cell (p := ⟨D, 1, none⟩) (unhide hlt)).trans c1⟩)
  go_wp2_with fail
  go_region_held3 (fun w' => w'.cell? ⟨D, 0, none⟩ = some (.slice va vn vc) ∧ w'.cell? ⟨D, 1, none⟩ = some (.slice la ln lc))
    (first
      | exact unhide key _ ((Below.refl _ _).drew.trans (hb3.trans hb4))
      | exact unhide key _ ((Below.refl _ _).drew.trans hb3)
      | exact ⟨c0, c1⟩)
    (first
      | (go_at_call_of 59 (Value.slice none 0 0)
         refine (addList_calls (w := w2.drew) (b := []) w2.heap.size 0 vn rfl (OwnB.ofNil _ _) (by simp) ((unhide V2).later (Below.refl _ _).drew) (unhide V2).lt (unhide VN) hvn9 (unhide INv) (Nat.le_refl _)).mono ?_
         rintro e W3 ⟨sp3, n3, k3, rfl, hn3, ho3, hb3⟩)
      | (go_at_call_of 59 (Value.slice sp3 n3 k3)
         refine (addList_calls w2.heap.size n3 ln (unhide hn3) ho3 (by simp only [listB, List.length_append, List.length_nil, List.length_cons, List.length_map]; have := unhide VN; omega) (((unhide L2).later (Below.refl _ _).drew).below hb3 (unhide L2).lt) (unhide L2).lt (unhide LN) hln9 (unhide INl) (by exact hb3.size)).mono ?_
         rintro e W4 ⟨sp4, n4, k4, rfl, hn4, ho4, hb4⟩))
  rw [List.nil_append] at hn4 ho4
  go_wp2
  go_ret2
  exact ⟨sp4, n4, k4, rfl, hn4, ho4.mono (by have := (unhide B2).size; omega), by rw [hD]; exact (unhide B2).trans (((Below.refl _ _).drew.trans (hb3.trans hb4)).mono (by have := (unhide B2).size; omega))⟩
end
end Go.Proofs.Ytnclkkoefejjiaa
