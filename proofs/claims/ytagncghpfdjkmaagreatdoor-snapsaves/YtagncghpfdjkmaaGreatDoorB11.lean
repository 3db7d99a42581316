/- Member: addNumber, addList, Put. -/
import Derived.Test.YtagncghpfdjkmaaGreatDoorB10
import Derived.Deep.RegionHeld3
import Derived.Deep.QuietTactic
import Derived.BigQuiet
import Derived.Test.YtagncghpfdjkmaaGreatDoorB01
section
namespace Go.Proofs.YtagncghpfdjkmaaGreatDoor
open Go.ChangeShapes Go.WideShapes Go.ChangeAt Go.RowKit Go.Maps

theorem cell_lt {w : World} {b off : Nat} {x : Value} (h : w.cell? ⟨b, off, none⟩ = some x) : b < w.heap.size := by
  rcases Nat.lt_or_ge b w.heap.size with h1 | h1
  · exact h1
  · have : w.heap[b]? = none := Array.getElem?_eq_none h1
    simp [World.cell?, this] at h
theorem rise_in : ∀ (v : List Int) (last : Int), 0 ≤ last → riseFrom last v = true → ∀ x ∈ v, last < x ∧ x ≤ 9
  | [], _, _, _, x, hx => by simp at hx
  | n :: r, last, h0, h, x, hx => by
    simp only [riseFrom, Bool.and_eq_true, decide_eq_true_eq] at h
    rcases List.mem_cons.1 hx with rfl | hx
    · omega
    · have := rise_in r n (by omega) h.2 x hx
      omega
theorem rise_len : ∀ (v : List Int) (last : Int), riseFrom last v = true → v = [] ∨ (v.length : Int) + last ≤ 9
  | [], _, _ => .inl rfl
  | n :: r, last, h => by
    simp only [riseFrom, Bool.and_eq_true, decide_eq_true_eq] at h
    right
    rcases rise_len r n h.2 with rfl | h1
    · simp only [List.length_cons, List.length_nil]
      omega
    · simp only [List.length_cons]
      omega
theorem right_parts {v l : List Int} (h : rightM v l = true) : riseFrom 0 v = true ∧ riseFrom 0 l = true ∧ v.length ≤ 9 ∧ l.length ≤ 9 ∧ 0 < v.length := by
  simp only [rightM, Bool.and_eq_true, Bool.not_eq_true'] at h
  obtain ⟨⟨⟨h1, h2⟩, h3⟩, _⟩ := h
  refine ⟨h2, h3, ?_, ?_, ?_⟩
  · rcases rise_len v 0 h2 with rfl | h4
    · simp
    · omega
  · rcases rise_len l 0 h3 with rfl | h4
    · simp
    · omega
  · cases v with
    | nil => simp at h1
    | cons _ _ => simp
theorem IntsAt.lt {w : World} {a : Option Addr} {l : List Int} (h : IntsAt w a l) (h0 : 0 < l.length) : ∀ b off, a = some ⟨b, off, none⟩ → b < w.heap.size := by
  intro b off e
  obtain ⟨b', off', e', h1⟩ := h.cell 0 h0
  rw [e'] at e
  cases e
  exact cell_lt h1
theorem IntsAt.below {base : Nat} {w w' : World} {a : Option Addr} {l : List Int} (h : IntsAt w a l) (hb : Below base w w') (hlo : 0 < l.length → ∀ b off, a = some ⟨b, off, none⟩ → b < base) : IntsAt w' a l :=
  ⟨h.bd, fun i hi => by
    obtain ⟨b, off, e, hc⟩ := h.cell i hi
    exact ⟨b, off, e, (hb.cell (p := ⟨b, off + i, none⟩) (hlo (by omega) b off e)).trans hc⟩⟩
def listB (l : List Int) : List Nat := l.length :: l.map Int.toNat
section
variable {w : World} {sp : Option Addr} {c : Nat} {b : List Nat}
set_option maxHeartbeats 2000000 in
theorem maddNumber_calls (base n0 : Nat) (x : Int) (hn0 : b.length = n0) (hown : OwnB base w sp c b) (hb : b.length ≤ 1000) (hx : 0 ≤ x ∧ x ≤ 100) (hbase : base ≤ w.heap.size) :
    Calls Tryz.prog 129 #[.slice sp n0 c, .int .i64 x] w fun e w' => ∃ sp' n' c', e = .returned (.slice sp' n' c') ∧ Hid ((b ++ [x.toNat]).length = n') ∧ OwnB base w' sp' c' (b ++ [x.toNat]) ∧ Below base w w' := by
  obtain ⟨k, rfl⟩ : ∃ k : Nat, x = (k : Int) := ⟨x.toNat, by omega⟩
  have hk : k ≤ 100 := by omega
  have e : numB k = [k] := numB_small (by omega)
  have E := hide e
  have H := hide hown
  have N0 := hide hn0
  have HB := hide hb
  clear hown hn0 hb e hx
  go_enter Tryz.func129, Tryz.ntmps129
  go_wp2_with fail
  refine (number_yes k w (by omega)).mono ?_
  rintro e w1 ⟨xp, m, xc, rfl, hm, hx, b1⟩
  rw [unhide E] at hm hx
  have O1 := hide ((unhide H).later b1)
  have X1 := hide hx
  have B1 := hide b1
  have HM := hide (unhide hm)
  clear hx b1
  go_wp2_with (at_builtin; refine wpList_append8 rfl (.tmp 12) (.tmp 13) rfl base sp n0 c b rfl (unhide N0) (by exact unhide O1) xp m xc rfl [k] (unhide HM) (by exact (unhide X1).bytes) (by intro h; subst h; rcases (unhide X1).owns.2 with ⟨h1, _⟩ | ⟨_, _, _, h1, _⟩ <;> simp_all) (by have := unhide HB; have h2 := unhide HM; simp only [List.length_cons, List.length_nil] at h2; omega) (by exact Nat.le_trans hbase (unhide B1).size) ?_; intro sp' n' c' w' hn' ho' hg' hb')
  go_ret
  exact ⟨sp', n', c', rfl, by simpa using hn', by simpa using ho', ((unhide B1).mono hbase).trans hb'⟩
variable {la : Option Addr} {lc : Nat} {l : List Int}
set_option maxHeartbeats 4000000 in
theorem addList_calls (base n0 ln : Nat) (hn0 : b.length = n0) (hown : OwnB base w sp c b) (hb : b.length ≤ 100) (hl : IntsAt w la l) (hlo : 0 < l.length → ∀ b off, la = some ⟨b, off, none⟩ → b < base) (hln : l.length = ln) (hl9 : ln ≤ 9) (hin : ∀ x ∈ l, 0 ≤ x ∧ x ≤ 9) (hbase : base ≤ w.heap.size) :
    Calls Tryz.prog 96 #[.slice sp n0 c, .slice la ln lc] w fun e w' => ∃ sp' n' c', e = .returned (.slice sp' n' c') ∧ Hid ((b ++ listB l).length = n') ∧ OwnB base w' sp' c' (b ++ listB l) ∧ Below base w w' := by
  have H := hide hown
  have N0 := hide hn0
  have HB := hide hb
  have HL := hide hl
  have LO := hide hlo
  have LN := hide hln
  have IN := hide hin
  clear hown hn0 hb hl hlo hln hin
  go_enter Tryz.func96, Tryz.ntmps96
  go_wp2_with fail
  refine (maddNumber_calls base n0 (ln : Int) (unhide N0) (unhide H) (by have := unhide HB; omega) (by omega) hbase).mono ?_
  rintro e w1 ⟨sp1, n1, c1, rfl, hn1, ho1, b1⟩
  rw [Int.toNat_natCast] at hn1 ho1
  have O1 := hide ho1
  have B1 := hide b1
  clear ho1 b1
  go_wp2_with fail
  go_loopw [0, 13] (fun v i wr => ∃ (j n : Nat) (sp : Option Addr) (c : Nat), j ≤ ln ∧ v = .slice sp n c ∧ i = .int .i64 (j : Int) ∧ Hid ((b ++ (ln :: (l.take j).map Int.toNat)).length = n) ∧ Hid (OwnB base wr sp c (b ++ (ln :: (l.take j).map Int.toNat))) ∧ Hid (Below base w wr)) (fun _ i _ => ln - (intOf i).toNat)
  case atStart => exact ⟨0, n1, sp1, c1, by omega, rfl, rfl, by simpa using hn1, by simpa using O1, unhide B1⟩
  case round =>
    obtain ⟨j, n, sp2, c2, hj, rfl, rfl, hn, ho, hB⟩ := hrel
    by_cases hjm : j < ln
    · have hjl : j < l.length := by rw [unhide LN]; exact hjm
      obtain ⟨bb, off, rfl, p0⟩ := ((unhide HL).below (unhide hB) (unhide LO)).cell j hjl
      have hT := hide (List.take_succ_eq_append_getElem hjl)
      have hI := hide (unhide IN _ (List.getElem_mem hjl))
      generalize l[j] = x at *
      have hj0 : (0 : Int) ≤ (j : Int) := by omega
      have hj1 : (j : Int) < (ln : Int) := by omega
      go_wp2_with fail
      refine (maddNumber_calls base n x (unhide hn) (unhide ho) (by have h1 := unhide HB; simp only [List.length_append, List.length_cons, List.length_map, List.length_take]; omega) (by have := unhide hI; omega) (Nat.le_trans hbase (unhide hB).size)).mono ?_
      rintro e w2 ⟨sp3, n3, c3, rfl, hn3, ho3, b3⟩
      have EQ : b ++ (ln :: (l.take j).map Int.toNat) ++ [x.toNat] = b ++ (ln :: (l.take (j + 1)).map Int.toNat) := by
        rw [unhide hT]
        simp
      rw [EQ] at hn3 ho3
      have O3 := hide ho3
      have B3 := hide ((unhide hB).trans b3)
      clear ho3 b3 EQ
      go_wp2
      exact ⟨⟨j + 1, n3, sp3, c3, by omega, rfl, by go_num, hn3, unhide O3, unhide B3⟩, by simp [intOf]; omega⟩
    · obtain rfl : j = ln := by omega
      have EQ : b ++ (j :: (l.take j).map Int.toNat) = b ++ listB l := by
        rw [List.take_of_length_le (by rw [unhide LN]; exact Nat.le_refl _)]
        unfold listB
        rw [unhide LN]
      rw [EQ] at hn ho
      clear EQ
      go_wp2
      go_ret
      exact ⟨sp2, n, c2, rfl, hn, unhide ho, unhide hB⟩
end
section
variable {w : World} {va : Option Addr} {vc : Nat} {v : List Int} {la : Option Addr} {lc : Nat} {l : List Int}
set_option maxRecDepth 20000 in
set_option maxHeartbeats 4000000 in
theorem mput_no (hv : IntsAt w va v) (hl : IntsAt w la l) (vn ln : Nat) (hvn : v.length = vn) (hln : l.length = ln) (hvx : vn ≤ maxLen) (hlx : ln ≤ maxLen) (hr : rightM v l = false) :
    Calls Tryz.prog 51 #[mV va vn vc la ln lc] w fun e w' => e = .returned (.tuple #[.slice none 0 0, .int .i64 2]) ∧ Below w.heap.size w w' := by
  have X1 := hide (heap_new w (mB va vn vc la ln lc))
  have b1 := hide (show Below w.heap.size w (w.alloc (mB va vn vc la ln lc)) from (Below.refl _ _).alloc (Nat.le_refl _) _)
  have V := hide (hv.later (unhide b1))
  have L := hide (hl.later (unhide b1))
  have VN := hide hvn
  have LN := hide hln
  have c0 := box_cell (unhide X1) 0 _ rfl
  have c1 := box_cell (unhide X1) 1 _ rfl
  clear hv hl hvn hln
  go_enter Tryz.func51, Tryz.ntmps51
  go_wp2_with fail
  generalize hD : w.heap.size = D at *
  generalize w.alloc (mB va vn vc la ln lc) = w1 at *
  refine (right_calls (unhide V) (unhide L) vn ln (unhide VN) (unhide LN) hvx hlx).mono ?_
  rintro e w2 ⟨rfl, b2⟩
  have B2 := hide ((unhide b1).trans (b2.mono (by have := (unhide b1).size; omega)))
  rw [hr]
  clear b2 c0 c1
  go_wp2
  go_ret2
  exact ⟨rfl, by rw [hD]; exact unhide B2⟩
set_option maxRecDepth 20000 in
set_option maxHeartbeats 4000000 in
theorem mput_yes (hv : IntsAt w va v) (hl : IntsAt w la l) (vn ln : Nat) (hvn : v.length = vn) (hln : l.length = ln) (hvx : vn ≤ maxLen) (hlx : ln ≤ maxLen) (hr : rightM v l = true) :
    Calls Tryz.prog 51 #[mV va vn vc la ln lc] w fun e w' => ∃ sp n c, e = .returned (.tuple #[.slice sp n c, .int .i64 0]) ∧ Hid ((listB v ++ listB l).length = n) ∧ OwnB w.heap.size w' sp c (listB v ++ listB l) ∧ Below w.heap.size w w' := by
  have X1 := hide (heap_new w (mB va vn vc la ln lc))
  have b1 := hide (show Below w.heap.size w (w.alloc (mB va vn vc la ln lc)) from (Below.refl _ _).alloc (Nat.le_refl _) _)
  have V0 := hide hv
  have L0 := hide hl
  have V := hide (hv.later (unhide b1))
  have L := hide (hl.later (unhide b1))
  have VN := hide hvn
  have LN := hide hln
  have c0 := box_cell (unhide X1) 0 _ rfl
  have c1 := box_cell (unhide X1) 1 _ rfl
  obtain ⟨hr1, hr2, hv9, hl9, hv0⟩ := right_parts hr
  have INv := hide (show ∀ x ∈ v, 0 ≤ x ∧ x ≤ 9 from fun x hx => by have := rise_in v 0 (by omega) hr1 x hx; omega)
  have INl := hide (show ∀ x ∈ l, 0 ≤ x ∧ x ≤ 9 from fun x hx => by have := rise_in l 0 (by omega) hr2 x hx; omega)
  have hvn9 : vn ≤ 9 := by omega
  have hln9 : ln ≤ 9 := by omega
  clear hv hl hvn hln hr1 hr2 hv9 hl9 hv0
  go_enter Tryz.func51, Tryz.ntmps51
  go_wp2_with fail
  generalize hD : w.heap.size = D at *
  generalize w.alloc (mB va vn vc la ln lc) = w1 at *
  refine (right_calls (unhide V) (unhide L) vn ln (unhide VN) (unhide LN) hvx hlx).mono ?_
  rintro e w2 ⟨rfl, b2⟩
  have B2 := hide ((unhide b1).trans (b2.mono (by have := (unhide b1).size; omega)))
  have V2 := hide ((unhide V).later b2)
  have L2 := hide ((unhide L).later b2)
  have X2 := hide (later_block b2 (unhide X1))
  rw [hr]
  clear b2 c0 c1 V L X1
  have c0 := box_cell (unhide X2) 0 _ rfl
  have c1 := box_cell (unhide X2) 1 _ rfl
  have hlt := hide (show D < w2.heap.size from (Array.getElem?_eq_some_iff.1 (unhide X2)).1)
  have key := hide (show ∀ W' : World, Below w2.heap.size w2 W' → W'.cell? ⟨D, 0, none⟩ = some (.slice va vn vc) ∧ W'.cell? ⟨D, 1, none⟩ = some (.slice la ln lc) from
    fun W' h => ⟨(h.cell (p := ⟨D, 0, none⟩) (unhide hlt)).trans c0, (h.cell (p := ⟨D, 1, none⟩) (unhide hlt)).trans c1⟩)
  go_wp2_with fail
  go_region_held3 (fun w' => w'.cell? ⟨D, 0, none⟩ = some (.slice va vn vc) ∧ w'.cell? ⟨D, 1, none⟩ = some (.slice la ln lc))
    (first
      | exact unhide key _ ((Below.refl _ _).drew.trans (hb3.trans hb4))
      | exact unhide key _ ((Below.refl _ _).drew.trans hb3)
      | exact ⟨c0, c1⟩)
    (first
      | (go_at_call_of 96 (Value.slice none 0 0)
         refine (addList_calls (w := w2.drew) (b := []) w2.heap.size 0 vn rfl (OwnB.ofNil _ _) (by simp) ((unhide V2).later (Below.refl _ _).drew) (unhide V2).lt (unhide VN) hvn9 (unhide INv) (Nat.le_refl _)).mono ?_
         rintro e W3 ⟨sp3, n3, k3, rfl, hn3, ho3, hb3⟩)
      | (go_at_call_of 96 (Value.slice sp3 n3 k3)
         refine (addList_calls w2.heap.size n3 ln (unhide hn3) ho3 (by simp only [listB, List.length_append, List.length_nil, List.length_cons, List.length_map]; have := unhide VN; omega) (((unhide L2).later (Below.refl _ _).drew).below hb3 (unhide L2).lt) (unhide L2).lt (unhide LN) hln9 (unhide INl) (by exact hb3.size)).mono ?_
         rintro e W4 ⟨sp4, n4, k4, rfl, hn4, ho4, hb4⟩))
  rw [List.nil_append] at hn4 ho4
  go_wp2
  go_ret2
  exact ⟨sp4, n4, k4, rfl, hn4, ho4.mono (by have := (unhide B2).size; omega), by rw [hD]; exact (unhide B2).trans (((Below.refl _ _).drew.trans (hb3.trans hb4)).mono (by have := (unhide B2).size; omega))⟩
end
end Go.Proofs.YtagncghpfdjkmaaGreatDoor
end
/- The document's Right, Quorum, SameInts, Same. -/
section
namespace Go.Proofs.YtagncghpfdjkmaaGreatDoor
open Go.ChangeShapes Go.WideShapes Go.ChangeAt Go.RowKit

/-- The number at a place rises and may be. -/
def okAt (last : Int) (v : List Int) (i : Nat) : Prop := (if i = 0 then last else v.getD (i - 1) 0) < v.getD i 0 ∧ v.getD i 0 ≤ 9
theorem rise_iff : ∀ (v : List Int) (last : Int), riseFrom last v = true ↔ ∀ i, i < v.length → okAt last v i
  | [], _ => by simp [riseFrom]
  | n :: r, last => by
    have ih := rise_iff r n
    simp only [riseFrom, Bool.and_eq_true, decide_eq_true_eq, ih]
    constructor
    · rintro ⟨⟨h1, h2⟩, h3⟩ i hi
      cases i with
      | zero => exact ⟨by simp; omega, by simpa using h2⟩
      | succ k =>
        have := h3 k (by simpa using hi)
        cases k with
        | zero => simpa [okAt] using this
        | succ q => simpa [okAt] using this
    · intro h
      have h0 := h 0 (by simp)
      simp only [okAt, if_true, List.getD_cons_zero] at h0
      refine ⟨⟨by omega, h0.2⟩, fun k hk => ?_⟩
      have := h (k + 1) (by simpa using hk)
      cases k with
      | zero => simpa [okAt] using this
      | succ q => simpa [okAt] using this
theorem right_iff (v l : List Int) : rightM v l = true ↔ 0 < v.length ∧ riseFrom 0 v = true ∧ riseFrom 0 l = true ∧ ∀ x ∈ v, x ∉ l := by
  unfold rightM
  simp only [Bool.and_eq_true, Bool.not_eq_true', List.any_eq_false, decide_eq_true_eq]
  constructor
  · rintro ⟨⟨⟨h1, h2⟩, h3⟩, h4⟩
    refine ⟨?_, h2, h3, fun x hx hl => h4 x hl hx⟩
    cases v with
    | nil => simp at h1
    | cons _ _ => simp
  · rintro ⟨h1, h2, h3, h4⟩
    refine ⟨⟨⟨?_, h2⟩, h3⟩, fun x hx hv => h4 x hv hx⟩
    cases v with
    | nil => simp at h1
    | cons _ _ => rfl
theorem right_no {v l : List Int} (h : ¬ (0 < v.length ∧ riseFrom 0 v = true ∧ riseFrom 0 l = true ∧ ∀ x ∈ v, x ∉ l)) : rightM v l = false := by
  cases hr : rightM v l with
  | false => rfl
  | true => exact absurd ((right_iff v l).1 hr) h
theorem getD_at {l : List Int} {j : Nat} (hj : j < l.length) : l.getD j 0 = l[j] := by
  rw [List.getD_eq_getElem?_getD, List.getElem?_eq_getElem hj]
  rfl
section
variable {w : World} {va : Option Addr} {vc : Nat} {v : List Int} {la : Option Addr} {lc : Nat} {l : List Int}
set_option maxRecDepth 20000 in
set_option maxHeartbeats 8000000 in
theorem refRight_calls (hv : IntsAt w va v) (hl : IntsAt w la l) (vn ln : Nat) (hvn : v.length = vn) (hln : l.length = ln) (hvx : vn ≤ maxLen) (hlx : ln ≤ maxLen) :
    Calls Tryz.prog 100 #[mV va vn vc la ln lc] w fun e w' => e = .returned (.bool (rightM v l)) ∧ Below w.heap.size w w' := by
  have X1 := hide (heap_new w (mB va vn vc la ln lc))
  have b1 := hide (show Below w.heap.size w (w.alloc (mB va vn vc la ln lc)) from (Below.refl _ _).alloc (Nat.le_refl _) _)
  have V := hide (hv.later (unhide b1))
  have L := hide (hl.later (unhide b1))
  have VN := hide hvn
  have LN := hide hln
  have c0 := box_cell (unhide X1) 0 _ rfl
  have c1 := box_cell (unhide X1) 1 _ rfl
  have hvx' := hvx
  have hlx' := hlx
  simp only [maxLen] at hvx' hlx'
  clear hv hl hvn hln
  go_enter Tryz.func100, Tryz.ntmps100
  go_wp2_with fail
  generalize hD : w.heap.size = D at *
  generalize w.alloc (mB va vn vc la ln lc) = w1 at *
  go_loopw [3] (fun i wr => ∃ (j : Nat), j ≤ vn ∧ i = .int .i64 (j : Int) ∧ Hid (∀ i, i < j → okAt 0 v i ∧ v.getD i 0 ∉ l) ∧ Hid (wr = w1)) (fun i _ => vn - (intOf i).toNat)
  case atStart => exact ⟨0, by omega, rfl, fun i hi => by omega, rfl⟩
  case round =>
    obtain ⟨j, hj, rfl, hr, hw⟩ := hrel
    have hw' := unhide hw
    subst hw'
    by_cases hjm : j < vn
    · have hjl : j < v.length := by rw [unhide VN]; exact hjm
      obtain ⟨b, off, rfl, p0⟩ := (unhide V).cell j hjl
      have hj0 : (0 : Int) ≤ (j : Int) := by omega
      have hj1 : (j : Int) < (vn : Int) := by omega
      have hx := hide (getD_at hjl)
      have hxm := hide (List.getElem_mem hjl)
      generalize v[j] = x at *
      by_cases h1 : x < 1
      · have R := hide (right_no (v := v) (l := l) (fun ⟨_, h, _⟩ => by have := rise_in v 0 (by omega) h x (unhide hxm); omega))
        go_wp2
        go_ret
        exact ⟨by rw [unhide R]; rfl, by first | exact unhide b1 | (rw [hD]; exact unhide b1)⟩
      · by_cases h2 : 9 < x
        · have R := hide (right_no (v := v) (l := l) (fun ⟨_, h, _⟩ => by have := rise_in v 0 (by omega) h x (unhide hxm); omega))
          go_wp2
          go_ret
          exact ⟨by rw [unhide R]; rfl, by first | exact unhide b1 | (rw [hD]; exact unhide b1)⟩
        · by_cases h3 : 0 < j
          · obtain ⟨k, rfl⟩ : ∃ k, j = k + 1 := ⟨j - 1, by omega⟩
            obtain ⟨b', off', e', p1⟩ := (unhide V).cell k (by omega)
            cases e'
            have hy := hide (getD_at (show k < v.length by omega))
            generalize v[k] = y at *
            have hk0 : (0 : Int) ≤ (k : Int) := by omega
            have hk1 : (k : Int) < (vn : Int) := by omega
            have hk2 : (0 : Int) < (k : Int) + 1 := by omega
            have hk3 : (k : Int) + 1 < (vn : Int) := by omega
            by_cases h4 : x ≤ y
            · have R := hide (right_no (v := v) (l := l) (fun ⟨_, h, _⟩ => by
                have := ((rise_iff v 0).1 h (k + 1) hjl).1
                rw [if_neg (by omega), show k + 1 - 1 = k from rfl, unhide hx, unhide hy] at this
                omega))
              go_wp2
              go_ret
              exact ⟨by rw [unhide R]; rfl, by first | exact unhide b1 | (rw [hD]; exact unhide b1)⟩
            · go_wp2_with fail
              refine (in_calls (unhide L) x ln (unhide LN) hlx).mono ?_
              rintro e w2 ⟨rfl, rfl⟩
              by_cases h5 : x ∈ l
              · have R := hide (right_no (v := v) (l := l) (fun ⟨_, _, _, h⟩ => h x (unhide hxm) h5))
                have e5 : decide (x ∈ l) = true := by simp [h5]
                rw [e5]
                go_wp2
                go_ret
                exact ⟨by rw [unhide R]; rfl, by first | exact unhide b1 | (rw [hD]; exact unhide b1)⟩
              · have e5 : decide (x ∈ l) = false := by simp [h5]
                rw [e5]
                have R2 := hide (show ∀ i, i < k + 1 + 1 → okAt 0 v i ∧ v.getD i 0 ∉ l from fun i hi => by
                  by_cases e : i = k + 1
                  · subst e
                    rw [okAt, if_neg (by omega), show k + 1 - 1 = k from rfl, unhide hx, unhide hy]
                    exact ⟨⟨by omega, by omega⟩, h5⟩
                  · exact unhide hr i (by omega))
                clear e5 h5
                go_wp2
                exact ⟨⟨k + 1 + 1, by omega, by go_num, unhide R2, by first | exact rfl | exact hide trivial⟩, by simp [intOf]; omega⟩
          · have h3' : ¬ ((0 : Int) < (j : Int)) := by omega
            go_wp2_with fail
            refine (in_calls (unhide L) x ln (unhide LN) hlx).mono ?_
            rintro e w2 ⟨rfl, rfl⟩
            by_cases h5 : x ∈ l
            · have R := hide (right_no (v := v) (l := l) (fun ⟨_, _, _, h⟩ => h x (unhide hxm) h5))
              have e5 : decide (x ∈ l) = true := by simp [h5]
              rw [e5]
              go_wp2
              go_ret
              exact ⟨by rw [unhide R]; rfl, by first | exact unhide b1 | (rw [hD]; exact unhide b1)⟩
            · have e5 : decide (x ∈ l) = false := by simp [h5]
              rw [e5]
              have R2 := hide (show ∀ i, i < j + 1 → okAt 0 v i ∧ v.getD i 0 ∉ l from fun i hi => by
                by_cases e : i = j
                · subst e
                  rw [okAt, if_pos (by omega), unhide hx]
                  exact ⟨⟨by omega, by omega⟩, h5⟩
                · exact unhide hr i (by omega))
              clear e5 h5
              go_wp2
              exact ⟨⟨j + 1, by omega, by go_num, unhide R2, by first | exact rfl | exact hide trivial⟩, by simp [intOf]; omega⟩
    · obtain rfl : j = vn := by omega
      have RV := hide (show riseFrom 0 v = true from (rise_iff v 0).2 (fun i hi => (unhide hr i (by rw [← unhide VN]; exact hi)).1))
      have RN := hide (show ∀ x ∈ v, x ∉ l from fun x hx => by
        obtain ⟨i, hi, rfl⟩ := List.getElem_of_mem hx
        rw [← getD_at hi]
        exact (unhide hr i (by rw [← unhide VN]; exact hi)).2)
      clear hr
      go_wp2_with fail
      go_loopw [5] (fun i wr' => ∃ (q : Nat), q ≤ ln ∧ i = .int .i64 (q : Int) ∧ Hid (∀ i, i < q → okAt 0 l i) ∧ Hid (wr' = wr)) (fun i _ => ln - (intOf i).toNat)
      case atStart => exact ⟨0, by omega, rfl, fun i hi => by omega, rfl⟩
      case round =>
        obtain ⟨q, hq, rfl, hr, hw⟩ := hrel
        have hw' := unhide hw
        subst hw'
        by_cases hqm : q < ln
        · have hql : q < l.length := by rw [unhide LN]; exact hqm
          obtain ⟨b, off, rfl, p0⟩ := (unhide L).cell q hql
          have hj0 : (0 : Int) ≤ (q : Int) := by omega
          have hj1 : (q : Int) < (ln : Int) := by omega
          have hx := hide (getD_at hql)
          have hxm := hide (List.getElem_mem hql)
          generalize l[q] = x at *
          by_cases h1 : x < 1
          · have R := hide (right_no (v := v) (l := l) (fun ⟨_, _, h, _⟩ => by have := rise_in l 0 (by omega) h x (unhide hxm); omega))
            go_wp2
            go_ret
            exact ⟨by rw [unhide R]; rfl, by first | exact unhide b1 | (rw [hD]; exact unhide b1)⟩
          · by_cases h2 : 9 < x
            · have R := hide (right_no (v := v) (l := l) (fun ⟨_, _, h, _⟩ => by have := rise_in l 0 (by omega) h x (unhide hxm); omega))
              go_wp2
              go_ret
              exact ⟨by rw [unhide R]; rfl, by first | exact unhide b1 | (rw [hD]; exact unhide b1)⟩
            · by_cases h3 : 0 < q
              · obtain ⟨k, rfl⟩ : ∃ k, q = k + 1 := ⟨q - 1, by omega⟩
                obtain ⟨b', off', e', p1⟩ := (unhide L).cell k (by omega)
                cases e'
                have hy := hide (getD_at (show k < l.length by omega))
                generalize l[k] = y at *
                have hk0 : (0 : Int) ≤ (k : Int) := by omega
                have hk1 : (k : Int) < (ln : Int) := by omega
                have hk2 : (0 : Int) < (k : Int) + 1 := by omega
                have hk3 : (k : Int) + 1 < (ln : Int) := by omega
                by_cases h4 : x ≤ y
                · have R := hide (right_no (v := v) (l := l) (fun ⟨_, _, h, _⟩ => by
                    have := ((rise_iff l 0).1 h (k + 1) hql).1
                    rw [if_neg (by omega), show k + 1 - 1 = k from rfl, unhide hx, unhide hy] at this
                    omega))
                  go_wp2
                  go_ret
                  exact ⟨by rw [unhide R]; rfl, by first | exact unhide b1 | (rw [hD]; exact unhide b1)⟩
                · have R2 := hide (show ∀ i, i < k + 1 + 1 → okAt 0 l i from fun i hi => by
                    by_cases e : i = k + 1
                    · subst e
                      rw [okAt, if_neg (by omega), show k + 1 - 1 = k from rfl, unhide hx, unhide hy]
                      exact ⟨by omega, by omega⟩
                    · exact unhide hr i (by omega))
                  go_wp2
                  exact ⟨⟨k + 1 + 1, by omega, by go_num, unhide R2, by first | exact rfl | exact hide trivial⟩, by simp [intOf]; omega⟩
              · have h3' : ¬ ((0 : Int) < (q : Int)) := by omega
                have R2 := hide (show ∀ i, i < q + 1 → okAt 0 l i from fun i hi => by
                  by_cases e : i = q
                  · subst e
                    rw [okAt, if_pos (by omega), unhide hx]
                    exact ⟨by omega, by omega⟩
                  · exact unhide hr i (by omega))
                go_wp2
                exact ⟨⟨q + 1, by omega, by go_num, unhide R2, by first | exact rfl | exact hide trivial⟩, by simp [intOf]; omega⟩
        · obtain rfl : q = ln := by omega
          have RL := hide (show riseFrom 0 l = true from (rise_iff l 0).2 (fun i hi => unhide hr i (by rw [← unhide LN]; exact hi)))
          have R := hide (show rightM v l = decide (0 < j) by
            by_cases h0 : 0 < j
            · rw [decide_eq_true h0]
              exact (right_iff v l).2 ⟨by rw [unhide VN]; exact h0, unhide RV, unhide RL, unhide RN⟩
            · rw [decide_eq_false h0]
              exact right_no (fun ⟨h, _⟩ => h0 (by rw [← unhide VN]; exact h)))
          by_cases h0 : 0 < j
          · have h0' : (0 : Int) < (j : Int) := by omega
            go_wp2
            go_ret
            exact ⟨by rw [unhide R]; simp [h0], by first | exact unhide b1 | (rw [hD]; exact unhide b1)⟩
          · have h0' : ¬ ((0 : Int) < (j : Int)) := by omega
            go_wp2
            go_ret
            exact ⟨by rw [unhide R]; simp [h0]; try omega, by first | exact unhide b1 | (rw [hD]; exact unhide b1)⟩
end
end Go.Proofs.YtagncghpfdjkmaaGreatDoor
end
/- The document's Quorum, SameInts, Same. -/
section
namespace Go.Proofs.YtagncghpfdjkmaaGreatDoor
open Go.ChangeShapes Go.WideShapes Go.ChangeAt Go.RowKit

section
variable {w : World} {va : Option Addr} {vc : Nat} {v : List Int} {la : Option Addr} {lc : Nat} {l : List Int} {ya : Option Addr} {yc : Nat} {ys : List Int}
set_option maxHeartbeats 4000000 in
theorem sameInts_calls (ha : IntsAt w va v) (hb : IntsAt w la l) (vn ln : Nat) (hvn : v.length = vn) (hln : l.length = ln) (hvx : vn ≤ maxLen) (hlx : ln ≤ maxLen) :
    Calls Tryz.prog 103 #[.slice va vn vc, .slice la ln lc] w fun e w' => e = .returned (.bool (decide (v = l))) ∧ Below w.heap.size w w' := by
  have VN := hide hvn
  have LN := hide hln
  have V := hide ha
  have L := hide hb
  have hvx' := hvx
  have hlx' := hlx
  simp only [maxLen] at hvx' hlx'
  clear hvn hln ha hb
  by_cases hne : vn = ln
  · subst hne
    go_enter Tryz.func103, Tryz.ntmps103
    go_wp2_with fail
    go_loopw [5] (fun i wr => ∃ (j : Nat), j ≤ vn ∧ i = .int .i64 (j : Int) ∧ Hid (v.take j = l.take j) ∧ Hid (Below w.heap.size w wr)) (fun i _ => vn - (intOf i).toNat)
    case atStart => exact ⟨0, by omega, rfl, by simp [Hid], Below.refl _ _⟩
    case round =>
      obtain ⟨j, hj, rfl, hr, F⟩ := hrel
      by_cases hjm : j < vn
      · have hjv : j < v.length := by rw [unhide VN]; exact hjm
        have hjl : j < l.length := by rw [unhide LN]; exact hjm
        obtain ⟨b, off, rfl, p0⟩ := ((unhide V).later (unhide F)).cell j hjv
        obtain ⟨b', off', rfl, p1⟩ := ((unhide L).later (unhide F)).cell j hjl
        have hj0 : (0 : Int) ≤ (j : Int) := by omega
        have hj1 : (j : Int) < (vn : Int) := by omega
        have hT := hide (List.take_succ_eq_append_getElem hjv)
        have hU := hide (List.take_succ_eq_append_getElem hjl)
        have hN := hide (show v[j] ≠ l[j] → v ≠ l from fun h e => h (by subst e; rfl))
        generalize v[j] = x at *
        generalize l[j] = y at *
        go_wp2_with fail
        go_region_held3 (fun w' => w'.cell? ⟨b, off + j, none⟩ = some (.int .i64 x) ∧ w'.cell? ⟨b', off' + j, none⟩ = some (.int .i64 y)) (first | go_keep | exact ⟨p0, p1⟩) (fail)
        have F2 := hide (unhide F).drew
        by_cases hxy : x = y
        · subst hxy
          have R := hide (show v.take (j + 1) = l.take (j + 1) by rw [unhide hT, unhide hU, unhide hr])
          go_wp2
          exact ⟨⟨j + 1, by omega, by go_num, unhide R, unhide F2⟩, by simp [intOf]; omega⟩
        · have R := hide (unhide hN hxy)
          go_wp2
          go_ret
          exact ⟨by simp [unhide R], unhide F2⟩
      · obtain rfl : j = vn := by omega
        have R := hide (show v = l by have := unhide hr; rwa [List.take_of_length_le (by rw [unhide VN]; exact Nat.le_refl _), List.take_of_length_le (by rw [unhide LN]; exact Nat.le_refl _)] at this)
        go_wp2
        go_ret
        exact ⟨by simp [unhide R], unhide F⟩
  · have hne' : ¬ ((vn : Int) = (ln : Int)) := by omega
    have R := hide (show v ≠ l from fun e => hne (by rw [← unhide VN, ← unhide LN, e]))
    go_enter Tryz.func103, Tryz.ntmps103
    go_wp2
    go_ret
    exact ⟨by simp [unhide R], Below.refl _ _⟩
end
section
variable {w : World} {va : Option Addr} {vc : Nat} {v : List Int} {la : Option Addr} {lc : Nat} {l : List Int} {va' : Option Addr} {vc' : Nat} {v' : List Int} {la' : Option Addr} {lc' : Nat} {l' : List Int}
set_option maxRecDepth 20000 in
set_option maxHeartbeats 4000000 in
theorem same_calls (hv : IntsAt w va v) (hl : IntsAt w la l) (hv' : IntsAt w va' v') (hl' : IntsAt w la' l') (vn ln vn' ln' : Nat) (hvn : v.length = vn) (hln : l.length = ln) (hvn' : v'.length = vn') (hln' : l'.length = ln') (hvx : vn ≤ maxLen) (hlx : ln ≤ maxLen) (hvx' : vn' ≤ maxLen) (hlx' : ln' ≤ maxLen) :
    Calls Tryz.prog 57 #[mV va vn vc la ln lc, mV va' vn' vc' la' ln' lc'] w fun e w' => e = .returned (.bool (decide (v = v') && decide (l = l'))) ∧ Below w.heap.size w w' := by
  have b1 := hide (show Below w.heap.size w ((w.alloc (mB va vn vc la ln lc)).alloc (mB va' vn' vc' la' ln' lc')) from ((Below.refl _ _).alloc (Nat.le_refl _) _).alloc (by simp) _)
  have X1 := hide (heap_old (mB va' vn' vc' la' ln' lc') (heap_new w (mB va vn vc la ln lc)))
  have X2 := hide (show ((w.alloc (mB va vn vc la ln lc)).alloc (mB va' vn' vc' la' ln' lc')).heap[w.heap.size + 1]? = some (mB va' vn' vc' la' ln' lc') by
    have := heap_new (w.alloc (mB va vn vc la ln lc)) (mB va' vn' vc' la' ln' lc')
    rwa [World.size_alloc] at this)
  have V := hide (hv.later (unhide b1))
  have L := hide (hl.later (unhide b1))
  have V' := hide (hv'.later (unhide b1))
  have L' := hide (hl'.later (unhide b1))
  have VN := hide hvn
  have LN := hide hln
  have VN' := hide hvn'
  have LN' := hide hln'
  have c0 := box_cell (unhide X1) 0 _ rfl
  have c1 := box_cell (unhide X1) 1 _ rfl
  have d0 := box_cell (unhide X2) 0 _ rfl
  have d1 := box_cell (unhide X2) 1 _ rfl
  clear hv hl hv' hl' hvn hln hvn' hln'
  go_enter Tryz.func57, Tryz.ntmps57
  go_wp2_with fail
  generalize hD : w.heap.size = D at *
  generalize (w.alloc (mB va vn vc la ln lc)).alloc (mB va' vn' vc' la' ln' lc') = w1 at *
  refine (sameInts_calls (unhide V) (unhide V') vn vn' (unhide VN) (unhide VN') hvx hvx').mono ?_
  rintro e w2 ⟨rfl, b2⟩
  have X3 := hide (later_block b2 (unhide X1))
  have X4 := hide (later_block b2 (unhide X2))
  have L2 := hide ((unhide L).later b2)
  have L2' := hide ((unhide L').later b2)
  have B2 := hide ((unhide b1).trans (b2.mono (by have := (unhide b1).size; omega)))
  clear b2 c0 c1 d0 d1
  have c1 := box_cell (unhide X3) 1 _ rfl
  have d1 := box_cell (unhide X4) 1 _ rfl
  by_cases hvv : v = v'
  · have e1 : decide (v = v') = true := by simp [hvv]
    have HV := hide hvv
    rw [e1]
    clear e1 hvv
    go_wp2_with fail
    refine (sameInts_calls (unhide L2) (unhide L2') ln ln' (unhide LN) (unhide LN') hlx hlx').mono ?_
    rintro e w3 ⟨rfl, b3⟩
    have B3 := hide ((unhide B2).trans (b3.mono (by have := (unhide B2).size; omega)))
    clear b3
    go_wp2
    go_ret
    exact ⟨by simp [unhide HV], by first | exact unhide B3 | (rw [hD]; exact unhide B3)⟩
  · have e1 : decide (v = v') = false := by simp [hvv]
    have HV := hide hvv
    rw [e1]
    clear e1 hvv
    go_wp2
    go_ret
    exact ⟨by simp [unhide HV], by first | exact unhide B2 | (rw [hD]; exact unhide B2)⟩
end
end Go.Proofs.YtagncghpfdjkmaaGreatDoor
end
/- Regions that draw their order, walked operation by operation, with operations that are not wanted. -/
section
namespace Go.Proofs.YtagncghpfdjkmaaGreatDoor
open Go.RowKit

section
variable {P : Program} {md : Region.Mode} {ops : Array Oper} {Q : Exit → Act → World → Prop} {S : World → Prop}
/-- An operation that is wanted and yields its value in every world that meets S. -/
theorem held_take (i : Nat) {oi : Oper} {v : Value} {fuel : Nat} {listed : Array Bool} {a : Act} {w : World} (hr : (Region.ready md ops listed).contains i = true) (hi : ops[i]? = some oi)
    (hw : Region.wanted oi (yielded ops a.tmps) = true) (hs : Region.noSelect ops = true) (hf : Region.free md ops listed i = true)
    (hQ : ∀ c a w, Q (.panic c) (a.put oi.dst v) w → Q (.panic c) a w) (hy : ∀ w, S w → (execOp a.eval oi).run P w = .ok (.value v) w) (hS : S w)
    (h : wpAnyH P md ops Q S fuel (listed.setIfInBounds i true) (a.put oi.dst v) w) : wpAnyH P md ops Q S (fuel + 1) listed a w :=
  wpAnyH_take hi hs hf hr hQ (Or.inl ⟨hw, hy⟩) hS h
/-- An operation that is not wanted. -/
theorem held_skip (i : Nat) {oi : Oper} {fuel : Nat} {listed : Array Bool} {a : Act} {w : World} (hr : (Region.ready md ops listed).contains i = true) (hi : ops[i]? = some oi)
    (hw : Region.wanted oi (yielded ops a.tmps) = false) (hs : Region.noSelect ops = true) (hf : Region.free md ops listed i = true)
    (hQ : ∀ c a w, Q (.panic c) (a.put oi.dst undef) w → Q (.panic c) a w) (hS : S w)
    (h : wpAnyH P md ops Q S fuel (listed.setIfInBounds i true) (a.put oi.dst undef) w) : wpAnyH P md ops Q S (fuel + 1) listed a w :=
  wpAnyH_take hi hs hf hr hQ (Or.inr ⟨hw, rfl⟩) hS h
/-- The one operation that may come up. -/
theorem held_one (i : Nat) {oi : Oper} {fuel : Nat} {listed : Array Bool} {a : Act} {w : World} (hr : Region.ready md ops listed = [i]) (hi : ops[i]? = some oi)
    (h : ∀ K' : Act → World → Prop, Shut (∀ a w, S w → (S w → wpAnyH P md ops Q S fuel (listed.setIfInBounds i true) a w) → K' a w) → if Region.wanted oi (yielded ops a.tmps) = true then Oper.wp P oi a w K' Q else K' (a.put oi.dst undef) w) :
    wpAnyH P md ops Q S (fuel + 1) listed a w :=
  wpAnyH_ready hr (by simp) (AllReadyH.cons hi h AllReadyH.nil)
/-- The one operation that may come up, and is not wanted. -/
theorem held_none (i : Nat) {oi : Oper} {fuel : Nat} {listed : Array Bool} {a : Act} {w : World} (hr : Region.ready md ops listed = [i]) (hi : ops[i]? = some oi)
    (hw : Region.wanted oi (yielded ops a.tmps) = false) (hS : S w)
    (h : wpAnyH P md ops Q S fuel (listed.setIfInBounds i true) (a.put oi.dst undef) w) : wpAnyH P md ops Q S (fuel + 1) listed a w :=
  held_one i hr hi (fun K' hK => by rw [hw]; exact hK.out _ _ hS (fun _ => h))
end
end Go.Proofs.YtagncghpfdjkmaaGreatDoor
end
/- The document's Copy of members. -/
section
namespace Go.Proofs.YtagncghpfdjkmaaGreatDoor
open Go.ChangeShapes Go.WideShapes Go.ChangeAt Go.RowKit

theorem mbox_free {w : World} {j : Nat} {cs : Array Value} {T : TypeId} (h : w.heap[j]? = some (.cells cs T (0, 0))) (f : Nat) : w.frozen? ⟨j, f, none⟩ = false := by
  simp [World.frozen?, h]
/-- Two own slices that lie apart. -/
def Apart (a b : Option Addr) : Prop := ∀ g, blk a = some g → blk b ≠ some g
theorem Apart.none_left (b : Option Addr) : Apart none b := fun g h => by cases h
theorem Apart.left {base : Nat} {u u' : World} {s s' b : Option Addr} {c : Nat} {l : List Int} (h : Apart s b) (gw : Grew u s u' s') (ob : OwnI base u b c l) : Apart s' b := fun g hg hb =>
  (gw.lies g hg).elim (fun h1 => h g h1 hb) (fun h1 => by have := (ob.blk_lt g hb).2; omega)
theorem Apart.right {base : Nat} {u u' : World} {s s' a : Option Addr} {c : Nat} {l : List Int} (h : Apart a s) (gw : Grew u s u' s') (oa : OwnI base u a c l) : Apart a s' := fun g hg hb =>
  (gw.lies g hb).elim (fun h1 => h g hg h1) (fun h1 => by have := (oa.blk_lt g hg).2; omega)
theorem OwnI.stayB {base : Nat} {u u' : World} {s s' b : Option Addr} {c : Nat} {l : List Int} (ob : OwnI base u b c l) (h : Apart s b) (gw : Grew u s u' s') : OwnI base u' b c l := ob.kept gw.grown (fun g hg e => h g e hg)
theorem OwnI.stayA {base : Nat} {u u' : World} {s s' a : Option Addr} {c : Nat} {l : List Int} (oa : OwnI base u a c l) (h : Apart a s) (gw : Grew u s u' s') : OwnI base u' a c l := oa.kept gw.grown (fun g hg e => h g hg e)
theorem two_sets {u : World} {j : Nat} {x y : Value} {T : TypeId} (h : u.heap[j]? = some (.cells #[x, y] T (0, 0))) (a b : Value) : ∃ W, W.cell? ⟨j, 0, none⟩ = some a ∧ W.cell? ⟨j, 1, none⟩ = some b ∧ u.grownBy W (some j) ∧ (u.setCell ⟨j, 0, none⟩ a).setCell ⟨j, 1, none⟩ b = W := by
  have h1 := heap_setCell_same u j 0 _ T a h
  have h2 := heap_setCell_same _ j 1 _ T b h1
  refine ⟨_, ?_, ?_, grown_trans (grown_set u j 0 a) (grown_set _ j 1 b), rfl⟩
  · rw [cell_of_row _ _ _ _ _ _ h2]; rfl
  · rw [cell_of_row _ _ _ _ _ _ h2]; rfl
section
variable {w : World} {va : Option Addr} {vc : Nat} {v : List Int} {la : Option Addr} {lc : Nat} {l : List Int}
end
end Go.Proofs.YtagncghpfdjkmaaGreatDoor
end
