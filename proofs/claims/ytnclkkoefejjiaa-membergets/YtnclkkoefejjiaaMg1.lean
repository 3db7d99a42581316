/- Member: lists of numbers, members and changes out of bytes. -/
import Derived.Test.YtnclkkoefejjiaaMp2
import Derived.Test.YtnclkkoefejjiaaWtak
import Derived.Test.YtnclkkoefejjiaaTent
namespace Go.Proofs.Ytnclkkoefejjiaa
open Go.ChangeShapes Go.WideShapes Go.ChangeAt Go.RowKit

/-- So many numbers from a place on, and where they end. -/
def numsE (l : List Nat) : Nat → Nat → Except Nat (List Int × Nat)
  | 0, k => .ok ([], k)
  | c + 1, k => match takeE l k with
    | .error x => .error x
    | .ok (n, k2) => match numsE l c k2 with
      | .error x => .error x
      | .ok (r, k3) => .ok ((n : Int) :: r, k3)
def prepE (acc : List Int) : Except Nat (List Int × Nat) → Except Nat (List Int × Nat)
  | .error x => .error x
  | .ok (r, k) => .ok (acc ++ r, k)
theorem prep_step {l : List Nat} {c k n k2 : Nat} (acc : List Int) (h : takeE l k = .ok (n, k2)) : prepE acc (numsE l (c + 1) k) = prepE (acc ++ [(n : Int)]) (numsE l c k2) := by
  rw [numsE, h]
  simp only
  cases numsE l c k2 with
  | error x => rfl
  | ok r => obtain ⟨r, k3⟩ := r; simp [prepE]
theorem prep_bad {l : List Nat} {c k x : Nat} (acc : List Int) (h : takeE l k = .error x) : prepE acc (numsE l (c + 1) k) = .error x := by
  rw [numsE, h]
  rfl
theorem takeE_ok {l : List Nat} {k n k2 : Nat} (h : takeE l k = .ok (n, k2)) : takeN l k = (0, n, k2) := by
  unfold takeE at h
  split at h
  · rename_i h0
    simp only [Except.ok.injEq, Prod.mk.injEq] at h
    exact Prod.ext h0 (Prod.ext h.1 h.2)
  · cases h
theorem takeE_err {l : List Nat} {k x : Nat} (h : takeE l k = .error x) : (takeN l k).1 = x ∧ x ≠ 0 := by
  unfold takeE at h
  split at h
  · cases h
  · rename_i h0
    simp only [Except.error.injEq] at h
    exact ⟨h, fun e => h0 (h.trans e)⟩
/-- How a reader of numbers ends. -/
def NumRes (r : Except Nat (List Int × Nat)) (top base : Nat) (e : Ending) (w' : World) : Prop := match r with
  | .ok (xs, k) => ∃ sp n c, e = .returned (.tuple #[.slice sp n c, .int .i64 (k : Int), .int .i64 0]) ∧ xs.length = n ∧ OwnI base w' sp c xs ∧ k ≤ top
  | .error x => e = .returned (.tuple #[.slice none 0 0, .int .i64 0, .int .i64 (x : Int)]) ∧ x ≠ 0
section
variable {w : World} {a : Option Addr} {c : Nat} {l : List Nat}
set_option maxRecDepth 20000 in
set_option maxHeartbeats 8000000 in
theorem takeNumbers_calls (hb : BytesAt w a l) (m : Nat) (hm : l.length = m) (hx : m ≤ maxLen) (k count : Nat) (hk : k ≤ l.length) (hc : count ≤ 9) :
    Calls Try.prog 64 #[.slice a m c, .int .i64 (k : Int), .int .i64 (count : Int)] w fun e w' => NumRes (numsE l count k) l.length w.heap.size e w' ∧ Below w.heap.size w w' := by
  have HB := hide hb
  have HM := hide hm
  have HK := hide hk
  have HX := hide (show l.length ≤ maxLen by omega)
  clear hb hm hk
  go_enter Try.func64, Try.ntmps64
  go_wp2_with fail
  go_loopw [1, 9, 14] (fun p s i wr => ∃ (j n c at_ : Nat) (sp : Option Addr) (acc : List Int), j ≤ count ∧ p = .int .i64 (at_ : Int) ∧ s = .slice sp n c ∧ i = .int .i64 (j : Int) ∧ Hid (acc.length = n) ∧ Hid (n = j) ∧ Hid (at_ ≤ l.length) ∧ Hid (numsE l count k = prepE acc (numsE l (count - j) at_)) ∧ Hid (OwnI w.heap.size wr sp c acc) ∧ Hid (Below w.heap.size w wr)) (fun _ _ i _ => count - (intOf i).toNat)
  case atStart =>
    refine ⟨0, 0, 0, k, none, [], by omega, rfl, rfl, rfl, rfl, rfl, unhide HK, ?_, OwnI.ofNil _ _, Below.refl _ _⟩
    show _ = _
    rw [Nat.sub_zero]
    cases numsE l count k with
    | error x => rfl
    | ok r => obtain ⟨r, q⟩ := r; simp [prepE]
  case round =>
    obtain ⟨j, n, c2, p, sp, acc, hj, rfl, rfl, rfl, hn, hnj, hp, hE, ho, hB⟩ := hrel
    by_cases hjm : j < count
    · have hj1 : (j : Int) < (count : Int) := by omega
      have hsub := hide (show count - j = (count - (j + 1)) + 1 by omega)
      cases ht : takeE l p with
      | error x =>
        obtain ⟨t1, t2⟩ := takeE_err ht
        have R := hide (show numsE l count k = .error x by rw [unhide hE, unhide hsub]; exact prep_bad acc ht)
        go_wp2_with fail
        refine (take_bad a m c l p x (p : Int) _ (unhide HM) rfl (unhide HX) (unhide hp) ((unhide HB).later (unhide hB)) t1 t2).mono ?_
        rintro e w2 ⟨rfl, b2⟩
        have B2 := hide ((unhide hB).trans (b2.mono (unhide hB).size))
        have hx0 : ¬ ((x : Int) = 0) := by omega
        clear b2
        go_wp2
        go_ret3
        exact ⟨by rw [unhide R]; exact ⟨rfl, t2⟩, unhide B2⟩
      | ok r =>
        obtain ⟨y, q⟩ := r
        have TQ := hide (takeE_back (unhide HB).lt ht).2.2.1
        have ty := (takeE_back (unhide HB).lt ht).2.2.2
        have R := hide (show numsE l count k = prepE (acc ++ [(y : Int)]) (numsE l (count - (j + 1)) q) by rw [unhide hE, unhide hsub]; exact prep_step acc ht)
        go_wp2_with fail
        refine (take_ok a m c l p y q (p : Int) _ (unhide HM) rfl (unhide HX) (unhide hp) ((unhide HB).later (unhide hB)) (takeE_ok ht)).mono ?_
        rintro e w2 ⟨rfl, b2⟩
        have B2 := hide ((unhide hB).trans (b2.mono (unhide hB).size))
        have O2 := hide ((unhide ho).later b2)
        clear b2
        go_wp2_with (at_builtin; refine unhide ?_)
        refine hide ?_
        have ba : Below w2.heap.size w2 (w2.alloc (.cells #[.int .i64 (y : Int)] 3)) := (Below.refl _ _).alloc (Nat.le_refl _) _
        have hs2 : w.heap.size ≤ (w2.alloc (.cells #[.int .i64 (y : Int)] 3)).heap.size := Nat.le_trans (unhide B2).size ba.size
        refine wpList_appendI rfl (.tmp 26) (.tmp 28) rfl w.heap.size sp n c2 acc rfl (unhide hn) ((unhide O2).later ba) (some ⟨w2.heap.size, 0, none⟩) 1 1 rfl [(y : Int)] rfl (ints_one (heap_new _ _) (by omega)) (fun h => by cases h) (by have := unhide hn; have := unhide hnj; omega) hs2 ?_
        intro sp3 n3 k3 w3 hn3 o3 g3
        have O3 := hide o3
        have N3 := hide (unhide hn3)
        have J3 := hide (show n3 = j + 1 by rw [← unhide hn3, List.length_append, unhide hn, unhide hnj]; rfl)
        have B3 := hide ((unhide B2).trans ((ba.mono (unhide B2).size).trans (GrewI.below g3 ((unhide O2).later ba) hs2)))
        clear o3 g3 hn3 ba hs2
        go_wp2
        exact ⟨⟨j + 1, n3, k3, q, sp3, acc ++ [(y : Int)], by omega, rfl, rfl, by go_num, unhide N3, unhide J3, unhide TQ, unhide R, unhide O3, unhide B3⟩, by simp [intOf]; omega⟩
    · obtain rfl : j = count := by omega
      have R := hide (show numsE l j k = .ok (acc, p) by rw [unhide hE, Nat.sub_self]; simp [numsE, prepE])
      go_wp2
      go_ret3
      exact ⟨by rw [unhide R]; exact ⟨sp, n, c2, rfl, unhide hn, unhide ho, unhide hp⟩, unhide hB⟩
def listE (l : List Nat) (k : Nat) : Except Nat (List Int × Nat) := match takeE l k with
  | .error x => .error x
  | .ok (n, k2) => if 9 < n then .error 4 else numsE l n k2
set_option maxRecDepth 20000 in
set_option maxHeartbeats 4000000 in
theorem takeList_calls (hb : BytesAt w a l) (m : Nat) (hm : l.length = m) (hx : m ≤ maxLen) (k : Nat) (hk : k ≤ l.length) :
    Calls Try.prog 62 #[.slice a m c, .int .i64 (k : Int)] w fun e w' => NumRes (listE l k) l.length w.heap.size e w' ∧ Below w.heap.size w w' := by
  have HB := hide hb
  have HM := hide hm
  have HK := hide hk
  have HX := hide (show l.length ≤ maxLen by omega)
  clear hb hm hk
  cases ht : takeE l k with
  | error x =>
    obtain ⟨t1, t2⟩ := takeE_err ht
    have R := hide (show listE l k = .error x by rw [listE, ht])
    have hx0 : ¬ ((x : Int) = 0) := by omega
    clear ht
    go_enter Try.func62, Try.ntmps62
    go_wp2_with fail
    refine (take_bad a m c l k x (k : Int) _ (unhide HM) rfl (unhide HX) (unhide HK) (unhide HB) t1 t2).mono ?_
    rintro e w2 ⟨rfl, b2⟩
    have B2 := hide b2
    clear b2
    go_wp2
    go_ret3
    exact ⟨by rw [unhide R]; exact ⟨rfl, t2⟩, unhide B2⟩
  | ok r =>
    obtain ⟨y, q⟩ := r
    have TQ := hide (takeE_back (unhide HB).lt ht).2.2.1
    have ty := (takeE_back (unhide HB).lt ht).2.2.2
    have TN := hide (takeE_ok ht)
    have LE := hide (show listE l k = if 9 < y then .error 4 else numsE l y q by rw [listE, ht])
    clear ht
    go_enter Try.func62, Try.ntmps62
    go_wp2_with fail
    refine (take_ok a m c l k y q (k : Int) _ (unhide HM) rfl (unhide HX) (unhide HK) (unhide HB) (unhide TN)).mono ?_
    rintro e w2 ⟨rfl, b2⟩
    have B2 := hide b2
    clear b2
    by_cases h9 : 9 < y
    · have h9' : (9 : Int) < (y : Int) := by omega
      have R := hide (show listE l k = .error 4 by rw [unhide LE, if_pos h9])
      go_wp2
      go_ret3
      exact ⟨by rw [unhide R]; exact ⟨rfl, by decide⟩, unhide B2⟩
    · have h9' : ¬ ((9 : Int) < (y : Int)) := by omega
      have R := hide (show listE l k = numsE l y q by rw [unhide LE, if_neg h9])
      go_wp2_with fail
      refine (takeNumbers_calls ((unhide HB).later (unhide B2)) m (unhide HM) hx q y (unhide TQ) (by omega)).mono ?_
      rintro e w3 ⟨hres, b3⟩
      have B3 := hide ((unhide B2).trans (b3.mono (unhide B2).size))
      have S2 := hide (unhide B2).size
      clear b3
      unfold NumRes at hres
      cases hn : numsE l y q with
      | error x =>
        rw [hn] at hres
        obtain ⟨rfl, hx0⟩ := hres
        go_wp2
        go_ret3
        exact ⟨by rw [unhide R, hn]; exact ⟨rfl, hx0⟩, unhide B3⟩
      | ok r =>
        obtain ⟨xs, k3⟩ := r
        rw [hn] at hres
        obtain ⟨sp, n3, c3, rfl, h1, h2, h3⟩ := hres
        have O3 := hide h2
        have H1 := hide h1
        have H3 := hide h3
        clear h1 h2 h3
        go_wp2
        go_ret3
        exact ⟨by rw [unhide R, hn]; exact ⟨sp, n3, c3, rfl, unhide H1, (unhide O3).mono (unhide S2), unhide H3⟩, unhide B3⟩
def getE (l : List Nat) : Except Nat (List Int × List Int) := match listE l 0 with
  | .error x => .error x
  | .ok (v, k) => match listE l k with
    | .error x => .error x
    | .ok (r, k2) => if k2 = l.length then (if rightM v r then .ok (v, r) else .error 4) else .error 4
/-- How a reader of members ends. -/
def GetRes (r : Except Nat (List Int × List Int)) (base : Nat) (e : Ending) (w' : World) : Prop := match r with
  | .ok (v, l) => ∃ spA nA cA spB nB cB, e = .returned (.tuple #[mV spA nA cA spB nB cB, .int .i64 0]) ∧ v.length = nA ∧ l.length = nB ∧ OwnI base w' spA cA v ∧ OwnI base w' spB cB l
  | .error x => e = .returned (.tuple #[mV none 0 0 none 0 0, .int .i64 (x : Int)]) ∧ x ≠ 0
set_option maxRecDepth 20000 in
set_option maxHeartbeats 8000000 in
theorem mget_calls (hb : BytesAt w a l) (m : Nat) (hm : l.length = m) (hx : m ≤ maxLen) :
    Calls Try.prog 37 #[.slice a m c] w fun e w' => GetRes (getE l) w.heap.size e w' ∧ Below w.heap.size w w' := by
  have HM := hide hm
  have b1 := hide (show Below w.heap.size w (w.alloc (mB none 0 0 none 0 0)) from (Below.refl _ _).alloc (Nat.le_refl _) _)
  have Y1 := hide (heap_new w (mB none 0 0 none 0 0))
  have HB := hide (hb.later (unhide b1))
  have ZE := hide (show (w.alloc (mB none 0 0 none 0 0)).heap.size = w.heap.size + 1 by simp)
  clear hb hm
  go_enter Try.func37, Try.ntmps37
  go_wp2_with fail
  generalize hD : w.heap.size = D at *
  generalize w.alloc (mB none 0 0 none 0 0) = w1 at *
  have DONE := hide (show ∀ (u : World), Below w1.heap.size w1 u → ∃ W, W.cell? ⟨D, 0, none⟩ = some (.slice none 0 0) ∧ W.cell? ⟨D, 1, none⟩ = some (.slice none 0 0) ∧ Below D w W ∧ (u.setCell ⟨D, 0, none⟩ (.slice none 0 0)).setCell ⟨D, 1, none⟩ (.slice none 0 0) = W ∧ u.cell? ⟨D, 0, none⟩ = some (.slice none 0 0) ∧ u.cell? ⟨D, 1, none⟩ = some (.slice none 0 0) ∧ u.frozen? ⟨D, 0, none⟩ = false ∧ u.frozen? ⟨D, 1, none⟩ = false from fun u F => by
    have Y := later_block F (unhide Y1)
    obtain ⟨W, y0, y1, gW, hW⟩ := two_sets Y (.slice none 0 0) (.slice none 0 0)
    exact ⟨W, y0, y1, (unhide b1).trans (Below.grown (F.mono (by have := unhide ZE; omega) : Below D w1 u) gW (by have := F.size; have := unhide ZE; omega) (fun g e => by have := Option.some.inj e; omega)), hW, box_cell Y 0 _ rfl, box_cell Y 1 _ rfl, mbox_free Y 0, mbox_free Y 1⟩)
  refine (takeList_calls (unhide HB) m (unhide HM) hx 0 (Nat.zero_le _)).mono ?_
  rintro e w2 ⟨hres, b2⟩
  have F2 := hide b2
  clear b2
  unfold NumRes at hres
  cases h1 : listE l 0 with
  | error x =>
    rw [h1] at hres
    obtain ⟨rfl, hx0⟩ := hres
    have R := hide (show getE l = .error x by rw [getE, h1])
    have hx0' : ¬ ((x : Int) = 0) := by omega
    obtain ⟨W, y0, y1, bW, hW, z0, z1, z2, z3⟩ := unhide DONE w2 (unhide F2)
    have HW := hide hW
    clear hW
    go_wp2_with fail
    rw [unhide HW]
    go_wp2
    refine bodyPost_ret (v := .tuple #[mV none 0 0 none 0 0, .int .i64 (x : Int)]) (by simp [results, Try.results37, go_sem, y0, y1]) rfl ?_
    exact ⟨by rw [unhide R]; exact ⟨rfl, hx0⟩, by first | exact bW | (rw [hD]; exact bW)⟩
  | ok r =>
    obtain ⟨v, k⟩ := r
    rw [h1] at hres
    obtain ⟨spA, nA, cA, rfl, hnA, oA, hk⟩ := hres
    have NA := hide hnA
    have OA := hide oA
    have K2 := hide hk
    clear hnA oA hk
    go_wp2_with fail
    refine (takeList_calls ((unhide HB).later (unhide F2)) m (unhide HM) hx k (unhide K2)).mono ?_
    rintro e w3 ⟨hres, b3⟩
    have F3 := hide ((unhide F2).trans (b3.mono (unhide F2).size))
    have OA3 := hide ((unhide OA).later b3)
    have S2 := hide (unhide F2).size
    clear b3
    unfold NumRes at hres
    cases h2 : listE l k with
    | error x =>
      rw [h2] at hres
      obtain ⟨rfl, hx0⟩ := hres
      have R := hide (show getE l = .error x by rw [getE, h1]; simp only; rw [h2])
      have hx0' : ¬ ((x : Int) = 0) := by omega
      obtain ⟨W, y0, y1, bW, hW, z0, z1, z2, z3⟩ := unhide DONE w3 (unhide F3)
      have HW := hide hW
      clear hW
      go_wp2_with fail
      rw [unhide HW]
      go_wp2
      refine bodyPost_ret (v := .tuple #[mV none 0 0 none 0 0, .int .i64 (x : Int)]) (by simp [results, Try.results37, go_sem, y0, y1]) rfl ?_
      exact ⟨by rw [unhide R]; exact ⟨rfl, hx0⟩, by first | exact bW | (rw [hD]; exact bW)⟩
    | ok r =>
      obtain ⟨r, q⟩ := r
      rw [h2] at hres
      obtain ⟨spB, nB, cB', rfl, hnB, oB, hq⟩ := hres
      have NB := hide hnB
      have OB3 := hide oB
      have GE := hide (show getE l = if q = m then (if rightM v r then .ok (v, r) else .error 4) else .error 4 by rw [getE, h1]; simp only; rw [h2]; simp only; rw [unhide HM])
      have b4 := hide (show Below w3.heap.size w3 (w3.alloc (mB spA nA cA spB nB cB')) from (Below.refl _ _).alloc (Nat.le_refl _) _)
      have Z4 := hide (heap_new w3 (mB spA nA cA spB nB cB'))
      have F4 := hide ((unhide F3).trans ((unhide b4).mono (unhide F3).size))
      have OA4 := hide ((unhide OA3).later (unhide b4))
      have OB4 := hide ((unhide OB3).later (unhide b4))
      have S3 := hide (show w1.heap.size ≤ w2.heap.size from unhide S2)
      have z4 := box_cell (unhide Z4) 0 _ rfl
      have z5 := box_cell (unhide Z4) 1 _ rfl
      clear hnB oB h1 h2 hq
      by_cases hqm : q = m
      · subst hqm
        have mA : nA ≤ maxLen := by
          have h1 := (unhide OA4).cap
          rw [unhide NA] at h1
          exact Nat.le_trans h1.1 h1.2
        have mB' : nB ≤ maxLen := by
          have h1 := (unhide OB4).cap
          rw [unhide NB] at h1
          exact Nat.le_trans h1.1 h1.2
        go_wp2_with fail
        generalize hX : w3.heap.size = X at *
        generalize w3.alloc (mB spA nA cA spB nB cB') = w4 at *
        refine (right_calls (unhide OA4).ints (unhide OB4).ints nA nB (unhide NA) (unhide NB) mA mB').mono ?_
        rintro e w5 ⟨rfl, b5⟩
        have F5 := hide ((unhide F4).trans (b5.mono (unhide F4).size))
        have Z5 := hide (later_block b5 (unhide Z4))
        have OA5 := hide ((unhide OA4).later b5)
        have OB5 := hide ((unhide OB4).later b5)
        clear b5 z4 z5
        have z4 := box_cell (unhide Z5) 0 _ rfl
        have z5 := box_cell (unhide Z5) 1 _ rfl
        cases hr : rightM v r
        · have R := hide (show getE l = .error 4 by rw [unhide GE]; simp [hr])
          obtain ⟨W, y0, y1, bW, hW, z0, z1, z2, z3⟩ := unhide DONE w5 (unhide F5)
          have HW := hide hW
          clear hW
          go_wp2_with fail
          rw [unhide HW]
          go_wp2
          refine bodyPost_ret (v := .tuple #[mV none 0 0 none 0 0, .int .i64 4]) (by simp [results, Try.results37, go_sem, y0, y1]) rfl ?_
          exact ⟨by rw [unhide R]; exact ⟨rfl, by decide⟩, by first | exact bW | (rw [hD]; exact bW)⟩
        · have R := hide (show getE l = .ok (v, r) by rw [unhide GE]; simp [hr])
          have Y5 := hide (later_block (unhide F5) (unhide Y1))
          obtain ⟨W, y0, y1, gW, hW⟩ := two_sets (unhide Y5) (.slice spA nA cA) (.slice spB nB cB')
          have HW := hide hW
          have z0 := box_cell (unhide Y5) 0 _ rfl
          have z1 := box_cell (unhide Y5) 1 _ rfl
          have z2 := mbox_free (unhide Y5) 0
          have z3 := mbox_free (unhide Y5) 1
          have OAW := hide ((unhide OA5).kept gW (fun g hg e => by have h1 := ((unhide OA5).blk_lt g hg).1; have h2 := Option.some.inj e; have h3 := unhide ZE; omega))
          have OBW := hide ((unhide OB5).kept gW (fun g hg e => by have h1 := ((unhide OB5).blk_lt g hg).1; have h2 := Option.some.inj e; have h3 := unhide ZE; have h4 := unhide S3; omega))
          have bW := hide ((unhide b1).trans (Below.grown ((unhide F5).mono (by have := unhide ZE; omega) : Below D w1 _) gW (by have := (unhide F5).size; have := unhide ZE; omega) (fun g e => by have := Option.some.inj e; omega)))
          clear hW gW
          go_wp2_with fail
          rw [unhide HW]
          go_wp2
          refine bodyPost_ret (v := .tuple #[mV spA nA cA spB nB cB', .int .i64 0]) (by simp [results, Try.results37, go_sem, y0, y1]) rfl ?_
          refine ⟨?_, by first | exact unhide bW | (rw [hD]; exact unhide bW)⟩
          rw [unhide R]
          exact ⟨spA, nA, cA, spB, nB, cB', rfl, unhide NA, unhide NB, (unhide OAW).mono (by have h3 := unhide ZE; omega), (unhide OBW).mono (by have h3 := unhide ZE; have h4 := unhide S3; omega)⟩
      · have hqm' : ¬ ((q : Int) = (m : Int)) := by omega
        have R := hide (show getE l = .error 4 by rw [unhide GE, if_neg hqm])
        obtain ⟨W, y0, y1, bW, hW, z0, z1, z2, z3⟩ := unhide DONE _ (unhide F4)
        have HW := hide hW
        clear hW
        go_wp2_with fail
        rw [unhide HW]
        go_wp2
        refine bodyPost_ret (v := .tuple #[mV none 0 0 none 0 0, .int .i64 4]) (by simp [results, Try.results37, go_sem, y0, y1]) rfl ?_
        exact ⟨by rw [unhide R]; exact ⟨rfl, by decide⟩, by first | exact bW | (rw [hD]; exact bW)⟩
end
end Go.Proofs.Ytnclkkoefejjiaa
