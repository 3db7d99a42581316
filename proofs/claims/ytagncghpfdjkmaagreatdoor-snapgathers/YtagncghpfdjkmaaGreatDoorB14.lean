/- Member: lists of numbers, members and changes out of bytes. -/
import Derived.Test.YtagncghpfdjkmaaGreatDoorB12
import Derived.Test.YtagncghpfdjkmaaGreatDoorB13
import Derived.Laws.BitsAllLaws
import Derived.Test.YtagncghpfdjkmaaGreatDoorB01
import Derived.WalkKit
import Derived.ProofKit
import Derived.OpenShut
import Derived.Below
import Derived.WalkLawsBesides
import Derived.WalkSpells
import Derived.Outline
section
namespace Go.Proofs.YtagncghpfdjkmaaGreatDoor
open Go.ChangeShapes Go.WideShapes Go.ChangeAt Go.RowKit

/-- So many numbers from a place on, and where they end. -/
def numsE (l : List Nat) : Nat → Nat → Except Nat (List Int × Nat)
  | 0, k => .ok ([], k)
  | c + 1, k => match takeE l k with
    | .error x => .error x
    | .ok (n, k2) => match numsE l c k2 with
      | .error x => .error x
      | .ok (r, k3) => .ok ((n : Int) :: r, k3)
def prepE (acc : List Int) : Except Nat (List Int × Nat) → Except Nat (List Int × Nat)
  | .error x => .error x
  | .ok (r, k) => .ok (acc ++ r, k)
theorem prep_step {l : List Nat} {c k n k2 : Nat} (acc : List Int) (h : takeE l k = .ok (n, k2)) : prepE acc (numsE l (c + 1) k) = prepE (acc ++ [(n : Int)]) (numsE l c k2) := by
  rw [numsE, h]
  simp only
  cases numsE l c k2 with
  | error x => rfl
  | ok r => obtain ⟨r, k3⟩ := r; simp [prepE]
theorem prep_bad {l : List Nat} {c k x : Nat} (acc : List Int) (h : takeE l k = .error x) : prepE acc (numsE l (c + 1) k) = .error x := by
  rw [numsE, h]
  rfl
theorem takeE_ok {l : List Nat} {k n k2 : Nat} (h : takeE l k = .ok (n, k2)) : takeN l k = (0, n, k2) := by
  unfold takeE at h
  split at h
  · rename_i h0
    simp only [Except.ok.injEq, Prod.mk.injEq] at h
    exact Prod.ext h0 (Prod.ext h.1 h.2)
  · cases h
theorem takeE_err {l : List Nat} {k x : Nat} (h : takeE l k = .error x) : (takeN l k).1 = x ∧ x ≠ 0 := by
  unfold takeE at h
  split at h
  · cases h
  · rename_i h0
    simp only [Except.error.injEq] at h
    exact ⟨h, fun e => h0 (h.trans e)⟩
/-- How a reader of numbers ends. -/
def NumRes (r : Except Nat (List Int × Nat)) (top base : Nat) (e : Ending) (w' : World) : Prop := match r with
  | .ok (xs, k) => ∃ sp n c, e = .returned (.tuple #[.slice sp n c, .int .i64 (k : Int), .int .i64 0]) ∧ xs.length = n ∧ OwnI base w' sp c xs ∧ k ≤ top
  | .error x => e = .returned (.tuple #[.slice none 0 0, .int .i64 0, .int .i64 (x : Int)]) ∧ x ≠ 0
section
variable {w : World} {a : Option Addr} {c : Nat} {l : List Nat}
set_option maxRecDepth 20000 in
set_option maxHeartbeats 8000000 in
theorem takeNumbers_calls (hb : BytesAt w a l) (m : Nat) (hm : l.length = m) (hx : m ≤ maxLen) (k count : Nat) (hk : k ≤ l.length) (hc : count ≤ 9) :
    Calls Tryz.prog 153 #[.slice a m c, .int .i64 (k : Int), .int .i64 (count : Int)] w fun e w' => NumRes (numsE l count k) l.length w.heap.size e w' ∧ Below w.heap.size w w' := by
  have HB := hide hb
  have HM := hide hm
  have HK := hide hk
  have HX := hide (show l.length ≤ maxLen by omega)
  clear hb hm hk
  go_enter Tryz.func153, Tryz.ntmps153
  go_wp2_with fail
  go_loopw [1, 9, 14] (fun p s i wr => ∃ (j n c at_ : Nat) (sp : Option Addr) (acc : List Int), j ≤ count ∧ p = .int .i64 (at_ : Int) ∧ s = .slice sp n c ∧ i = .int .i64 (j : Int) ∧ Hid (acc.length = n) ∧ Hid (n = j) ∧ Hid (at_ ≤ l.length) ∧ Hid (numsE l count k = prepE acc (numsE l (count - j) at_)) ∧ Hid (OwnI w.heap.size wr sp c acc) ∧ Hid (Below w.heap.size w wr)) (fun _ _ i _ => count - (intOf i).toNat)
  case atStart =>
    refine ⟨0, 0, 0, k, none, [], by omega, rfl, rfl, rfl, rfl, rfl, unhide HK, ?_, OwnI.ofNil _ _, Below.refl _ _⟩
    show _ = _
    rw [Nat.sub_zero]
    cases numsE l count k with
    | error x => rfl
    | ok r => obtain ⟨r, q⟩ := r; simp [prepE]
  case round =>
    obtain ⟨j, n, c2, p, sp, acc, hj, rfl, rfl, rfl, hn, hnj, hp, hE, ho, hB⟩ := hrel
    by_cases hjm : j < count
    · have hj1 : (j : Int) < (count : Int) := by omega
      have hsub := hide (show count - j = (count - (j + 1)) + 1 by omega)
      cases ht : takeE l p with
      | error x =>
        obtain ⟨t1, t2⟩ := takeE_err ht
        have R := hide (show numsE l count k = .error x by rw [unhide hE, unhide hsub]; exact prep_bad acc ht)
        go_wp2_with fail
        refine (take_bad a m c l p x (p : Int) _ (unhide HM) rfl (unhide HX) (unhide hp) ((unhide HB).later (unhide hB)) t1 t2).mono ?_
        rintro e w2 ⟨rfl, b2⟩
        have B2 := hide ((unhide hB).trans (b2.mono (unhide hB).size))
        have hx0 : ¬ ((x : Int) = 0) := by omega
        clear b2
        go_wp2
        go_ret3
        exact ⟨by rw [unhide R]; exact ⟨rfl, t2⟩, unhide B2⟩
      | ok r =>
        obtain ⟨y, q⟩ := r
        have TQ := hide (takeE_back (unhide HB).lt ht).2.2.1
        have ty := (takeE_back (unhide HB).lt ht).2.2.2
        have R := hide (show numsE l count k = prepE (acc ++ [(y : Int)]) (numsE l (count - (j + 1)) q) by rw [unhide hE, unhide hsub]; exact prep_step acc ht)
        go_wp2_with fail
        refine (take_ok a m c l p y q (p : Int) _ (unhide HM) rfl (unhide HX) (unhide hp) ((unhide HB).later (unhide hB)) (takeE_ok ht)).mono ?_
        rintro e w2 ⟨rfl, b2⟩
        have B2 := hide ((unhide hB).trans (b2.mono (unhide hB).size))
        have O2 := hide ((unhide ho).later b2)
        clear b2
        go_wp2_with (at_builtin; refine unhide ?_)
        refine hide ?_
        have ba : Below w2.heap.size w2 (w2.alloc (.cells #[.int .i64 (y : Int)] 3)) := (Below.refl _ _).alloc (Nat.le_refl _) _
        have hs2 : w.heap.size ≤ (w2.alloc (.cells #[.int .i64 (y : Int)] 3)).heap.size := Nat.le_trans (unhide B2).size ba.size
        refine wpList_appendI rfl (.tmp 26) (.tmp 28) rfl w.heap.size sp n c2 acc rfl (unhide hn) ((unhide O2).later ba) (some ⟨w2.heap.size, 0, none⟩) 1 1 rfl [(y : Int)] rfl (ints_one (heap_new _ _) (by omega)) (fun h => by cases h) (by have := unhide hn; have := unhide hnj; omega) hs2 ?_
        intro sp3 n3 k3 w3 hn3 o3 g3
        have O3 := hide o3
        have N3 := hide (unhide hn3)
        have J3 := hide (show n3 = j + 1 by rw [← unhide hn3, List.length_append, unhide hn, unhide hnj]; rfl)
        have B3 := hide ((unhide B2).trans ((ba.mono (unhide B2).size).trans (GrewI.below g3 ((unhide O2).later ba) hs2)))
        clear o3 g3 hn3 ba hs2
        go_wp2
        exact ⟨⟨j + 1, n3, k3, q, sp3, acc ++ [(y : Int)], by omega, rfl, rfl, by go_num, unhide N3, unhide J3, unhide TQ, unhide R, unhide O3, unhide B3⟩, by simp [intOf]; omega⟩
    · obtain rfl : j = count := by omega
      have R := hide (show numsE l j k = .ok (acc, p) by rw [unhide hE, Nat.sub_self]; simp [numsE, prepE])
      go_wp2
      go_ret3
      exact ⟨by rw [unhide R]; exact ⟨sp, n, c2, rfl, unhide hn, unhide ho, unhide hp⟩, unhide hB⟩
def listE (l : List Nat) (k : Nat) : Except Nat (List Int × Nat) := match takeE l k with
  | .error x => .error x
  | .ok (n, k2) => if 9 < n then .error 4 else numsE l n k2
set_option maxRecDepth 20000 in
set_option maxHeartbeats 4000000 in
theorem takeList_calls (hb : BytesAt w a l) (m : Nat) (hm : l.length = m) (hx : m ≤ maxLen) (k : Nat) (hk : k ≤ l.length) :
    Calls Tryz.prog 135 #[.slice a m c, .int .i64 (k : Int)] w fun e w' => NumRes (listE l k) l.length w.heap.size e w' ∧ Below w.heap.size w w' := by
  have HB := hide hb
  have HM := hide hm
  have HK := hide hk
  have HX := hide (show l.length ≤ maxLen by omega)
  clear hb hm hk
  cases ht : takeE l k with
  | error x =>
    obtain ⟨t1, t2⟩ := takeE_err ht
    have R := hide (show listE l k = .error x by rw [listE, ht])
    have hx0 : ¬ ((x : Int) = 0) := by omega
    clear ht
    go_enter Tryz.func135, Tryz.ntmps135
    go_wp2_with fail
    refine (take_bad a m c l k x (k : Int) _ (unhide HM) rfl (unhide HX) (unhide HK) (unhide HB) t1 t2).mono ?_
    rintro e w2 ⟨rfl, b2⟩
    have B2 := hide b2
    clear b2
    go_wp2
    go_ret3
    exact ⟨by rw [unhide R]; exact ⟨rfl, t2⟩, unhide B2⟩
  | ok r =>
    obtain ⟨y, q⟩ := r
    have TQ := hide (takeE_back (unhide HB).lt ht).2.2.1
    have ty := (takeE_back (unhide HB).lt ht).2.2.2
    have TN := hide (takeE_ok ht)
    have LE := hide (show listE l k = if 9 < y then .error 4 else numsE l y q by rw [listE, ht])
    clear ht
    go_enter Tryz.func135, Tryz.ntmps135
    go_wp2_with fail
    refine (take_ok a m c l k y q (k : Int) _ (unhide HM) rfl (unhide HX) (unhide HK) (unhide HB) (unhide TN)).mono ?_
    rintro e w2 ⟨rfl, b2⟩
    have B2 := hide b2
    clear b2
    by_cases h9 : 9 < y
    · have h9' : (9 : Int) < (y : Int) := by omega
      have R := hide (show listE l k = .error 4 by rw [unhide LE, if_pos h9])
      go_wp2
      go_ret3
      exact ⟨by rw [unhide R]; exact ⟨rfl, by decide⟩, unhide B2⟩
    · have h9' : ¬ ((9 : Int) < (y : Int)) := by omega
      have R := hide (show listE l k = numsE l y q by rw [unhide LE, if_neg h9])
      go_wp2_with fail
      refine (takeNumbers_calls ((unhide HB).later (unhide B2)) m (unhide HM) hx q y (unhide TQ) (by omega)).mono ?_
      rintro e w3 ⟨hres, b3⟩
      have B3 := hide ((unhide B2).trans (b3.mono (unhide B2).size))
      have S2 := hide (unhide B2).size
      clear b3
      unfold NumRes at hres
      cases hn : numsE l y q with
      | error x =>
        rw [hn] at hres
        obtain ⟨rfl, hx0⟩ := hres
        go_wp2
        go_ret3
        exact ⟨by rw [unhide R, hn]; exact ⟨rfl, hx0⟩, unhide B3⟩
      | ok r =>
        obtain ⟨xs, k3⟩ := r
        rw [hn] at hres
        obtain ⟨sp, n3, c3, rfl, h1, h2, h3⟩ := hres
        have O3 := hide h2
        have H1 := hide h1
        have H3 := hide h3
        clear h1 h2 h3
        go_wp2
        go_ret3
        exact ⟨by rw [unhide R, hn]; exact ⟨sp, n3, c3, rfl, unhide H1, (unhide O3).mono (unhide S2), unhide H3⟩, unhide B3⟩
def getE (l : List Nat) : Except Nat (List Int × List Int) := match listE l 0 with
  | .error x => .error x
  | .ok (v, k) => match listE l k with
    | .error x => .error x
    | .ok (r, k2) => if k2 = l.length then (if rightM v r then .ok (v, r) else .error 4) else .error 4
/-- How a reader of members ends. -/
def GetRes (r : Except Nat (List Int × List Int)) (base : Nat) (e : Ending) (w' : World) : Prop := match r with
  | .ok (v, l) => ∃ spA nA cA spB nB cB, e = .returned (.tuple #[mV spA nA cA spB nB cB, .int .i64 0]) ∧ v.length = nA ∧ l.length = nB ∧ OwnI base w' spA cA v ∧ OwnI base w' spB cB l
  | .error x => e = .returned (.tuple #[mV none 0 0 none 0 0, .int .i64 (x : Int)]) ∧ x ≠ 0
set_option maxRecDepth 20000 in
set_option maxHeartbeats 8000000 in
theorem mget_calls (hb : BytesAt w a l) (m : Nat) (hm : l.length = m) (hx : m ≤ maxLen) :
    Calls Tryz.prog 107 #[.slice a m c] w fun e w' => GetRes (getE l) w.heap.size e w' ∧ Below w.heap.size w w' := by
  have HM := hide hm
  have b1 := hide (show Below w.heap.size w (w.alloc (mB none 0 0 none 0 0)) from (Below.refl _ _).alloc (Nat.le_refl _) _)
  have Y1 := hide (heap_new w (mB none 0 0 none 0 0))
  have HB := hide (hb.later (unhide b1))
  have ZE := hide (show (w.alloc (mB none 0 0 none 0 0)).heap.size = w.heap.size + 1 by simp)
  clear hb hm
  go_enter Tryz.func107, Tryz.ntmps107
  go_wp2_with fail
  generalize hD : w.heap.size = D at *
  generalize w.alloc (mB none 0 0 none 0 0) = w1 at *
  have DONE := hide (show ∀ (u : World), Below w1.heap.size w1 u → ∃ W, W.cell? ⟨D, 0, none⟩ = some (.slice none 0 0) ∧ W.cell? ⟨D, 1, none⟩ = some (.slice none 0 0) ∧ Below D w W ∧ (u.setCell ⟨D, 0, none⟩ (.slice none 0 0)).setCell ⟨D, 1, none⟩ (.slice none 0 0) = W ∧ u.cell? ⟨D, 0, none⟩ = some (.slice none 0 0) ∧ u.cell? ⟨D, 1, none⟩ = some (.slice none 0 0) ∧ u.frozen? ⟨D, 0, none⟩ = false ∧ u.frozen? ⟨D, 1, none⟩ = false from fun u F => by
    have Y := later_block F (unhide Y1)
    obtain ⟨W, y0, y1, gW, hW⟩ := two_sets Y (.slice none 0 0) (.slice none 0 0)
    exact ⟨W, y0, y1, (unhide b1).trans (Below.grown (F.mono (by have := unhide ZE; omega) : Below D w1 u) gW (by have := F.size; have := unhide ZE; omega) (fun g e => by have := Option.some.inj e; omega)), hW, box_cell Y 0 _ rfl, box_cell Y 1 _ rfl, mbox_free Y 0, mbox_free Y 1⟩)
  refine (takeList_calls (unhide HB) m (unhide HM) hx 0 (Nat.zero_le _)).mono ?_
  rintro e w2 ⟨hres, b2⟩
  have F2 := hide b2
  clear b2
  unfold NumRes at hres
  cases h1 : listE l 0 with
  | error x =>
    rw [h1] at hres
    obtain ⟨rfl, hx0⟩ := hres
    have R := hide (show getE l = .error x by rw [getE, h1])
    have hx0' : ¬ ((x : Int) = 0) := by omega
    obtain ⟨W, y0, y1, bW, hW, z0, z1, z2, z3⟩ := unhide DONE w2 (unhide F2)
    have HW := hide hW
    clear hW
    go_wp2_with fail
    rw [unhide HW]
    go_wp2
    refine bodyPost_ret (v := .tuple #[mV none 0 0 none 0 0, .int .i64 (x : Int)]) (by simp [results, Tryz.results107, go_sem, y0, y1]) rfl ?_
    exact ⟨by rw [unhide R]; exact ⟨rfl, hx0⟩, by first | exact bW | (rw [hD]; exact bW)⟩
  | ok r =>
    obtain ⟨v, k⟩ := r
    rw [h1] at hres
    obtain ⟨spA, nA, cA, rfl, hnA, oA, hk⟩ := hres
    have NA := hide hnA
    have OA := hide oA
    have K2 := hide hk
    clear hnA oA hk
    go_wp2_with fail
    refine (takeList_calls ((unhide HB).later (unhide F2)) m (unhide HM) hx k (unhide K2)).mono ?_
    rintro e w3 ⟨hres, b3⟩
    have F3 := hide ((unhide F2).trans (b3.mono (unhide F2).size))
    have OA3 := hide ((unhide OA).later b3)
    have S2 := hide (unhide F2).size
    clear b3
    unfold NumRes at hres
    cases h2 : listE l k with
    | error x =>
      rw [h2] at hres
      obtain ⟨rfl, hx0⟩ := hres
      have R := hide (show getE l = .error x by rw [getE, h1]; simp only; rw [h2])
      have hx0' : ¬ ((x : Int) = 0) := by omega
      obtain ⟨W, y0, y1, bW, hW, z0, z1, z2, z3⟩ := unhide DONE w3 (unhide F3)
      have HW := hide hW
      clear hW
      go_wp2_with fail
      rw [unhide HW]
      go_wp2
      refine bodyPost_ret (v := .tuple #[mV none 0 0 none 0 0, .int .i64 (x : Int)]) (by simp [results, Tryz.results107, go_sem, y0, y1]) rfl ?_
      exact ⟨by rw [unhide R]; exact ⟨rfl, hx0⟩, by first | exact bW | (rw [hD]; exact bW)⟩
    | ok r =>
      obtain ⟨r, q⟩ := r
      rw [h2] at hres
      obtain ⟨spB, nB, cB', rfl, hnB, oB, hq⟩ := hres
      have NB := hide hnB
      have OB3 := hide oB
      have GE := hide (show getE l = if q = m then (if rightM v r then .ok (v, r) else .error 4) else .error 4 by rw [getE, h1]; simp only; rw [h2]; simp only; rw [unhide HM])
      have b4 := hide (show Below w3.heap.size w3 (w3.alloc (mB spA nA cA spB nB cB')) from (Below.refl _ _).alloc (Nat.le_refl _) _)
      have Z4 := hide (heap_new w3 (mB spA nA cA spB nB cB'))
      have F4 := hide ((unhide F3).trans ((unhide b4).mono (unhide F3).size))
      have OA4 := hide ((unhide OA3).later (unhide b4))
      have OB4 := hide ((unhide OB3).later (unhide b4))
      have S3 := hide (show w1.heap.size ≤ w2.heap.size from unhide S2)
      have z4 := box_cell (unhide Z4) 0 _ rfl
      have z5 := box_cell (unhide Z4) 1 _ rfl
      clear hnB oB h1 h2 hq
      by_cases hqm : q = m
      · subst hqm
        have mA : nA ≤ maxLen := by
          have h1 := (unhide OA4).cap
          rw [unhide NA] at h1
          exact Nat.le_trans h1.1 h1.2
        have mB' : nB ≤ maxLen := by
          have h1 := (unhide OB4).cap
          rw [unhide NB] at h1
          exact Nat.le_trans h1.1 h1.2
        go_wp2_with fail
        generalize hX : w3.heap.size = X at *
        generalize w3.alloc (mB spA nA cA spB nB cB') = w4 at *
        refine (right_calls (unhide OA4).ints (unhide OB4).ints nA nB (unhide NA) (unhide NB) mA mB').mono ?_
        rintro e w5 ⟨rfl, b5⟩
        have F5 := hide ((unhide F4).trans (b5.mono (unhide F4).size))
        have Z5 := hide (later_block b5 (unhide Z4))
        have OA5 := hide ((unhide OA4).later b5)
        have OB5 := hide ((unhide OB4).later b5)
        clear b5 z4 z5
        have z4 := box_cell (unhide Z5) 0 _ rfl
        have z5 := box_cell (unhide Z5) 1 _ rfl
        cases hr : rightM v r
        · have R := hide (show getE l = .error 4 by rw [unhide GE]; simp [hr])
          obtain ⟨W, y0, y1, bW, hW, z0, z1, z2, z3⟩ := unhide DONE w5 (unhide F5)
          have HW := hide hW
          clear hW
          go_wp2_with fail
          rw [unhide HW]
          go_wp2
          refine bodyPost_ret (v := .tuple #[mV none 0 0 none 0 0, .int .i64 4]) (by simp [results, Tryz.results107, go_sem, y0, y1]) rfl ?_
          exact ⟨by rw [unhide R]; exact ⟨rfl, by decide⟩, by first | exact bW | (rw [hD]; exact bW)⟩
        · have R := hide (show getE l = .ok (v, r) by rw [unhide GE]; simp [hr])
          have Y5 := hide (later_block (unhide F5) (unhide Y1))
          obtain ⟨W, y0, y1, gW, hW⟩ := two_sets (unhide Y5) (.slice spA nA cA) (.slice spB nB cB')
          have HW := hide hW
          have z0 := box_cell (unhide Y5) 0 _ rfl
          have z1 := box_cell (unhide Y5) 1 _ rfl
          have z2 := mbox_free (unhide Y5) 0
          have z3 := mbox_free (unhide Y5) 1
          have OAW := hide ((unhide OA5).kept gW (fun g hg e => by have h1 := ((unhide OA5).blk_lt g hg).1; have h2 := Option.some.inj e; have h3 := unhide ZE; omega))
          have OBW := hide ((unhide OB5).kept gW (fun g hg e => by have h1 := ((unhide OB5).blk_lt g hg).1; have h2 := Option.some.inj e; have h3 := unhide ZE; have h4 := unhide S3; omega))
          have bW := hide ((unhide b1).trans (Below.grown ((unhide F5).mono (by have := unhide ZE; omega) : Below D w1 _) gW (by have := (unhide F5).size; have := unhide ZE; omega) (fun g e => by have := Option.some.inj e; omega)))
          clear hW gW
          go_wp2_with fail
          rw [unhide HW]
          go_wp2
          refine bodyPost_ret (v := .tuple #[mV spA nA cA spB nB cB', .int .i64 0]) (by simp [results, Tryz.results107, go_sem, y0, y1]) rfl ?_
          refine ⟨?_, by first | exact unhide bW | (rw [hD]; exact unhide bW)⟩
          rw [unhide R]
          exact ⟨spA, nA, cA, spB, nB, cB', rfl, unhide NA, unhide NB, (unhide OAW).mono (by have h3 := unhide ZE; omega), (unhide OBW).mono (by have h3 := unhide ZE; have h4 := unhide S3; omega)⟩
      · have hqm' : ¬ ((q : Int) = (m : Int)) := by omega
        have R := hide (show getE l = .error 4 by rw [unhide GE, if_neg hqm])
        obtain ⟨W, y0, y1, bW, hW, z0, z1, z2, z3⟩ := unhide DONE _ (unhide F4)
        have HW := hide hW
        clear hW
        go_wp2_with fail
        rw [unhide HW]
        go_wp2
        refine bodyPost_ret (v := .tuple #[mV none 0 0 none 0 0, .int .i64 4]) (by simp [results, Tryz.results107, go_sem, y0, y1]) rfl ?_
        exact ⟨by rw [unhide R]; exact ⟨rfl, by decide⟩, by first | exact bW | (rw [hD]; exact bW)⟩
end
end Go.Proofs.YtagncghpfdjkmaaGreatDoor
end
/- Plain facts on CRC-32 as a register of 32 bits that is shifted bit by bit: no Go in sight. -/
section
namespace Go.Proofs.YtagncghpfdjkmaaGreatDoor.Crc

/-- One shift of the register. -/
def step (r : Nat) : Nat := if r % 2 = 1 then (r / 2) ^^^ 3988292384 else r / 2
/-- So many shifts. -/
def steps : Nat → Nat → Nat
  | 0, r => r
  | k + 1, r => step (steps k r)
/-- One shift, a bit of the text held against the lowest one. -/
def stepBit (r c : Nat) : Nat := if (r + c) % 2 = 1 then (r / 2) ^^^ 3988292384 else r / 2
/-- So many bits of one byte. -/
def bitsOf (r c : Nat) : Nat → Nat
  | 0 => r
  | k + 1 => stepBit (bitsOf r c k) (c / 2 ^ k)
/-- The register behind a row of bytes. -/
def reg (r : Nat) (l : List Nat) : Nat := l.foldl (fun r c => steps 8 (r ^^^ c)) r
theorem reg_nil (r : Nat) : reg r [] = r := List.foldl_nil
theorem reg_cons (r c : Nat) (l : List Nat) : reg r (c :: l) = reg (steps 8 (r ^^^ c)) l := List.foldl_cons ..
def not32 (r : Nat) : Nat := 4294967295 - r
/-- The sum of a row, from a sum on. -/
def ext (s : Nat) (l : List Nat) : Nat := not32 (reg (not32 s) l)

theorem xor_mod (a b : Nat) : (a ^^^ b) % 2 = (a + b) % 2 := by
  have h := Nat.xor_mod_two_pow (a := a) (b := b) (n := 1)
  rw [Nat.pow_one] at h
  rw [h]
  rcases Nat.mod_two_eq_zero_or_one a with ha | ha <;> rcases Nat.mod_two_eq_zero_or_one b with hb | hb <;> (rewrite [ha, hb, Nat.add_mod, ha, hb]; decide)
theorem xor_lt {a b : Nat} (ha : a < 4294967296) (hb : b < 4294967296) : a ^^^ b < 4294967296 := Nat.xor_lt_two_pow (n := 32) ha hb
theorem step_lt {r : Nat} (h : r < 4294967296) : step r < 4294967296 := by
  unfold step; split
  · exact xor_lt (by omega) (by decide)
  · omega
theorem steps_lt {r : Nat} (h : r < 4294967296) : ∀ k, steps k r < 4294967296
  | 0 => h
  | k + 1 => step_lt (steps_lt h k)
theorem reg_lt : ∀ (l : List Nat) {r : Nat}, r < 4294967296 → (∀ c ∈ l, c < 256) → reg r l < 4294967296
  | [], _, h, _ => by rewrite [reg_nil]; exact h
  | c :: l, _, h, hl => by rewrite [reg_cons]; exact reg_lt l (steps_lt (xor_lt h (by have := hl c (by simp); omega)) 8) (fun d hd => hl d (by simp [hd]))
theorem not32_lt (r : Nat) : not32 r < 4294967296 := by unfold not32; omega
theorem ext_lt (s : Nat) (l : List Nat) : ext s l < 4294967296 := not32_lt _
theorem not32_xor {r : Nat} (h : r < 4294967296) : not32 r = r ^^^ 4294967295 := by
  unfold not32
  apply Nat.eq_of_testBit_eq
  intro i
  rw [Nat.testBit_xor]
  have h1 : (4294967295 - r) = 2 ^ 32 - (r + 1) := by omega
  rw [h1, Nat.testBit_two_pow_sub_succ (by simpa using h)]
  have h2 : (4294967295 : Nat) = 2 ^ 32 - 1 := by decide
  rw [h2, Nat.testBit_two_pow_sub_one]
  by_cases hi : i < 32
  · simp [hi]
  · have : r.testBit i = false := Nat.testBit_lt_two_pow (Nat.lt_of_lt_of_le h (by
      have : (2 : Nat) ^ 32 ≤ 2 ^ i := Nat.pow_le_pow_right (by omega) (by omega)
      simpa using this))
    simp [hi, this]

theorem reg_append (r : Nat) (a b : List Nat) : reg r (a ++ b) = reg (reg r a) b := by
  unfold reg
  exact List.foldl_append
theorem reg_snoc (r : Nat) (a : List Nat) (c : Nat) : reg r (a ++ [c]) = steps 8 (reg r a ^^^ c) := by
  rewrite [reg_append, reg_cons]; exact reg_nil _
/-- The shift is linear. -/
theorem step_xor (a b : Nat) : step (a ^^^ b) = step a ^^^ step b := by
  unfold step
  rw [Nat.xor_div_two, xor_mod]
  by_cases ha : a % 2 = 1 <;> by_cases hb : b % 2 = 1
  · rw [if_neg (by omega), if_pos ha, if_pos hb]
    have : ∀ x y p : Nat, (x ^^^ p) ^^^ (y ^^^ p) = x ^^^ y := fun x y p => by
      rw [Nat.xor_assoc, Nat.xor_comm y p, ← Nat.xor_assoc p p y, Nat.xor_self, Nat.zero_xor]
    rw [this]
  · rw [if_pos (by omega), if_pos ha, if_neg hb]
    rw [Nat.xor_assoc, Nat.xor_assoc, Nat.xor_comm (b / 2)]
  · rw [if_pos (by omega), if_neg ha, if_pos hb]
    rw [Nat.xor_assoc]
  · rw [if_neg (by omega), if_neg ha, if_neg hb]
theorem steps_xor (a b : Nat) : ∀ k, steps k (a ^^^ b) = steps k a ^^^ steps k b
  | 0 => rfl
  | k + 1 => by simp only [steps]; rw [steps_xor a b k, step_xor]
/-- Bit by bit, each one held against the lowest, is the byte laid over the register and eight shifts. -/
theorem stepBit_xor (r c : Nat) : stepBit r c ^^^ (c / 2) = step (r ^^^ c) := by
  unfold stepBit step
  rw [Nat.xor_div_two, xor_mod]
  by_cases h : (r + c) % 2 = 1
  · rw [if_pos h, if_pos h, Nat.xor_assoc, Nat.xor_assoc, Nat.xor_comm (c / 2)]
  · rw [if_neg h, if_neg h]
theorem bitsOf_xor (r c : Nat) : ∀ k, bitsOf r c k ^^^ (c / 2 ^ k) = steps k (r ^^^ c)
  | 0 => by simp [bitsOf, steps]
  | k + 1 => by
    simp only [bitsOf, steps]
    rw [← bitsOf_xor r c k, ← stepBit_xor, Nat.div_div_eq_div_mul, ← Nat.pow_succ]
theorem bitsOf_eight (r c : Nat) (h : c < 256) : bitsOf r c 8 = steps 8 (r ^^^ c) := by
  rw [← bitsOf_xor r c 8, Nat.div_eq_of_lt (by omega), Nat.xor_zero]
theorem stepBit_lt {r c : Nat} (h : r < 4294967296) : stepBit r c < 4294967296 := by
  unfold stepBit; split
  · exact xor_lt (by omega) (by decide)
  · omega
theorem bitsOf_lt {r : Nat} (c : Nat) (h : r < 4294967296) : ∀ k, bitsOf r c k < 4294967296
  | 0 => h
  | k + 1 => stepBit_lt (bitsOf_lt c h k)

/-- No two registers come to one by a shift. -/
theorem step_zero {r : Nat} (hr : r < 4294967296) (h : step r = 0) : r = 0 := by
  unfold step at h
  split at h
  · next h1 =>
    have h2 : (r / 2 ^^^ 3988292384) ^^^ 3988292384 = 3988292384 := by rw [h, Nat.zero_xor]
    rw [Nat.xor_assoc, Nat.xor_self, Nat.xor_zero] at h2
    omega
  · omega
theorem steps_zero {r : Nat} (hr : r < 4294967296) : ∀ k, steps k r = 0 → r = 0
  | 0, h => h
  | k + 1, h => steps_zero hr k (step_zero (steps_lt hr k) h)
theorem xor_zero_iff {a b : Nat} (h : a ^^^ b = 0) : a = b := by
  have h2 : (a ^^^ b) ^^^ b = b := by rw [h, Nat.zero_xor]
  rw [Nat.xor_assoc, Nat.xor_self, Nat.xor_zero] at h2
  exact h2
theorem steps_inj {a b : Nat} (ha : a < 4294967296) (hb : b < 4294967296) (k : Nat) (h : steps k a = steps k b) : a = b := by
  apply xor_zero_iff
  apply steps_zero (xor_lt ha hb) k
  rw [steps_xor, h, Nat.xor_self]
theorem xor_inj {a b c : Nat} (h : a ^^^ c = b ^^^ c) : a = b := by
  have h2 : (a ^^^ c) ^^^ c = (b ^^^ c) ^^^ c := by rw [h]
  rw [Nat.xor_assoc, Nat.xor_assoc, Nat.xor_self, Nat.xor_zero, Nat.xor_zero] at h2
  exact h2
theorem xor_inj' {a b c : Nat} (h : c ^^^ a = c ^^^ b) : a = b := by
  rw [Nat.xor_comm c a, Nat.xor_comm c b] at h
  exact xor_inj h
/-- No two registers come to one by the same bytes. -/
theorem reg_inj : ∀ (l : List Nat) {a b : Nat}, a < 4294967296 → b < 4294967296 → (∀ c ∈ l, c < 256) → reg a l = reg b l → a = b
  | [], _, _, _, _, _, h => by rewrite [reg_nil, reg_nil] at h; exact h
  | c :: l, a, b, ha, hb, hl, h => by
    rewrite [reg_cons, reg_cons] at h
    have hc : c < 4294967296 := by have := hl c (by simp); omega
    have h1 := reg_inj l (steps_lt (xor_lt ha hc) 8) (steps_lt (xor_lt hb hc) 8) (fun d hd => hl d (by simp [hd])) h
    exact xor_inj (steps_inj (xor_lt ha hc) (xor_lt hb hc) 8 h1)
/-- One byte that is turned turns the register behind the row. -/
theorem reg_turned (r : Nat) (a b : List Nat) (x y : Nat) (hr : r < 4294967296) (ha : ∀ c ∈ a, c < 256) (hb : ∀ c ∈ b, c < 256) (hx : x < 256) (hy : y < 256)
    (h : reg r (a ++ x :: b) = reg r (a ++ y :: b)) : x = y := by
  rewrite [reg_append, reg_append] at h
  rewrite [reg_cons, reg_cons] at h
  have h0 := reg_lt a hr ha
  have h1 := reg_inj b (steps_lt (xor_lt h0 (by omega)) 8) (steps_lt (xor_lt h0 (by omega)) 8) hb h
  exact xor_inj' (steps_inj (xor_lt h0 (by omega)) (xor_lt h0 (by omega)) 8 h1)
end Go.Proofs.YtagncghpfdjkmaaGreatDoor.Crc
end
/- The contracts of frame.shiftByte, frame.Extend, frame.Sum: they compute CRC-32's register, and leave the world as it was. -/
section
namespace Go.Proofs.YtagncghpfdjkmaaGreatDoor
open Go.ChangeShapes Go.WideShapes Go.ChangeAt Go.RowKit
theorem step_odd (n : Nat) (hn : n < 4294967296) (h : n % 2 = 1) : bits .xor .u32 ((n : Int) / 2) 3988292384 = ((Crc.step n : Nat) : Int) := by
  have e : ((n : Int) / 2) = ((n / 2 : Nat) : Int) := by omega
  rw [e]
  have := u32_xor_nat (n / 2) 3988292384 (by omega) (by decide)
  rw [Crc.step, if_pos h]
  exact this

theorem step_even (n : Nat) (h : ¬ n % 2 = 1) : ((n : Int) / 2) = ((Crc.step n : Nat) : Int) := by
  rw [Crc.step, if_neg h]; omega
theorem and_one (n : Nat) (hn : n < 4294967296) : bits .and .u32 (n : Int) 1 = ((n % 2 : Nat) : Int) := by
  have := u32_and_nat n 1 hn (by decide)
  rw [nat_mask1] at this
  exact this
theorem odd_of (n : Nat) (hn : n < 4294967296) (h : (bits .and .u32 (n : Int) 1 == 1) = true) : n % 2 = 1 := by
  rw [and_one n hn] at h
  have := beq_iff_eq.1 h
  omega
theorem even_of (n : Nat) (hn : n < 4294967296) (h : (bits .and .u32 (n : Int) 1 == 1) = false) : ¬ n % 2 = 1 := by
  rw [and_one n hn] at h
  have := beq_eq_false_iff_ne.1 h
  omega

set_option maxHeartbeats 400000 in
theorem shift_calls (r : Nat) (w : World) (hr : r < 4294967296) :
    Calls Tryz.prog 152 #[.int .u32 (r : Int)] w fun e w' => e = .returned (.int .u32 ((Crc.steps 8 r : Nat) : Int)) ∧ w' = w := by
  go_enter Tryz.func152, Tryz.ntmps152
  go_wp2
  go_loop [0, 4] (fun x i => ∃ k n : Nat, k ≤ 8 ∧ i = .int .i64 (k : Int) ∧ x = .int .u32 (n : Int) ∧ n = Crc.steps k r) (fun _ i => 8 - (intOf i).toNat)
  case atStart => exact ⟨0, r, by omega, rfl, rfl, rfl⟩
  case round =>
    obtain ⟨k, n, hk, rfl, rfl, hn⟩ := hrel
    have hlt : n < 4294967296 := by rw [hn]; exact Crc.steps_lt hr k
    have HN : Hid (n = Crc.steps k r) := hn
    clear hn
    by_cases h8 : k < 8
    · have hs : Crc.steps (k + 1) r = Crc.step n := by rw [HN.out]; rfl
      have HS := hide hs
      clear hs
      go_wp2
      · have ho : n % 2 = 1 := odd_of n hlt ‹_›
        exact ⟨⟨k + 1, Crc.step n, by omega, by go_num, by rw [step_odd n hlt ho], (unhide HS).symm⟩, by simp [intOf]; omega⟩
      · have ho : ¬ n % 2 = 1 := even_of n hlt ‹_›
        exact ⟨⟨k + 1, Crc.step n, by omega, by go_num, by rw [step_even n ho], (unhide HS).symm⟩, by simp [intOf]; omega⟩
    · have hk8 : k = 8 := by omega
      subst hk8
      have HR := hide (show Ending.returned (.int .u32 (n : Int)) = .returned (.int .u32 ((Crc.steps 8 r : Nat) : Int)) by rw [HN.out])
      go_wp2
      go_ret
      exact ⟨unhide HR, rfl⟩

theorem not_u32 (n : Nat) (hn : n < 4294967296) : bits .xor .u32 IntKind.u32.max (n : Int) = ((Crc.not32 n : Nat) : Int) := by
  have e : IntKind.u32.max = ((4294967295 : Nat) : Int) := by decide
  rw [e, u32_xor_nat 4294967295 n (by decide) hn, Crc.not32_xor hn, Nat.xor_comm]
theorem xor_u32 (a b : Nat) (ha : a < 4294967296) (hb : b < 4294967296) : bits .xor .u32 (a : Int) (b : Int) = ((a ^^^ b : Nat) : Int) := u32_xor_nat a b ha hb
set_option maxHeartbeats 400000 in
theorem extend_calls (s : Nat) (a : Option Addr) (c : Nat) (l : List Nat) (w : World) (hs : s < 4294967296) (hl : l.length ≤ maxLen) (hb : BytesAt w a l) :
    Calls Tryz.prog 132 #[.int .u32 (s : Int), .slice a l.length c] w fun e w' => e = .returned (.int .u32 ((Crc.ext s l : Nat) : Int)) ∧ w' = w := by
  unfold maxLen at hl
  have hB := hide hb
  clear hb
  go_enter Tryz.func132, Tryz.ntmps132
  go_wp2
  rw [not_u32 s hs]
  go_loop [5, 12] (fun x i => ∃ k n : Nat, k ≤ l.length ∧ i = .int .i64 (k : Int) ∧ x = .int .u32 (n : Int) ∧ n = Crc.reg (Crc.not32 s) (l.take k)) (fun _ i => l.length - (intOf i).toNat)
  case atStart => exact ⟨0, Crc.not32 s, by omega, rfl, rfl, by rw [List.take_zero, Crc.reg_nil]⟩
  case round =>
    obtain ⟨k, n, hk, rfl, rfl, hn⟩ := hrel
    have hlt : n < 4294967296 := by rw [hn]; exact Crc.reg_lt _ (Crc.not32_lt _) (fun c hc => (unhide hB).lt c (List.mem_of_mem_take hc))
    have HN : Hid (n = Crc.reg (Crc.not32 s) (l.take k)) := hn
    clear hn
    by_cases hkl : k < l.length
    · obtain ⟨b, off, rfl, hc⟩ := (unhide hB).cell k hkl
      have hc256 := getD_lt (unhide hB).lt k
      have HS := hide (show Crc.reg (Crc.not32 s) (l.take (k + 1)) = Crc.steps 8 (n ^^^ l.getD k 0) by rw [take_snoc_nat l k hkl, Crc.reg_snoc, HN.out])
      generalize l.getD k 0 = x at *
      go_wp2_with fail
      rw [xor_u32 n x hlt (by omega)]
      refine (shift_calls _ _ (Crc.xor_lt hlt (by omega))).mono ?_
      rintro e w' ⟨rfl, rfl⟩
      generalize hy : Crc.steps 8 (n ^^^ x) = y at *
      have HY := hide hy
      clear hy
      go_wp2
      exact ⟨⟨k + 1, y, by omega, by go_num, rfl, (unhide HS).symm⟩, by simp [intOf]; omega⟩
    · have hkl' : k = l.length := by omega
      have HR := hide (show Ending.returned (.int .u32 ((Crc.not32 n : Nat) : Int)) = .returned (.int .u32 ((Crc.ext s l : Nat) : Int)) by rw [HN.out, hkl', List.take_length]; unfold Crc.ext; exact Eq.refl _)
      have HNn := hide (not_u32 n hlt)
      clear hkl'
      go_wp2
      go_ret
      exact ⟨(congrArg (fun z : Int => Ending.returned (.int .u32 z)) (unhide HNn)).trans (unhide HR), rfl⟩

theorem sum_calls (a : Option Addr) (c : Nat) (l : List Nat) (w : World) (hl : l.length ≤ maxLen) (hb : BytesAt w a l) :
    Calls Tryz.prog 133 #[.slice a l.length c] w fun e w' => e = .returned (.int .u32 ((Crc.ext 0 l : Nat) : Int)) ∧ w' = w := by
  have hB := hide hb
  clear hb
  go_enter Tryz.func133, Tryz.ntmps133
  go_wp2_with (go_at_call 132; refine (extend_calls 0 _ _ _ _ (by decide) hl (unhide hB)).mono ?_; rintro e w' ⟨rfl, rfl⟩)
  go_ret
  exact ⟨rfl, rfl⟩
end Go.Proofs.YtagncghpfdjkmaaGreatDoor
end
