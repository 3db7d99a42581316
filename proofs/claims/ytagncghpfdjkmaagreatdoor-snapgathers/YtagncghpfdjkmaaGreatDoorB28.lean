/- The document's Get. -/
import Derived.Test.YtagncghpfdjkmaaGreatDoorB16
import Derived.Test.YtagncghpfdjkmaaGreatDoorB14
import Derived.Test.YtagncghpfdjkmaaGreatDoorB15
section
namespace Go.Proofs.YtagncghpfdjkmaaGreatDoor
open Go.ChangeShapes Go.WideShapes Go.ChangeAt Go.RowKit

/-- How far the two lists are read. -/
def SpecQ (l : List Nat) (q p : Nat) (v r : List Int) : Prop :=
  (q = 0 ∧ p = 0 ∧ v = [] ∧ r = []) ∨ (q = 1 ∧ listE l 0 = .ok (v, p) ∧ r = []) ∨ (q = 2 ∧ ∃ k, listE l 0 = .ok (v, k) ∧ listE l k = .ok (r, p))
section
variable {w : World} {a : Option Addr} {c : Nat} {l : List Nat}
set_option maxRecDepth 20000 in
set_option maxHeartbeats 32000000 in
theorem rget_calls (hb : BytesAt w a l) (m : Nat) (hm : l.length = m) (hx : m ≤ 140737488355328) :
    Calls Tryz.prog 65 #[.slice a m c] w fun e w' => GetRes (getE l) w.heap.size e w' ∧ Below w.heap.size w w' := by
  have HM := hide hm
  have b1 := hide (show Below w.heap.size w ((w.alloc (mB none 0 0 none 0 0)).alloc (mB none 0 0 none 0 0)) from ((Below.refl _ _).alloc (Nat.le_refl _) _).alloc (by simp) _)
  have Y1 := hide (heap_old (mB none 0 0 none 0 0) (heap_new w (mB none 0 0 none 0 0)))
  have X1 := hide (show ((w.alloc (mB none 0 0 none 0 0)).alloc (mB none 0 0 none 0 0)).heap[w.heap.size + 1]? = some (mB none 0 0 none 0 0) by
    have := heap_new (w.alloc (mB none 0 0 none 0 0)) (mB none 0 0 none 0 0)
    rwa [World.size_alloc] at this)
  have HB := hide hb
  have ZE := hide (show ((w.alloc (mB none 0 0 none 0 0)).alloc (mB none 0 0 none 0 0)).heap.size = w.heap.size + 2 by simp)
  have HX := hide (show l.length ≤ 140737488355328 by omega)
  clear hb hm
  go_enter Tryz.func65, Tryz.ntmps65
  go_wp2_with fail
  generalize hD : w.heap.size = D at *
  generalize (w.alloc (mB none 0 0 none 0 0)).alloc (mB none 0 0 none 0 0) = w1 at *
  have KEEPB := hide (show ∀ u : World, Below (D + 1) w1 u → BytesAt u a l from fun u h => (unhide HB).later (by rw [hD]; exact (unhide b1).trans (h.mono (by omega))))
  have DONE := hide (show ∀ (u : World), Below (D + 1) w1 u → ∃ W, W.cell? ⟨D, 0, none⟩ = some (.slice none 0 0) ∧ W.cell? ⟨D, 1, none⟩ = some (.slice none 0 0) ∧ Below D w W ∧ (u.setCell ⟨D, 0, none⟩ (.slice none 0 0)).setCell ⟨D, 1, none⟩ (.slice none 0 0) = W ∧ u.cell? ⟨D, 0, none⟩ = some (.slice none 0 0) ∧ u.cell? ⟨D, 1, none⟩ = some (.slice none 0 0) ∧ u.frozen? ⟨D, 0, none⟩ = false ∧ u.frozen? ⟨D, 1, none⟩ = false from fun u F => by
    have Y := (F.block D (by omega)).trans (unhide Y1)
    obtain ⟨W, y0, y1, gW, hW⟩ := two_sets Y (.slice none 0 0) (.slice none 0 0)
    exact ⟨W, y0, y1, (unhide b1).trans (Below.grown (F.mono (by omega) : Below D w1 u) gW (by have := F.size; have := unhide ZE; omega) (fun g e => by have := Option.some.inj e; omega)), hW, box_cell Y 0 _ rfl, box_cell Y 1 _ rfl, mbox_free Y 0, mbox_free Y 1⟩)
  go_loopw [5, 6] (fun pp i wr => ∃ (q p nA cA nB cB' : Nat) (spA spB : Option Addr) (v r : List Int), q ≤ 2 ∧ pp = .int .i64 (p : Int) ∧ i = .int .i64 (q : Int) ∧ Hid (p ≤ l.length) ∧ Hid (wr.heap[D + 1]? = some (mB spA nA cA spB nB cB')) ∧ Hid (v.length = nA) ∧ Hid (r.length = nB) ∧ Hid (OwnI (D + 2) wr spA cA v) ∧ Hid (OwnI (D + 2) wr spB cB' r) ∧ Hid (Apart spA spB) ∧ Hid (Below (D + 1) w1 wr) ∧ Hid (SpecQ l q p v r)) (fun _ i _ => 2 - (intOf i).toNat)
  case atStart => exact ⟨0, 0, 0, 0, 0, 0, none, none, [], [], by omega, rfl, rfl, Nat.zero_le _, unhide X1, rfl, rfl, OwnI.ofNil _ _, OwnI.ofNil _ _, Apart.none_left _, Below.refl _ _, .inl ⟨rfl, rfl, rfl, rfl⟩⟩
  case round =>
    obtain ⟨q, p, nA, cA, nB, cB', spA, spB, v, r, hq, rfl, rfl, hp, hbox, hnA, hnB, hoA, hoB, hap, hB, hS⟩ := hrel
    have HBr := hide (unhide KEEPB _ (unhide hB))
    rcases unhide hS with ⟨e0, eP, ev, er⟩ | ⟨e0, eL, er⟩ | ⟨e0, k, eL, eR⟩
    · have hq2 : (q : Int) < 2 := by omega
      have V0 := hide ev
      have R0 := hide er
      have P0 := hide (show listE l p = listE l 0 by rw [eP])
      clear eP ev er hS
      cases ht : takeE l p with
      | error x =>
        have R := hide (show getE l = .error x by rw [getE, show listE l 0 = .error x from by rw [← unhide P0, listE, ht]])
        have hx0 := (takeE_err ht).2
        have hx0' : ¬ ((x : Int) = 0) := by omega
        go_wp2_with fail
        refine (refTake_bad m p x (p : Int) (unhide HM) rfl (unhide HX) (unhide hp) (unhide HBr) ht).mono ?_
        rintro e w5 ⟨rfl, rfl⟩
        obtain ⟨W, y0, y1, bW, hW, z0, z1, z2, z3⟩ := unhide DONE _ (unhide hB)
        have HW := hide hW
        clear hW
        go_wp2_with fail
        rw [unhide HW]
        go_wp2
        refine bodyPost_ret (v := .tuple #[mV none 0 0 none 0 0, .int .i64 (x : Int)]) (by simp [results, Tryz.results65, go_sem, y0, y1]) rfl ?_
        exact ⟨by rw [unhide R]; exact ⟨rfl, hx0⟩, by first | exact bW | (rw [hD]; exact bW)⟩
      | ok s =>
        obtain ⟨n, k2⟩ := s
        have TQ := hide (takeE_back (unhide HBr).lt ht).2.2.1
        have LQ := hide (show listE l p = if 9 < n then .error 4 else numsE l n k2 by rw [listE, ht])
        go_wp2_with fail
        refine (refTake_ok m p n k2 (p : Int) (unhide HM) rfl (unhide HX) (unhide hp) (unhide HBr) ht).mono ?_
        rintro e w5 ⟨rfl, rfl⟩
        clear ht HBr
        by_cases h9 : 9 < n
        · have h9' : (9 : Int) < (n : Int) := by omega
          have R := hide (show getE l = .error 4 by rw [getE, show listE l 0 = .error 4 from by rw [← unhide P0, unhide LQ, if_pos h9]])
          obtain ⟨W, y0, y1, bW, hW, z0, z1, z2, z3⟩ := unhide DONE _ (unhide hB)
          have HW := hide hW
          clear hW
          go_wp2_with fail
          rw [unhide HW]
          go_wp2
          refine bodyPost_ret (v := .tuple #[mV none 0 0 none 0 0, .int .i64 4]) (by simp [results, Tryz.results65, go_sem, y0, y1]) rfl ?_
          exact ⟨by rw [unhide R]; exact ⟨rfl, by decide⟩, by first | exact bW | (rw [hD]; exact bW)⟩
        · have h9' : ¬ ((9 : Int) < (n : Int)) := by omega
          have LE := hide (show listE l p = numsE l n k2 by rw [unhide LQ, if_neg h9])
          clear LQ
          go_wp2_with fail
          go_loopw [5, 10] (fun pp jj wr' => ∃ (j at_ nA cA nB cB' : Nat) (spA spB : Option Addr) (acc : List Int), j ≤ n ∧ pp = .int .i64 (at_ : Int) ∧ jj = .int .i64 (j : Int) ∧ Hid (at_ ≤ l.length) ∧ Hid (wr'.heap[D + 1]? = some (mB spA nA cA spB nB cB')) ∧ Hid (acc.length = nA) ∧ Hid (r.length = nB) ∧ Hid (OwnI (D + 2) wr' spA cA acc) ∧ Hid (OwnI (D + 2) wr' spB cB' r) ∧ Hid (Apart spA spB) ∧ Hid (Below (D + 1) w1 wr') ∧ Hid (nA = j) ∧ Hid (numsE l n k2 = prepE acc (numsE l (n - j) at_))) (fun _ jj _ => n - (intOf jj).toNat)
          case atStart =>
            refine ⟨0, k2, nA, cA, nB, cB', spA, spB, [], by omega, rfl, rfl, unhide TQ, unhide hbox, by rw [← unhide V0]; exact unhide hnA, unhide hnB, by rw [← unhide V0]; exact unhide hoA, unhide hoB, unhide hap, unhide hB, ?_, ?_⟩
            · show nA = 0
              rw [← unhide hnA, unhide V0]
              rfl
            · show _ = _
              rw [Nat.sub_zero]
              cases numsE l n k2 with
              | error x => rfl
              | ok s => obtain ⟨s, z⟩ := s; simp [prepE]
          case round =>
            clear hbox hnA hnB hoA hoB hap hB
            obtain ⟨j, at_, nA, cA, nB, cB', spA, spB, acc, hj, rfl, rfl, hat, hbox, hnA, hnB, hoA, hoB, hap, hB, hnj, hE⟩ := hrel
            by_cases hjm : j < n
            · have hj1 : (j : Int) < (n : Int) := by omega
              have hsub := hide (show n - j = (n - (j + 1)) + 1 by omega)
              have HBr := hide (unhide KEEPB _ (unhide hB))
              cases ht : takeE l at_ with
              | error x =>
                have R := hide (show getE l = .error x by rw [getE, show listE l 0 = .error x from by rw [← unhide P0, unhide LE, unhide hE, unhide hsub]; exact prep_bad acc ht])
                have hx0 := (takeE_err ht).2
                have hx0' : ¬ ((x : Int) = 0) := by omega
                go_wp2_with fail
                refine (refTake_bad m at_ x (at_ : Int) (unhide HM) rfl (unhide HX) (unhide hat) (unhide HBr) ht).mono ?_
                rintro e w5 ⟨rfl, rfl⟩
                obtain ⟨W, y0, y1, bW, hW, z0, z1, z2, z3⟩ := unhide DONE _ (unhide hB)
                have HW := hide hW
                clear hW
                go_wp2_with fail
                rw [unhide HW]
                go_wp2
                refine bodyPost_ret (v := .tuple #[mV none 0 0 none 0 0, .int .i64 (x : Int)]) (by simp [results, Tryz.results65, go_sem, y0, y1]) rfl ?_
                exact ⟨by rw [unhide R]; exact ⟨rfl, hx0⟩, by first | exact bW | (rw [hD]; exact bW)⟩
              | ok s =>
                obtain ⟨y, k3⟩ := s
                have TQ3 := hide (takeE_back (unhide HBr).lt ht).2.2.1
                have ty := (takeE_back (unhide HBr).lt ht).2.2.2
                have R := hide (show numsE l n k2 = prepE (acc ++ [(y : Int)]) (numsE l (n - (j + 1)) k3) by rw [unhide hE, unhide hsub]; exact prep_step acc ht)
                have hq0' : (q : Int) = 0 := by omega
                have c0 := box_cell (unhide hbox) 0 _ rfl
                have c1 := box_cell (unhide hbox) 1 _ rfl
                go_wp2_with fail
                refine (refTake_ok m at_ y k3 (at_ : Int) (unhide HM) rfl (unhide HX) (unhide hat) (unhide HBr) ht).mono ?_
                rintro e w5 ⟨rfl, rfl⟩
                go_wp2_with (at_builtin; refine unhide ?_)
                refine hide ?_
                have ba : Below w5.heap.size w5 (w5.alloc (.cells #[.int .i64 (y : Int)] 3)) := (Below.refl _ _).alloc (Nat.le_refl _) _
                have hs5 : D + 2 ≤ w5.heap.size := by have := (unhide hB).size; have := unhide ZE; omega
                have hs2 : D + 2 ≤ (w5.alloc (.cells #[.int .i64 (y : Int)] 3)).heap.size := Nat.le_trans hs5 ba.size
                refine wpList_appendI rfl (.tmp 54) (.tmp 56) rfl (D + 2) spA nA cA acc rfl (unhide hnA) ((unhide hoA).later ba) (some ⟨w5.heap.size, 0, none⟩) 1 1 rfl [(y : Int)] rfl (ints_one (heap_new _ _) (by omega)) (fun h => by cases h) (by have := unhide hnA; have := unhide hnj; omega) hs2 ?_
                intro sp4 n4 k4 w6 hn4 o4 g4
                have N4 := hide (unhide hn4)
                have J4 := hide (show n4 = j + 1 by rw [← unhide hn4, List.length_append, unhide hnA, unhide hnj]; rfl)
                have AP4 := hide ((unhide hap).left g4 ((unhide hoB).later ba))
                have OO := hide (((unhide hoB).later ba).stayB (unhide hap) g4)
                have B6 := hide ((unhide hB).trans ((ba.mono (by omega)).trans ((GrewI.below g4 ((unhide hoA).later ba) hs2).mono (by omega))))
                have X6 := hide (show w6.heap[D + 1]? = some (mB spA nA cA spB nB cB') from ((GrewI.below g4 ((unhide hoA).later ba) hs2).block (D + 1) (by omega)).trans (later_block ba (unhide hbox)))
                have z0 := box_cell (unhide X6) 0 _ rfl
                have z1 := box_cell (unhide X6) 1 _ rfl
                have z2 := mbox_free (unhide X6) 0
                have X7 := hide (heap_setCell_same w6 (D + 1) 0 _ 26 (.slice sp4 n4 k4) (unhide X6))
                have gs := grown_set w6 (D + 1) 0 (.slice sp4 n4 k4)
                have O7 := hide (o4.kept gs (fun g hg e => by have h1 := (o4.blk_lt g hg).1; have h2 := Option.some.inj e; omega))
                have OO7 := hide ((unhide OO).kept gs (fun g hg e => by have h1 := ((unhide OO).blk_lt g hg).1; have h2 := Option.some.inj e; omega))
                have B7 := hide ((unhide B6).grown gs (by have := (unhide B6).size; have := unhide ZE; omega) (fun g e => by have := Option.some.inj e; omega))
                clear o4 g4 hn4 ba hs2 hs5 gs OO
                go_wp2
                exact ⟨⟨j + 1, k3, n4, k4, nB, cB', sp4, spB, acc ++ [(y : Int)], by omega, rfl, by go_num, unhide TQ3, unhide X7, unhide N4, unhide hnB, unhide O7, unhide OO7, unhide AP4, unhide B7, unhide J4, unhide R⟩, by simp [intOf]; omega⟩
            · obtain rfl : j = n := by omega
              have NE := hide (show numsE l j k2 = .ok (acc, at_) by rw [unhide hE, Nat.sub_self]; simp [numsE, prepE])
              have SQ := hide (show SpecQ l (q + 1) at_ acc r from .inr (.inl ⟨by omega, by rw [← unhide P0, unhide LE]; exact unhide NE, unhide R0⟩))
              go_wp2
              exact ⟨⟨q + 1, at_, nA, cA, nB, cB', spA, spB, acc, r, by omega, rfl, by go_num, unhide hat, unhide hbox, unhide hnA, unhide hnB, unhide hoA, unhide hoB, unhide hap, unhide hB, unhide SQ⟩, by simp [intOf]; omega⟩
    · have hq2 : (q : Int) < 2 := by omega
      have R0 := hide er
      have P1 := hide eL
      clear eL er hS
      cases ht : takeE l p with
      | error x =>
        have R := hide (show getE l = .error x by rw [getE, unhide P1]; simp only; rw [show listE l p = .error x from by rw [listE, ht]])
        have hx0 := (takeE_err ht).2
        have hx0' : ¬ ((x : Int) = 0) := by omega
        go_wp2_with fail
        refine (refTake_bad m p x (p : Int) (unhide HM) rfl (unhide HX) (unhide hp) (unhide HBr) ht).mono ?_
        rintro e w5 ⟨rfl, rfl⟩
        obtain ⟨W, y0, y1, bW, hW, z0, z1, z2, z3⟩ := unhide DONE _ (unhide hB)
        have HW := hide hW
        clear hW
        go_wp2_with fail
        rw [unhide HW]
        go_wp2
        refine bodyPost_ret (v := .tuple #[mV none 0 0 none 0 0, .int .i64 (x : Int)]) (by simp [results, Tryz.results65, go_sem, y0, y1]) rfl ?_
        exact ⟨by rw [unhide R]; exact ⟨rfl, hx0⟩, by first | exact bW | (rw [hD]; exact bW)⟩
      | ok s =>
        obtain ⟨n, k2⟩ := s
        have TQ := hide (takeE_back (unhide HBr).lt ht).2.2.1
        have LQ := hide (show listE l p = if 9 < n then .error 4 else numsE l n k2 by rw [listE, ht])
        go_wp2_with fail
        refine (refTake_ok m p n k2 (p : Int) (unhide HM) rfl (unhide HX) (unhide hp) (unhide HBr) ht).mono ?_
        rintro e w5 ⟨rfl, rfl⟩
        clear ht HBr
        by_cases h9 : 9 < n
        · have h9' : (9 : Int) < (n : Int) := by omega
          have R := hide (show getE l = .error 4 by rw [getE, unhide P1]; simp only; rw [show listE l p = .error 4 from by rw [unhide LQ, if_pos h9]])
          obtain ⟨W, y0, y1, bW, hW, z0, z1, z2, z3⟩ := unhide DONE _ (unhide hB)
          have HW := hide hW
          clear hW
          go_wp2_with fail
          rw [unhide HW]
          go_wp2
          refine bodyPost_ret (v := .tuple #[mV none 0 0 none 0 0, .int .i64 4]) (by simp [results, Tryz.results65, go_sem, y0, y1]) rfl ?_
          exact ⟨by rw [unhide R]; exact ⟨rfl, by decide⟩, by first | exact bW | (rw [hD]; exact bW)⟩
        · have h9' : ¬ ((9 : Int) < (n : Int)) := by omega
          have LE := hide (show listE l p = numsE l n k2 by rw [unhide LQ, if_neg h9])
          clear LQ
          go_wp2_with fail
          go_loopw [5, 10] (fun pp jj wr' => ∃ (j at_ nA cA nB cB' : Nat) (spA spB : Option Addr) (acc : List Int), j ≤ n ∧ pp = .int .i64 (at_ : Int) ∧ jj = .int .i64 (j : Int) ∧ Hid (at_ ≤ l.length) ∧ Hid (wr'.heap[D + 1]? = some (mB spA nA cA spB nB cB')) ∧ Hid (v.length = nA) ∧ Hid (acc.length = nB) ∧ Hid (OwnI (D + 2) wr' spA cA v) ∧ Hid (OwnI (D + 2) wr' spB cB' acc) ∧ Hid (Apart spA spB) ∧ Hid (Below (D + 1) w1 wr') ∧ Hid (nB = j) ∧ Hid (numsE l n k2 = prepE acc (numsE l (n - j) at_))) (fun _ jj _ => n - (intOf jj).toNat)
          case atStart =>
            refine ⟨0, k2, nA, cA, nB, cB', spA, spB, [], by omega, rfl, rfl, unhide TQ, unhide hbox, unhide hnA, by rw [← unhide R0]; exact unhide hnB, unhide hoA, by rw [← unhide R0]; exact unhide hoB, unhide hap, unhide hB, ?_, ?_⟩
            · show nB = 0
              rw [← unhide hnB, unhide R0]
              rfl
            · show _ = _
              rw [Nat.sub_zero]
              cases numsE l n k2 with
              | error x => rfl
              | ok s => obtain ⟨s, z⟩ := s; simp [prepE]
          case round =>
            clear hbox hnA hnB hoA hoB hap hB
            obtain ⟨j, at_, nA, cA, nB, cB', spA, spB, acc, hj, rfl, rfl, hat, hbox, hnA, hnB, hoA, hoB, hap, hB, hnj, hE⟩ := hrel
            by_cases hjm : j < n
            · have hj1 : (j : Int) < (n : Int) := by omega
              have hsub := hide (show n - j = (n - (j + 1)) + 1 by omega)
              have HBr := hide (unhide KEEPB _ (unhide hB))
              cases ht : takeE l at_ with
              | error x =>
                have R := hide (show getE l = .error x by rw [getE, unhide P1]; simp only; rw [show listE l p = .error x from by rw [unhide LE, unhide hE, unhide hsub]; exact prep_bad acc ht])
                have hx0 := (takeE_err ht).2
                have hx0' : ¬ ((x : Int) = 0) := by omega
                go_wp2_with fail
                refine (refTake_bad m at_ x (at_ : Int) (unhide HM) rfl (unhide HX) (unhide hat) (unhide HBr) ht).mono ?_
                rintro e w5 ⟨rfl, rfl⟩
                obtain ⟨W, y0, y1, bW, hW, z0, z1, z2, z3⟩ := unhide DONE _ (unhide hB)
                have HW := hide hW
                clear hW
                go_wp2_with fail
                rw [unhide HW]
                go_wp2
                refine bodyPost_ret (v := .tuple #[mV none 0 0 none 0 0, .int .i64 (x : Int)]) (by simp [results, Tryz.results65, go_sem, y0, y1]) rfl ?_
                exact ⟨by rw [unhide R]; exact ⟨rfl, hx0⟩, by first | exact bW | (rw [hD]; exact bW)⟩
              | ok s =>
                obtain ⟨y, k3⟩ := s
                have TQ3 := hide (takeE_back (unhide HBr).lt ht).2.2.1
                have ty := (takeE_back (unhide HBr).lt ht).2.2.2
                have R := hide (show numsE l n k2 = prepE (acc ++ [(y : Int)]) (numsE l (n - (j + 1)) k3) by rw [unhide hE, unhide hsub]; exact prep_step acc ht)
                have hq0' : ¬ ((q : Int) = 0) := by omega
                have c0 := box_cell (unhide hbox) 0 _ rfl
                have c1 := box_cell (unhide hbox) 1 _ rfl
                go_wp2_with fail
                refine (refTake_ok m at_ y k3 (at_ : Int) (unhide HM) rfl (unhide HX) (unhide hat) (unhide HBr) ht).mono ?_
                rintro e w5 ⟨rfl, rfl⟩
                go_wp2_with (at_builtin; refine unhide ?_)
                refine hide ?_
                have ba : Below w5.heap.size w5 (w5.alloc (.cells #[.int .i64 (y : Int)] 3)) := (Below.refl _ _).alloc (Nat.le_refl _) _
                have hs5 : D + 2 ≤ w5.heap.size := by have := (unhide hB).size; have := unhide ZE; omega
                have hs2 : D + 2 ≤ (w5.alloc (.cells #[.int .i64 (y : Int)] 3)).heap.size := Nat.le_trans hs5 ba.size
                refine wpList_appendI rfl (.tmp 60) (.tmp 62) rfl (D + 2) spB nB cB' acc rfl (unhide hnB) ((unhide hoB).later ba) (some ⟨w5.heap.size, 0, none⟩) 1 1 rfl [(y : Int)] rfl (ints_one (heap_new _ _) (by omega)) (fun h => by cases h) (by have := unhide hnB; have := unhide hnj; omega) hs2 ?_
                intro sp4 n4 k4 w6 hn4 o4 g4
                have N4 := hide (unhide hn4)
                have J4 := hide (show n4 = j + 1 by rw [← unhide hn4, List.length_append, unhide hnB, unhide hnj]; rfl)
                have AP4 := hide ((unhide hap).right g4 ((unhide hoA).later ba))
                have OO := hide (((unhide hoA).later ba).stayA (unhide hap) g4)
                have B6 := hide ((unhide hB).trans ((ba.mono (by omega)).trans ((GrewI.below g4 ((unhide hoB).later ba) hs2).mono (by omega))))
                have X6 := hide (show w6.heap[D + 1]? = some (mB spA nA cA spB nB cB') from ((GrewI.below g4 ((unhide hoB).later ba) hs2).block (D + 1) (by omega)).trans (later_block ba (unhide hbox)))
                have z0 := box_cell (unhide X6) 0 _ rfl
                have z1 := box_cell (unhide X6) 1 _ rfl
                have z2 := mbox_free (unhide X6) 1
                have X7 := hide (heap_setCell_same w6 (D + 1) 1 _ 26 (.slice sp4 n4 k4) (unhide X6))
                have gs := grown_set w6 (D + 1) 1 (.slice sp4 n4 k4)
                have O7 := hide (o4.kept gs (fun g hg e => by have h1 := (o4.blk_lt g hg).1; have h2 := Option.some.inj e; omega))
                have OO7 := hide ((unhide OO).kept gs (fun g hg e => by have h1 := ((unhide OO).blk_lt g hg).1; have h2 := Option.some.inj e; omega))
                have B7 := hide ((unhide B6).grown gs (by have := (unhide B6).size; have := unhide ZE; omega) (fun g e => by have := Option.some.inj e; omega))
                clear o4 g4 hn4 ba hs2 hs5 gs OO
                go_wp2
                exact ⟨⟨j + 1, k3, nA, cA, n4, k4, spA, sp4, acc ++ [(y : Int)], by omega, rfl, by go_num, unhide TQ3, unhide X7, unhide hnA, unhide N4, unhide OO7, unhide O7, unhide AP4, unhide B7, unhide J4, unhide R⟩, by simp [intOf]; omega⟩
            · obtain rfl : j = n := by omega
              have NE := hide (show numsE l j k2 = .ok (acc, at_) by rw [unhide hE, Nat.sub_self]; simp [numsE, prepE])
              have SQ := hide (show SpecQ l (q + 1) at_ v acc from .inr (.inr ⟨by omega, p, unhide P1, by rw [unhide LE]; exact unhide NE⟩))
              go_wp2
              exact ⟨⟨q + 1, at_, nA, cA, nB, cB', spA, spB, v, acc, by omega, rfl, by go_num, unhide hat, unhide hbox, unhide hnA, unhide hnB, unhide hoA, unhide hoB, unhide hap, unhide hB, unhide SQ⟩, by simp [intOf]; omega⟩
    · have hq2 : ¬ ((q : Int) < 2) := by omega
      have GE := hide (show getE l = if p = m then (if rightM v r then .ok (v, r) else .error 4) else .error 4 by rw [getE, eL]; simp only; rw [eR]; simp only; rw [unhide HM])
      clear eL eR hS
      have c0 := box_cell (unhide hbox) 0 _ rfl
      have c1 := box_cell (unhide hbox) 1 _ rfl
      by_cases hqm : p = m
      · subst hqm
        have mA : nA ≤ maxLen := by
          have h1 := (unhide hoA).cap
          rw [unhide hnA] at h1
          exact Nat.le_trans h1.1 h1.2
        have mB' : nB ≤ maxLen := by
          have h1 := (unhide hoB).cap
          rw [unhide hnB] at h1
          exact Nat.le_trans h1.1 h1.2
        go_wp2_with fail
        refine (refRight_calls (unhide hoA).ints (unhide hoB).ints nA nB (unhide hnA) (unhide hnB) mA mB').mono ?_
        rintro e w5 ⟨rfl, b5⟩
        have F5 := hide ((unhide hB).trans (b5.mono (by have := (unhide hB).size; have := unhide ZE; omega)))
        have X5 := hide (later_block b5 (unhide hbox))
        have OA5 := hide ((unhide hoA).later b5)
        have OB5 := hide ((unhide hoB).later b5)
        clear b5 c0 c1
        have c0 := box_cell (unhide X5) 0 _ rfl
        have c1 := box_cell (unhide X5) 1 _ rfl
        cases hr : rightM v r
        · have R := hide (show getE l = .error 4 by rw [unhide GE]; simp [hr])
          obtain ⟨W, y0, y1, bW, hW, z0, z1, z2, z3⟩ := unhide DONE w5 (unhide F5)
          have HW := hide hW
          clear hW
          go_wp2_with fail
          rw [unhide HW]
          go_wp2
          refine bodyPost_ret (v := .tuple #[mV none 0 0 none 0 0, .int .i64 4]) (by simp [results, Tryz.results65, go_sem, y0, y1]) rfl ?_
          exact ⟨by rw [unhide R]; exact ⟨rfl, by decide⟩, by first | exact bW | (rw [hD]; exact bW)⟩
        · have R := hide (show getE l = .ok (v, r) by rw [unhide GE]; simp [hr])
          have Y5 := hide (((unhide F5).block D (by omega)).trans (unhide Y1))
          obtain ⟨W, y0, y1, gW, hW⟩ := two_sets (unhide Y5) (.slice spA nA cA) (.slice spB nB cB')
          have HW := hide hW
          have z0 := box_cell (unhide Y5) 0 _ rfl
          have z1 := box_cell (unhide Y5) 1 _ rfl
          have z2 := mbox_free (unhide Y5) 0
          have z3 := mbox_free (unhide Y5) 1
          have OAW := hide ((unhide OA5).kept gW (fun g hg e => by have h1 := ((unhide OA5).blk_lt g hg).1; have h2 := Option.some.inj e; omega))
          have OBW := hide ((unhide OB5).kept gW (fun g hg e => by have h1 := ((unhide OB5).blk_lt g hg).1; have h2 := Option.some.inj e; omega))
          have bW := hide ((unhide b1).trans (Below.grown ((unhide F5).mono (by omega) : Below D w1 _) gW (by have := (unhide F5).size; have := unhide ZE; omega) (fun g e => by have := Option.some.inj e; omega)))
          clear hW gW
          go_wp2_with fail
          rw [unhide HW]
          go_wp2
          refine bodyPost_ret (v := .tuple #[mV spA nA cA spB nB cB', .int .i64 0]) (by simp [results, Tryz.results65, go_sem, y0, y1]) rfl ?_
          refine ⟨?_, by first | exact unhide bW | (rw [hD]; exact unhide bW)⟩
          rw [unhide R]
          exact ⟨spA, nA, cA, spB, nB, cB', rfl, unhide hnA, unhide hnB, (unhide OAW).mono (by omega), (unhide OBW).mono (by omega)⟩
      · have hqm' : ¬ ((p : Int) = (m : Int)) := by omega
        have R := hide (show getE l = .error 4 by rw [unhide GE, if_neg hqm])
        obtain ⟨W, y0, y1, bW, hW, z0, z1, z2, z3⟩ := unhide DONE _ (unhide hB)
        have HW := hide hW
        clear hW
        go_wp2_with fail
        rw [unhide HW]
        go_wp2
        refine bodyPost_ret (v := .tuple #[mV none 0 0 none 0 0, .int .i64 4]) (by simp [results, Tryz.results65, go_sem, y0, y1]) rfl ?_
        exact ⟨by rw [unhide R]; exact ⟨rfl, by decide⟩, by first | exact bW | (rw [hD]; exact bW)⟩
end
end Go.Proofs.YtagncghpfdjkmaaGreatDoor
end
/- The contracts of tollgateref01.Extend and Sum: they compute CRC-32's register bit by bit, and leave the world as it was. -/
section
namespace Go.Proofs.YtagncghpfdjkmaaGreatDoor
open Go.ChangeShapes Go.WideShapes Go.ChangeAt Go.RowKit

theorem xor_ones (n : Nat) (hn : n < 4294967296) : bits .xor .u32 (n : Int) 4294967295 = ((Crc.not32 n : Nat) : Int) := by
  have := u32_xor_nat n 4294967295 hn (by decide)
  rw [Crc.not32_xor hn]
  exact this

theorem bit_eq (m x j : Nat) (hm : m < 4294967296) :
    bits .and .u32 (bits .xor .u32 (m : Int) (bits .and .u32 ((x : Int) / 2 ^ j % 4294967296) 1)) 1 = (((m + x / 2 ^ j) % 2 : Nat) : Int) := by
  have e : ((x : Int) / 2 ^ j % 4294967296) = ((x / 2 ^ j % 4294967296 : Nat) : Int) := by
    rw [Int.natCast_emod, Int.natCast_ediv, Int.natCast_pow]; rfl
  have h1 : x / 2 ^ j % 4294967296 < 4294967296 := Nat.mod_lt _ (by decide)
  rw [e, and_one _ h1]
  generalize hy : x / 2 ^ j = y at *
  rw [u32_xor_nat m _ hm (by omega), and_one _ (Crc.xor_lt hm (by omega)), Crc.xor_mod]
  congr 1
  omega
theorem bit_odd (m x j : Nat) (hm : m < 4294967296)
    (h : (bits .and .u32 (bits .xor .u32 (m : Int) (bits .and .u32 ((x : Int) / 2 ^ j % 4294967296) 1)) 1 == 1) = true) : (m + x / 2 ^ j) % 2 = 1 := by
  rw [bit_eq m x j hm] at h
  have := beq_iff_eq.1 h
  omega
theorem bit_even (m x j : Nat) (hm : m < 4294967296)
    (h : (bits .and .u32 (bits .xor .u32 (m : Int) (bits .and .u32 ((x : Int) / 2 ^ j % 4294967296) 1)) 1 == 1) = false) : ¬ (m + x / 2 ^ j) % 2 = 1 := by
  rw [bit_eq m x j hm] at h
  have := beq_eq_false_iff_ne.1 h
  omega
theorem stepBit_odd (m c : Nat) (hm : m < 4294967296) (h : (m + c) % 2 = 1) : bits .xor .u32 ((m : Int) / 2) 3988292384 = ((Crc.stepBit m c : Nat) : Int) := by
  have e : ((m : Int) / 2) = ((m / 2 : Nat) : Int) := by omega
  rw [e]
  have := u32_xor_nat (m / 2) 3988292384 (by omega) (by decide)
  rw [Crc.stepBit, if_pos h]
  exact this
theorem stepBit_even (m c : Nat) (h : ¬ (m + c) % 2 = 1) : ((m : Int) / 2) = ((Crc.stepBit m c : Nat) : Int) := by
  rw [Crc.stepBit, if_neg h]; omega

set_option maxHeartbeats 1000000 in
theorem refExtend_calls (s : Nat) (a : Option Addr) (c : Nat) (l : List Nat) (w : World) (hs : s < 4294967296) (hl : l.length ≤ maxLen) (hb : BytesAt w a l) :
    Calls Tryz.prog 67 #[.int .u32 (s : Int), .slice a l.length c] w fun e w' => e = .returned (.int .u32 ((Crc.ext s l : Nat) : Int)) ∧ w' = w := by
  unfold maxLen at hl
  have hB := hide hb
  clear hb
  go_enter Tryz.func67, Tryz.ntmps67
  go_wp2
  rw [xor_ones s hs]
  go_loop [5, 6] (fun x i => ∃ k n : Nat, k ≤ l.length ∧ i = .int .i64 (k : Int) ∧ x = .int .u32 (n : Int) ∧ n = Crc.reg (Crc.not32 s) (l.take k)) (fun _ i => l.length - (intOf i).toNat)
  case atStart => exact ⟨0, Crc.not32 s, by omega, rfl, rfl, by rw [List.take_zero, Crc.reg_nil]⟩
  case round =>
    obtain ⟨k, n, hk, rfl, rfl, hn⟩ := hrel
    have hlt : n < 4294967296 := by rw [hn]; exact Crc.reg_lt _ (Crc.not32_lt _) (fun c hc => (unhide hB).lt c (List.mem_of_mem_take hc))
    have HN : Hid (n = Crc.reg (Crc.not32 s) (l.take k)) := hn
    clear hn
    by_cases hkl : k < l.length
    · obtain ⟨b, off, rfl, hc⟩ := (unhide hB).cell k hkl
      have hc256 := getD_lt (unhide hB).lt k
      have HS := hide (show Crc.reg (Crc.not32 s) (l.take (k + 1)) = Crc.bitsOf n (l.getD k 0) 8 by rw [take_snoc_nat l k hkl, Crc.reg_snoc, HN.out, Crc.bitsOf_eight _ _ hc256])
      generalize l.getD k 0 = x at *
      go_wp2
      go_loop [5, 7] (fun r i => ∃ j m : Nat, j ≤ 8 ∧ i = .int .i64 (j : Int) ∧ r = .int .u32 (m : Int) ∧ m = Crc.bitsOf n x j) (fun _ i => 8 - (intOf i).toNat)
      case atStart => exact ⟨0, n, by omega, rfl, rfl, rfl⟩
      case round =>
        obtain ⟨j, m, hj, rfl, rfl, hm⟩ := hrel
        have hmlt : m < 4294967296 := by rw [hm]; exact Crc.bitsOf_lt x hlt j
        have HM : Hid (m = Crc.bitsOf n x j) := hm
        clear hm
        by_cases hj8 : j < 8
        · have hs : Crc.bitsOf n x (j + 1) = Crc.stepBit m (x / 2 ^ j) := by rw [HM.out]; rfl
          have HT := hide hs
          clear hs
          go_wp2
          · exact ⟨⟨j + 1, _, by omega, by go_num, by rw [stepBit_odd m (x / 2 ^ j) hmlt (bit_odd m x j hmlt ‹_›)], (unhide HT).symm⟩, by simp [intOf]; omega⟩
          · exact ⟨⟨j + 1, _, by omega, by go_num, by rw [stepBit_even m (x / 2 ^ j) (bit_even m x j hmlt ‹_›)], (unhide HT).symm⟩, by simp [intOf]; omega⟩
        · have hj8' : j = 8 := by omega
          subst hj8'
          go_wp2
          exact ⟨⟨k + 1, m, by omega, by go_num, rfl, HM.out.trans (unhide HS).symm⟩, by simp [intOf]; omega⟩
    · have hkl' : k = l.length := by omega
      have HR := hide (show Ending.returned (.int .u32 ((Crc.not32 n : Nat) : Int)) = .returned (.int .u32 ((Crc.ext s l : Nat) : Int)) by rw [HN.out, hkl', List.take_length]; unfold Crc.ext; exact Eq.refl _)
      have HNn := hide (xor_ones n hlt)
      clear hkl'
      go_wp2
      go_ret
      exact ⟨(congrArg (fun z : Int => Ending.returned (.int .u32 z)) (unhide HNn)).trans (unhide HR), rfl⟩

theorem refSum_calls (a : Option Addr) (c : Nat) (l : List Nat) (w : World) (hl : l.length ≤ maxLen) (hb : BytesAt w a l) :
    Calls Tryz.prog 68 #[.slice a l.length c] w fun e w' => e = .returned (.int .u32 ((Crc.ext 0 l : Nat) : Int)) ∧ w' = w := by
  have hB := hide hb
  clear hb
  go_enter Tryz.func68, Tryz.ntmps68
  go_wp2_with (go_at_call 67; refine (refExtend_calls 0 _ _ _ _ (by decide) hl (unhide hB)).mono ?_; rintro e w' ⟨rfl, rfl⟩)
  go_ret
  exact ⟨rfl, rfl⟩
end Go.Proofs.YtagncghpfdjkmaaGreatDoor
end
/- The contract of tollgateref01.number, and those of Sum and Extend with the length apart. -/
section
namespace Go.Proofs.YtagncghpfdjkmaaGreatDoor
open Go.ChangeShapes Go.WideShapes Go.ChangeAt Go.RowKit

def numTo (l : List Nat) : Nat → Nat
  | 0 => 0
  | i + 1 => numTo l i * 256 + l.getD i 0
theorem numTo_lt {l : List Nat} (h : ∀ c ∈ l, c < 256) (i : Nat) (hi : i ≤ 3) : numTo l i ≤ 16777215 := by
  have l0 := getD_lt h 0
  have l1 := getD_lt h 1
  have l2 := getD_lt h 2
  match i, hi with
  | 0, _ => simp [numTo]
  | 1, _ => simp only [numTo]; omega
  | 2, _ => simp only [numTo]; omega
  | 3, _ => simp only [numTo]; omega
theorem numTo_four (l : List Nat) : numTo l 4 = num4 l := by
  simp only [numTo, num4]; omega

set_option maxHeartbeats 400000 in
theorem number_calls (a : Option Addr) (c : Nat) (l : List Nat) (k : Nat) (w : World) (hl : l.length ≤ maxLen) (hk : k + 4 ≤ l.length) (hb : BytesAt w a l) :
    Calls Tryz.prog 109 #[.slice a l.length c, .int .i64 (k : Int)] w fun e w' => e = .returned (.int .i64 ((num4 (l.drop k) : Nat) : Int)) ∧ w' = w := by
  unfold maxLen at hl
  obtain ⟨b, off, rfl, hc⟩ := bytesAt_some hb (by omega)
  have hlt : ∀ c ∈ l.drop k, c < 256 := fun c hc => hb.lt c (List.mem_of_mem_drop hc)
  have Hc := hide hc
  have Hlt := hide hlt
  clear hc hlt hb
  go_enter Tryz.func109, Tryz.ntmps109
  go_wp2
  go_loop [5, 6] (fun n i => ∃ j m : Nat, j ≤ 4 ∧ i = .int .i64 (j : Int) ∧ n = .int .i64 (m : Int) ∧ m = numTo (l.drop k) j) (fun _ i => 4 - (intOf i).toNat)
  case atStart => exact ⟨0, 0, by omega, rfl, rfl, rfl⟩
  case round =>
    obtain ⟨j, m, hj, rfl, rfl, hm⟩ := hrel
    have HM := hide hm
    clear hm
    by_cases h4 : j < 4
    · have hm' : m ≤ 16777215 := by rw [unhide HM]; exact numTo_lt (unhide Hlt) j (by omega)
      have cj := (unhide Hc) (k + j) (by omega)
      have e1 : l.getD (k + j) 0 = (l.drop k).getD j 0 := (getD_drop l k j).symm
      rw [e1] at cj
      have hx := getD_lt (unhide Hlt) j
      have HS := hide (show numTo (l.drop k) (j + 1) = m * 256 + (l.drop k).getD j 0 by rw [unhide HM]; rfl)
      generalize (l.drop k).getD j 0 = x at *
      clear e1
      have q1 : ((k : Int) + (j : Int)).toNat = k + j := by omega
      go_wp2
      exact ⟨⟨j + 1, m * 256 + x, by omega, by go_num, by go_num, (unhide HS).symm⟩, by simp [intOf]; omega⟩
    · have h4' : j = 4 := by omega
      subst h4'
      have HR := hide (show Ending.returned (.int .i64 (m : Int)) = .returned (.int .i64 ((num4 (l.drop k) : Nat) : Int)) by rw [unhide HM, numTo_four])
      go_wp2
      go_ret
      exact ⟨unhide HR, rfl⟩
theorem refSum_calls' (a : Option Addr) (n c : Nat) (l : List Nat) (w : World) (hn : l.length = n) (hl : l.length ≤ maxLen) (hb : BytesAt w a l) :
    Calls Tryz.prog 68 #[.slice a n c] w fun e w' => e = .returned (.int .u32 ((Crc.ext 0 l : Nat) : Int)) ∧ w' = w := by
  subst hn; exact refSum_calls a c l w hl hb
theorem refExtend_calls' (s : Nat) (a : Option Addr) (n c : Nat) (l : List Nat) (w : World) (hn : l.length = n) (hs : s < 4294967296) (hl : l.length ≤ maxLen) (hb : BytesAt w a l) :
    Calls Tryz.prog 67 #[.int .u32 (s : Int), .slice a n c] w fun e w' => e = .returned (.int .u32 ((Crc.ext s l : Nat) : Int)) ∧ w' = w := by
  subst hn; exact refExtend_calls s a c l w hs hl hb
end Go.Proofs.YtagncghpfdjkmaaGreatDoor
end
