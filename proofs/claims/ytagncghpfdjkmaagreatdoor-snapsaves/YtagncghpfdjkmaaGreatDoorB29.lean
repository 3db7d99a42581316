/- The document's Get. -/
import Derived.Test.YtagncghpfdjkmaaGreatDoorB16
import Derived.Test.YtagncghpfdjkmaaGreatDoorB28
import Derived.Test.YtagncghpfdjkmaaGreatDoorB01
section
namespace Go.Proofs.YtagncghpfdjkmaaGreatDoor
open Go.ChangeShapes Go.WideShapes Go.ChangeAt Go.RowKit

/-- How far the two lists are read. -/
def SpecQ (l : List Nat) (q p : Nat) (v r : List Int) : Prop :=
  (q = 0 ∧ p = 0 ∧ v = [] ∧ r = []) ∨ (q = 1 ∧ listE l 0 = .ok (v, p) ∧ r = []) ∨ (q = 2 ∧ ∃ k, listE l 0 = .ok (v, k) ∧ listE l k = .ok (r, p))
section
variable {w : World} {a : Option Addr} {c : Nat} {l : List Nat}
set_option maxRecDepth 20000 in
set_option maxHeartbeats 32000000 in
theorem rget_calls (hb : BytesAt w a l) (m : Nat) (hm : l.length = m) (hx : m ≤ 140737488355328) :
    Calls Tryz.prog 65 #[.slice a m c] w fun e w' => GetRes (getE l) w.heap.size e w' ∧ Below w.heap.size w w' := by
  have HM := hide hm
  have b1 := hide (show Below w.heap.size w ((w.alloc (mB none 0 0 none 0 0)).alloc (mB none 0 0 none 0 0)) from ((Below.refl _ _).alloc (Nat.le_refl _) _).alloc (by simp) _)
  have Y1 := hide (heap_old (mB none 0 0 none 0 0) (heap_new w (mB none 0 0 none 0 0)))
  have X1 := hide (show ((w.alloc (mB none 0 0 none 0 0)).alloc (mB none 0 0 none 0 0)).heap[w.heap.size + 1]? = some (mB none 0 0 none 0 0) by
    have := heap_new (w.alloc (mB none 0 0 none 0 0)) (mB none 0 0 none 0 0)
    rwa [World.size_alloc] at this)
  have HB := hide hb
  have ZE := hide (show ((w.alloc (mB none 0 0 none 0 0)).alloc (mB none 0 0 none 0 0)).heap.size = w.heap.size + 2 by simp)
  have HX := hide (show l.length ≤ 140737488355328 by omega)
  clear hb hm
  go_enter Tryz.func65, Tryz.ntmps65
  go_wp2_with fail
  generalize hD : w.heap.size = D at *
  generalize (w.alloc (mB none 0 0 none 0 0)).alloc (mB none 0 0 none 0 0) = w1 at *
  have KEEPB := hide (show ∀ u : World, Below (D + 1) w1 u → BytesAt u a l from fun u h => (unhide HB).later (by rw [hD]; exact (unhide b1).trans (h.mono (by omega))))
  have DONE := hide (show ∀ (u : World), Below (D + 1) w1 u → ∃ W, W.cell? ⟨D, 0, none⟩ = some (.slice none 0 0) ∧ W.cell? ⟨D, 1, none⟩ = some (.slice none 0 0) ∧ Below D w W ∧ (u.setCell ⟨D, 0, none⟩ (.slice none 0 0)).setCell ⟨D, 1, none⟩ (.slice none 0 0) = W ∧ u.cell? ⟨D, 0, none⟩ = some (.slice none 0 0) ∧ u.cell? ⟨D, 1, none⟩ = some (.slice none 0 0) ∧ u.frozen? ⟨D, 0, none⟩ = false ∧ u.frozen? ⟨D, 1, none⟩ = false from fun u F => by
    have Y := (F.block D (by omega)).trans (unhide Y1)
    obtain ⟨W, y0, y1, gW, hW⟩ := two_sets Y (.slice none 0 0) (.slice none 0 0)
    exact ⟨W, y0, y1, (unhide b1).trans (Below.grown (F.mono (by omega) : Below D w1 u) gW (by have := F.size; have := unhide ZE; omega) (fun g e => by have := Option.some.inj e; omega)), hW, box_cell Y 0 _ rfl, box_cell Y 1 _ rfl, mbox_free Y 0, mbox_free Y 1⟩)
  go_loopw [5, 6] (fun pp i wr => ∃ (q p nA cA nB cB' : Nat) (spA spB : Option Addr) (v r : List Int), q ≤ 2 ∧ pp = .int .i64 (p : Int) ∧ i = .int .i64 (q : Int) ∧ Hid (p ≤ l.length) ∧ Hid (wr.heap[D + 1]? = some (mB spA nA cA spB nB cB')) ∧ Hid (v.length = nA) ∧ Hid (r.length = nB) ∧ Hid (OwnI (D + 2) wr spA cA v) ∧ Hid (OwnI (D + 2) wr spB cB' r) ∧ Hid (Apart spA spB) ∧ Hid (Below (D + 1) w1 wr) ∧ Hid (SpecQ l q p v r)) (fun _ i _ => 2 - (intOf i).toNat)
  case atStart => exact ⟨0, 0, 0, 0, 0, 0, none, none, [], [], by omega, rfl, rfl, Nat.zero_le _, unhide X1, rfl, rfl, OwnI.ofNil _ _, OwnI.ofNil _ _, Apart.none_left _, Below.refl _ _, .inl ⟨rfl, rfl, rfl, rfl⟩⟩
  case round =>
    obtain ⟨q, p, nA, cA, nB, cB', spA, spB, v, r, hq, rfl, rfl, hp, hbox, hnA, hnB, hoA, hoB, hap, hB, hS⟩ := hrel
    have HBr := hide (unhide KEEPB _ (unhide hB))
    rcases unhide hS with ⟨e0, eP, ev, er⟩ | ⟨e0, eL, er⟩ | ⟨e0, k, eL, eR⟩
    · have hq2 : (q : Int) < 2 := by omega
      have V0 := hide ev
      have R0 := hide er
      have P0 := hide (show listE l p = listE l 0 by rw [eP])
      clear eP ev er hS
      cases ht : takeE l p with
      | error x =>
        have R := hide (show getE l = .error x by rw [getE, show listE l 0 = .error x from by rw [← unhide P0, listE, ht]])
        have hx0 := (takeE_err ht).2
        have hx0' : ¬ ((x : Int) = 0) := by omega
        go_wp2_with fail
        refine (refTake_bad m p x (p : Int) (unhide HM) rfl (unhide HX) (unhide hp) (unhide HBr) ht).mono ?_
        rintro e w5 ⟨rfl, rfl⟩
        obtain ⟨W, y0, y1, bW, hW, z0, z1, z2, z3⟩ := unhide DONE _ (unhide hB)
        have HW := hide hW
        clear hW
        go_wp2_with fail
        rw [unhide HW]
        go_wp2
        refine bodyPost_ret (v := .tuple #[mV none 0 0 none 0 0, .int .i64 (x : Int)]) (by simp [results, Tryz.results65, go_sem, y0, y1]) rfl ?_
        exact ⟨by rw [unhide R]; exact ⟨rfl, hx0⟩, by first | exact bW | (rw [hD]; exact bW)⟩
      | ok s =>
        obtain ⟨n, k2⟩ := s
        have TQ := hide (takeE_back (unhide HBr).lt ht).2.2.1
        have LQ := hide (show listE l p = if 9 < n then .error 4 else numsE l n k2 by rw [listE, ht])
        go_wp2_with fail
        refine (refTake_ok m p n k2 (p : Int) (unhide HM) rfl (unhide HX) (unhide hp) (unhide HBr) ht).mono ?_
        rintro e w5 ⟨rfl, rfl⟩
        clear ht HBr
        by_cases h9 : 9 < n
        · have h9' : (9 : Int) < (n : Int) := by omega
          have R := hide (show getE l = .error 4 by rw [getE, show listE l 0 = .error 4 from by rw [← unhide P0, unhide LQ, if_pos h9]])
          obtain ⟨W, y0, y1, bW, hW, z0, z1, z2, z3⟩ := unhide DONE _ (unhide hB)
          have HW := hide hW
          clear hW
          go_wp2_with fail
          rw [unhide HW]
          go_wp2
          refine bodyPost_ret (v := .tuple #[mV none 0 0 none 0 0, .int .i64 4]) (by simp [results, Tryz.results65, go_sem, y0, y1]) rfl ?_
          exact ⟨by rw [unhide R]; exact ⟨rfl, by decide⟩, by first | exact bW | (rw [hD]; exact bW)⟩
        · have h9' : ¬ ((9 : Int) < (n : Int)) := by omega
          have LE := hide (show listE l p = numsE l n k2 by rw [unhide LQ, if_neg h9])
          clear LQ
          go_wp2_with fail
          go_loopw [5, 10] (fun pp jj wr' => ∃ (j at_ nA cA nB cB' : Nat) (spA spB : Option Addr) (acc : List Int), j ≤ n ∧ pp = .int .i64 (at_ : Int) ∧ jj = .int .i64 (j : Int) ∧ Hid (at_ ≤ l.length) ∧ Hid (wr'.heap[D + 1]? = some (mB spA nA cA spB nB cB')) ∧ Hid (acc.length = nA) ∧ Hid (r.length = nB) ∧ Hid (OwnI (D + 2) wr' spA cA acc) ∧ Hid (OwnI (D + 2) wr' spB cB' r) ∧ Hid (Apart spA spB) ∧ Hid (Below (D + 1) w1 wr') ∧ Hid (nA = j) ∧ Hid (numsE l n k2 = prepE acc (numsE l (n - j) at_))) (fun _ jj _ => n - (intOf jj).toNat)
          case atStart =>
            refine ⟨0, k2, nA, cA, nB, cB', spA, spB, [], by omega, rfl, rfl, unhide TQ, unhide hbox, by rw [← unhide V0]; exact unhide hnA, unhide hnB, by rw [← unhide V0]; exact unhide hoA, unhide hoB, unhide hap, unhide hB, ?_, ?_⟩
            · show nA = 0
              rw [← unhide hnA, unhide V0]
              rfl
            · show _ = _
              rw [Nat.sub_zero]
              cases numsE l n k2 with
              | error x => rfl
              | ok s => obtain ⟨s, z⟩ := s; simp [prepE]
          case round =>
            clear hbox hnA hnB hoA hoB hap hB
            obtain ⟨j, at_, nA, cA, nB, cB', spA, spB, acc, hj, rfl, rfl, hat, hbox, hnA, hnB, hoA, hoB, hap, hB, hnj, hE⟩ := hrel
            by_cases hjm : j < n
            · have hj1 : (j : Int) < (n : Int) := by omega
              have hsub := hide (show n - j = (n - (j + 1)) + 1 by omega)
              have HBr := hide (unhide KEEPB _ (unhide hB))
              cases ht : takeE l at_ with
              | error x =>
                have R := hide (show getE l = .error x by rw [getE, show listE l 0 = .error x from by rw [← unhide P0, unhide LE, unhide hE, unhide hsub]; exact prep_bad acc ht])
                have hx0 := (takeE_err ht).2
                have hx0' : ¬ ((x : Int) = 0) := by omega
                go_wp2_with fail
                refine (refTake_bad m at_ x (at_ : Int) (unhide HM) rfl (unhide HX) (unhide hat) (unhide HBr) ht).mono ?_
                rintro e w5 ⟨rfl, rfl⟩
                obtain ⟨W, y0, y1, bW, hW, z0, z1, z2, z3⟩ := unhide DONE _ (unhide hB)
                have HW := hide hW
                clear hW
                go_wp2_with fail
                rw [unhide HW]
                go_wp2
                refine bodyPost_ret (v := .tuple #[mV none 0 0 none 0 0, .int .i64 (x : Int)]) (by simp [results, Tryz.results65, go_sem, y0, y1]) rfl ?_
                exact ⟨by rw [unhide R]; exact ⟨rfl, hx0⟩, by first | exact bW | (rw [hD]; exact bW)⟩
              | ok s =>
                obtain ⟨y, k3⟩ := s
                have TQ3 := hide (takeE_back (unhide HBr).lt ht).2.2.1
                have ty := (takeE_back (unhide HBr).lt ht).2.2.2
                have R := hide (show numsE l n k2 = prepE (acc ++ [(y : Int)]) (numsE l (n - (j + 1)) k3) by rw [unhide hE, unhide hsub]; exact prep_step acc ht)
                have hq0' : (q : Int) = 0 := by omega
                have c0 := box_cell (unhide hbox) 0 _ rfl
                have c1 := box_cell (unhide hbox) 1 _ rfl
                go_wp2_with fail
                refine (refTake_ok m at_ y k3 (at_ : Int) (unhide HM) rfl (unhide HX) (unhide hat) (unhide HBr) ht).mono ?_
                rintro e w5 ⟨rfl, rfl⟩
                go_wp2_with (at_builtin; refine unhide ?_)
                refine hide ?_
                have ba : Below w5.heap.size w5 (w5.alloc (.cells #[.int .i64 (y : Int)] 3)) := (Below.refl _ _).alloc (Nat.le_refl _) _
                have hs5 : D + 2 ≤ w5.heap.size := by have := (unhide hB).size; have := unhide ZE; omega
                have hs2 : D + 2 ≤ (w5.alloc (.cells #[.int .i64 (y : Int)] 3)).heap.size := Nat.le_trans hs5 ba.size
                refine wpList_appendI rfl (.tmp 54) (.tmp 56) rfl (D + 2) spA nA cA acc rfl (unhide hnA) ((unhide hoA).later ba) (some ⟨w5.heap.size, 0, none⟩) 1 1 rfl [(y : Int)] rfl (ints_one (heap_new _ _) (by omega)) (fun h => by cases h) (by have := unhide hnA; have := unhide hnj; omega) hs2 ?_
                intro sp4 n4 k4 w6 hn4 o4 g4
                have N4 := hide (unhide hn4)
                have J4 := hide (show n4 = j + 1 by rw [← unhide hn4, List.length_append, unhide hnA, unhide hnj]; rfl)
                have AP4 := hide ((unhide hap).left g4 ((unhide hoB).later ba))
                have OO := hide (((unhide hoB).later ba).stayB (unhide hap) g4)
                have B6 := hide ((unhide hB).trans ((ba.mono (by omega)).trans ((GrewI.below g4 ((unhide hoA).later ba) hs2).mono (by omega))))
                have X6 := hide (show w6.heap[D + 1]? = some (mB spA nA cA spB nB cB') from ((GrewI.below g4 ((unhide hoA).later ba) hs2).block (D + 1) (by omega)).trans (later_block ba (unhide hbox)))
                have z0 := box_cell (unhide X6) 0 _ rfl
                have z1 := box_cell (unhide X6) 1 _ rfl
                have z2 := mbox_free (unhide X6) 0
                have X7 := hide (heap_setCell_same w6 (D + 1) 0 _ 26 (.slice sp4 n4 k4) (unhide X6))
                have gs := grown_set w6 (D + 1) 0 (.slice sp4 n4 k4)
                have O7 := hide (o4.kept gs (fun g hg e => by have h1 := (o4.blk_lt g hg).1; have h2 := Option.some.inj e; omega))
                have OO7 := hide ((unhide OO).kept gs (fun g hg e => by have h1 := ((unhide OO).blk_lt g hg).1; have h2 := Option.some.inj e; omega))
                have B7 := hide ((unhide B6).grown gs (by have := (unhide B6).size; have := unhide ZE; omega) (fun g e => by have := Option.some.inj e; omega))
                clear o4 g4 hn4 ba hs2 hs5 gs OO
                go_wp2
                exact ⟨⟨j + 1, k3, n4, k4, nB, cB', sp4, spB, acc ++ [(y : Int)], by omega, rfl, by go_num, unhide TQ3, unhide X7, unhide N4, unhide hnB, unhide O7, unhide OO7, unhide AP4, unhide B7, unhide J4, unhide R⟩, by simp [intOf]; omega⟩
            · obtain rfl : j = n := by omega
              have NE := hide (show numsE l j k2 = .ok (acc, at_) by rw [unhide hE, Nat.sub_self]; simp [numsE, prepE])
              have SQ := hide (show SpecQ l (q + 1) at_ acc r from .inr (.inl ⟨by omega, by rw [← unhide P0, unhide LE]; exact unhide NE, unhide R0⟩))
              go_wp2
              exact ⟨⟨q + 1, at_, nA, cA, nB, cB', spA, spB, acc, r, by omega, rfl, by go_num, unhide hat, unhide hbox, unhide hnA, unhide hnB, unhide hoA, unhide hoB, unhide hap, unhide hB, unhide SQ⟩, by simp [intOf]; omega⟩
    · have hq2 : (q : Int) < 2 := by omega
      have R0 := hide er
      have P1 := hide eL
      clear eL er hS
      cases ht : takeE l p with
      | error x =>
        have R := hide (show getE l = .error x by rw [getE, unhide P1]; simp only; rw [show listE l p = .error x from by rw [listE, ht]])
        have hx0 := (takeE_err ht).2
        have hx0' : ¬ ((x : Int) = 0) := by omega
        go_wp2_with fail
        refine (refTake_bad m p x (p : Int) (unhide HM) rfl (unhide HX) (unhide hp) (unhide HBr) ht).mono ?_
        rintro e w5 ⟨rfl, rfl⟩
        obtain ⟨W, y0, y1, bW, hW, z0, z1, z2, z3⟩ := unhide DONE _ (unhide hB)
        have HW := hide hW
        clear hW
        go_wp2_with fail
        rw [unhide HW]
        go_wp2
        refine bodyPost_ret (v := .tuple #[mV none 0 0 none 0 0, .int .i64 (x : Int)]) (by simp [results, Tryz.results65, go_sem, y0, y1]) rfl ?_
        exact ⟨by rw [unhide R]; exact ⟨rfl, hx0⟩, by first | exact bW | (rw [hD]; exact bW)⟩
      | ok s =>
        obtain ⟨n, k2⟩ := s
        have TQ := hide (takeE_back (unhide HBr).lt ht).2.2.1
        have LQ := hide (show listE l p = if 9 < n then .error 4 else numsE l n k2 by rw [listE, ht])
        go_wp2_with fail
        refine (refTake_ok m p n k2 (p : Int) (unhide HM) rfl (unhide HX) (unhide hp) (unhide HBr) ht).mono ?_
        rintro e w5 ⟨rfl, rfl⟩
        clear ht HBr
        by_cases h9 : 9 < n
        · have h9' : (9 : Int) < (n : Int) := by omega
          have R := hide (show getE l = .error 4 by rw [getE, unhide P1]; simp only; rw [show listE l p = .error 4 from by rw [unhide LQ, if_pos h9]])
          obtain ⟨W, y0, y1, bW, hW, z0, z1, z2, z3⟩ := unhide DONE _ (unhide hB)
          have HW := hide hW
          clear hW
          go_wp2_with fail
          rw [unhide HW]
          go_wp2
          refine bodyPost_ret (v := .tuple #[mV none 0 0 none 0 0, .int .i64 4]) (by simp [results, Tryz.results65, go_sem, y0, y1]) rfl ?_
          exact ⟨by rw [unhide R]; exact ⟨rfl, by decide⟩, by first | exact bW | (rw [hD]; exact bW)⟩
        · have h9' : ¬ ((9 : Int) < (n : Int)) := by omega
          have LE := hide (show listE l p = numsE l n k2 by rw [unhide LQ, if_neg h9])
          clear LQ
          go_wp2_with fail
          go_loopw [5, 10] (fun pp jj wr' => ∃ (j at_ nA cA nB cB' : Nat) (spA spB : Option Addr) (acc : List Int), j ≤ n ∧ pp = .int .i64 (at_ : Int) ∧ jj = .int .i64 (j : Int) ∧ Hid (at_ ≤ l.length) ∧ Hid (wr'.heap[D + 1]? = some (mB spA nA cA spB nB cB')) ∧ Hid (v.length = nA) ∧ Hid (acc.length = nB) ∧ Hid (OwnI (D + 2) wr' spA cA v) ∧ Hid (OwnI (D + 2) wr' spB cB' acc) ∧ Hid (Apart spA spB) ∧ Hid (Below (D + 1) w1 wr') ∧ Hid (nB = j) ∧ Hid (numsE l n k2 = prepE acc (numsE l (n - j) at_))) (fun _ jj _ => n - (intOf jj).toNat)
          case atStart =>
            refine ⟨0, k2, nA, cA, nB, cB', spA, spB, [], by omega, rfl, rfl, unhide TQ, unhide hbox, unhide hnA, by rw [← unhide R0]; exact unhide hnB, unhide hoA, by rw [← unhide R0]; exact unhide hoB, unhide hap, unhide hB, ?_, ?_⟩
            · show nB = 0
              rw [← unhide hnB, unhide R0]
              rfl
            · show _ = _
              rw [Nat.sub_zero]
              cases numsE l n k2 with
              | error x => rfl
              | ok s => obtain ⟨s, z⟩ := s; simp [prepE]
          case round =>
            clear hbox hnA hnB hoA hoB hap hB
            obtain ⟨j, at_, nA, cA, nB, cB', spA, spB, acc, hj, rfl, rfl, hat, hbox, hnA, hnB, hoA, hoB, hap, hB, hnj, hE⟩ := hrel
            by_cases hjm : j < n
            · have hj1 : (j : Int) < (n : Int) := by omega
              have hsub := hide (show n - j = (n - (j + 1)) + 1 by omega)
              have HBr := hide (unhide KEEPB _ (unhide hB))
              cases ht : takeE l at_ with
              | error x =>
                have R := hide (show getE l = .error x by rw [getE, unhide P1]; simp only; rw [show listE l p = .error x from by rw [unhide LE, unhide hE, unhide hsub]; exact prep_bad acc ht])
                have hx0 := (takeE_err ht).2
                have hx0' : ¬ ((x : Int) = 0) := by omega
                go_wp2_with fail
                refine (refTake_bad m at_ x (at_ : Int) (unhide HM) rfl (unhide HX) (unhide hat) (unhide HBr) ht).mono ?_
                rintro e w5 ⟨rfl, rfl⟩
                obtain ⟨W, y0, y1, bW, hW, z0, z1, z2, z3⟩ := unhide DONE _ (unhide hB)
                have HW := hide hW
                clear hW
                go_wp2_with fail
                rw [unhide HW]
                go_wp2
                refine bodyPost_ret (v := .tuple #[mV none 0 0 none 0 0, .int .i64 (x : Int)]) (by simp [results, Tryz.results65, go_sem, y0, y1]) rfl ?_
                exact ⟨by rw [unhide R]; exact ⟨rfl, hx0⟩, by first | exact bW | (rw [hD]; exact bW)⟩
              | ok s =>
                obtain ⟨y, k3⟩ := s
                have TQ3 := hide (takeE_back (unhide HBr).lt ht).2.2.1
                have ty := (takeE_back (unhide HBr).lt ht).2.2.2
                have R := hide (show numsE l n k2 = prepE (acc ++ [(y : Int)]) (numsE l (n - (j + 1)) k3) by rw [unhide hE, unhide hsub]; exact prep_step acc ht)
                have hq0' : ¬ ((q : Int) = 0) := by omega
                have c0 := box_cell (unhide hbox) 0 _ rfl
                have c1 := box_cell (unhide hbox) 1 _ rfl
                go_wp2_with fail
                refine (refTake_ok m at_ y k3 (at_ : Int) (unhide HM) rfl (unhide HX) (unhide hat) (unhide HBr) ht).mono ?_
                rintro e w5 ⟨rfl, rfl⟩
                go_wp2_with (at_builtin; refine unhide ?_)
                refine hide ?_
                have ba : Below w5.heap.size w5 (w5.alloc (.cells #[.int .i64 (y : Int)] 3)) := (Below.refl _ _).alloc (Nat.le_refl _) _
                have hs5 : D + 2 ≤ w5.heap.size := by have := (unhide hB).size; have := unhide ZE; omega
                have hs2 : D + 2 ≤ (w5.alloc (.cells #[.int .i64 (y : Int)] 3)).heap.size := Nat.le_trans hs5 ba.size
                refine wpList_appendI rfl (.tmp 60) (.tmp 62) rfl (D + 2) spB nB cB' acc rfl (unhide hnB) ((unhide hoB).later ba) (some ⟨w5.heap.size, 0, none⟩) 1 1 rfl [(y : Int)] rfl (ints_one (heap_new _ _) (by omega)) (fun h => by cases h) (by have := unhide hnB; have := unhide hnj; omega) hs2 ?_
                intro sp4 n4 k4 w6 hn4 o4 g4
                have N4 := hide (unhide hn4)
                have J4 := hide (show n4 = j + 1 by rw [← unhide hn4, List.length_append, unhide hnB, unhide hnj]; rfl)
                have AP4 := hide ((unhide hap).right g4 ((unhide hoA).later ba))
                have OO := hide (((unhide hoA).later ba).stayA (unhide hap) g4)
                have B6 := hide ((unhide hB).trans ((ba.mono (by omega)).trans ((GrewI.below g4 ((unhide hoB).later ba) hs2).mono (by omega))))
                have X6 := hide (show w6.heap[D + 1]? = some (mB spA nA cA spB nB cB') from ((GrewI.below g4 ((unhide hoB).later ba) hs2).block (D + 1) (by omega)).trans (later_block ba (unhide hbox)))
                have z0 := box_cell (unhide X6) 0 _ rfl
                have z1 := box_cell (unhide X6) 1 _ rfl
                have z2 := mbox_free (unhide X6) 1
                have X7 := hide (heap_setCell_same w6 (D + 1) 1 _ 26 (.slice sp4 n4 k4) (unhide X6))
                have gs := grown_set w6 (D + 1) 1 (.slice sp4 n4 k4)
                have O7 := hide (o4.kept gs (fun g hg e => by have h1 := (o4.blk_lt g hg).1; have h2 := Option.some.inj e; omega))
                have OO7 := hide ((unhide OO).kept gs (fun g hg e => by have h1 := ((unhide OO).blk_lt g hg).1; have h2 := Option.some.inj e; omega))
                have B7 := hide ((unhide B6).grown gs (by have := (unhide B6).size; have := unhide ZE; omega) (fun g e => by have := Option.some.inj e; omega))
                clear o4 g4 hn4 ba hs2 hs5 gs OO
                go_wp2
                exact ⟨⟨j + 1, k3, nA, cA, n4, k4, spA, sp4, acc ++ [(y : Int)], by omega, rfl, by go_num, unhide TQ3, unhide X7, unhide hnA, unhide N4, unhide OO7, unhide O7, unhide AP4, unhide B7, unhide J4, unhide R⟩, by simp [intOf]; omega⟩
            · obtain rfl : j = n := by omega
              have NE := hide (show numsE l j k2 = .ok (acc, at_) by rw [unhide hE, Nat.sub_self]; simp [numsE, prepE])
              have SQ := hide (show SpecQ l (q + 1) at_ v acc from .inr (.inr ⟨by omega, p, unhide P1, by rw [unhide LE]; exact unhide NE⟩))
              go_wp2
              exact ⟨⟨q + 1, at_, nA, cA, nB, cB', spA, spB, v, acc, by omega, rfl, by go_num, unhide hat, unhide hbox, unhide hnA, unhide hnB, unhide hoA, unhide hoB, unhide hap, unhide hB, unhide SQ⟩, by simp [intOf]; omega⟩
    · have hq2 : ¬ ((q : Int) < 2) := by omega
      have GE := hide (show getE l = if p = m then (if rightM v r then .ok (v, r) else .error 4) else .error 4 by rw [getE, eL]; simp only; rw [eR]; simp only; rw [unhide HM])
      clear eL eR hS
      have c0 := box_cell (unhide hbox) 0 _ rfl
      have c1 := box_cell (unhide hbox) 1 _ rfl
      by_cases hqm : p = m
      · subst hqm
        have mA : nA ≤ maxLen := by
          have h1 := (unhide hoA).cap
          rw [unhide hnA] at h1
          exact Nat.le_trans h1.1 h1.2
        have mB' : nB ≤ maxLen := by
          have h1 := (unhide hoB).cap
          rw [unhide hnB] at h1
          exact Nat.le_trans h1.1 h1.2
        go_wp2_with fail
        refine (refRight_calls (unhide hoA).ints (unhide hoB).ints nA nB (unhide hnA) (unhide hnB) mA mB').mono ?_
        rintro e w5 ⟨rfl, b5⟩
        have F5 := hide ((unhide hB).trans (b5.mono (by have := (unhide hB).size; have := unhide ZE; omega)))
        have X5 := hide (later_block b5 (unhide hbox))
        have OA5 := hide ((unhide hoA).later b5)
        have OB5 := hide ((unhide hoB).later b5)
        clear b5 c0 c1
        have c0 := box_cell (unhide X5) 0 _ rfl
        have c1 := box_cell (unhide X5) 1 _ rfl
        cases hr : rightM v r
        · have R := hide (show getE l = .error 4 by rw [unhide GE]; simp [hr])
          obtain ⟨W, y0, y1, bW, hW, z0, z1, z2, z3⟩ := unhide DONE w5 (unhide F5)
          have HW := hide hW
          clear hW
          go_wp2_with fail
          rw [unhide HW]
          go_wp2
          refine bodyPost_ret (v := .tuple #[mV none 0 0 none 0 0, .int .i64 4]) (by simp [results, Tryz.results65, go_sem, y0, y1]) rfl ?_
          exact ⟨by rw [unhide R]; exact ⟨rfl, by decide⟩, by first | exact bW | (rw [hD]; exact bW)⟩
        · have R := hide (show getE l = .ok (v, r) by rw [unhide GE]; simp [hr])
          have Y5 := hide (((unhide F5).block D (by omega)).trans (unhide Y1))
          obtain ⟨W, y0, y1, gW, hW⟩ := two_sets (unhide Y5) (.slice spA nA cA) (.slice spB nB cB')
          have HW := hide hW
          have z0 := box_cell (unhide Y5) 0 _ rfl
          have z1 := box_cell (unhide Y5) 1 _ rfl
          have z2 := mbox_free (unhide Y5) 0
          have z3 := mbox_free (unhide Y5) 1
          have OAW := hide ((unhide OA5).kept gW (fun g hg e => by have h1 := ((unhide OA5).blk_lt g hg).1; have h2 := Option.some.inj e; omega))
          have OBW := hide ((unhide OB5).kept gW (fun g hg e => by have h1 := ((unhide OB5).blk_lt g hg).1; have h2 := Option.some.inj e; omega))
          have bW := hide ((unhide b1).trans (Below.grown ((unhide F5).mono (by omega) : Below D w1 _) gW (by have := (unhide F5).size; have := unhide ZE; omega) (fun g e => by have := Option.some.inj e; omega)))
          clear hW gW
          go_wp2_with fail
          rw [unhide HW]
          go_wp2
          refine bodyPost_ret (v := .tuple #[mV spA nA cA spB nB cB', .int .i64 0]) (by simp [results, Tryz.results65, go_sem, y0, y1]) rfl ?_
          refine ⟨?_, by first | exact unhide bW | (rw [hD]; exact unhide bW)⟩
          rw [unhide R]
          exact ⟨spA, nA, cA, spB, nB, cB', rfl, unhide hnA, unhide hnB, (unhide OAW).mono (by omega), (unhide OBW).mono (by omega)⟩
      · have hqm' : ¬ ((p : Int) = (m : Int)) := by omega
        have R := hide (show getE l = .error 4 by rw [unhide GE, if_neg hqm])
        obtain ⟨W, y0, y1, bW, hW, z0, z1, z2, z3⟩ := unhide DONE _ (unhide hB)
        have HW := hide hW
        clear hW
        go_wp2_with fail
        rw [unhide HW]
        go_wp2
        refine bodyPost_ret (v := .tuple #[mV none 0 0 none 0 0, .int .i64 4]) (by simp [results, Tryz.results65, go_sem, y0, y1]) rfl ?_
        exact ⟨by rw [unhide R]; exact ⟨rfl, by decide⟩, by first | exact bW | (rw [hD]; exact bW)⟩
end
end Go.Proofs.YtagncghpfdjkmaaGreatDoor
end
/- The contract of tollgateref01.Next: what a frame at a place holds, or the error. -/
section
namespace Go.Proofs.YtagncghpfdjkmaaGreatDoor
open Go.ChangeShapes Go.WideShapes Go.ChangeAt Go.RowKit

theorem refNext_short (a : Option Addr) (c : Nat) (l : List Nat) (k : Nat) (w : World) (hl : l.length ≤ maxLen) (hk : k ≤ l.length) (h : l.length - k < 8) :
    Calls Tryz.prog 63 #[.slice a l.length c, .int .i64 (k : Int)] w fun e w' => e = .returned (.tuple #[.slice none 0 0, .int .i64 0, .int .i64 3]) ∧ w' = w := by
  unfold maxLen at hl
  have h0 : ¬ (k : Int) < 0 := by omega
  have h1 : ¬ (l.length : Int) < (k : Int) := by omega
  go_enter Tryz.func63, Tryz.ntmps63
  go_wp2
  go_ret3
  exact ⟨rfl, rfl⟩
theorem small_room (n : Nat) (h : n ≤ 65536) : ([] : List Nat).length + n ≤ 140737488355328 := by simp only [List.length_nil]; omega
theorem number_calls' (a : Option Addr) (c : Nat) (l : List Nat) (k : Nat) (kk : Int) (w : World) (hkk : kk = (k : Int)) (hl : l.length ≤ maxLen) (hk : k + 4 ≤ l.length) (hb : BytesAt w a l) :
    Calls Tryz.prog 109 #[.slice a l.length c, .int .i64 kk] w fun e w' => e = .returned (.int .i64 ((num4 (l.drop k) : Nat) : Int)) ∧ w' = w := by
  subst hkk; exact number_calls a c l k w hl hk hb

set_option maxHeartbeats 1000000 in
theorem refNext_calls (a : Option Addr) (c : Nat) (l : List Nat) (k : Nat) (w : World) (hl : l.length ≤ 140737488355328) (hc : l.length ≤ c) (hz : a = none → c = 0) (hk : k ≤ l.length) (h8 : ¬ l.length - k < 8) (hb : BytesAt w a l) :
    Calls Tryz.prog 63 #[.slice a l.length c, .int .i64 (k : Int)] w fun e w' => Below w.heap.size w w' ∧
      ((0 < nextE l k ∧ e = .returned (.tuple #[.slice none 0 0, .int .i64 0, .int .i64 (nextE l k : Nat)])) ∨
       (nextE l k = 0 ∧ ∃ sp c', e = .returned (.tuple #[.slice sp (nextH l k).length c', .int .i64 ((k + 8 + (nextH l k).length : Nat) : Int), .int .i64 0]) ∧ OwnB w.heap.size w' sp c' (nextH l k))) := by
  have hl' : l.length ≤ maxLen := by simp only [maxLen]; omega
  have h0 : ¬ (k : Int) < 0 := by omega
  have h1 : ¬ (l.length : Int) < (k : Int) := by omega
  have h2 : ¬ (l.length : Int) - (k : Int) < 8 := by omega
  have HL := hide hl'
  have s1 := run_slice_lh8 a l.length c k (k + 4) (by omega) (by omega)
  have B1 := hide ((hb.drop k c hc).take 4)
  have hp0 : slp a k c = none → a = none := by unfold slp; split <;> simp
  have HB := hide hb
  have e1 : ((k + 4 : Nat) : Int) = (k : Int) + 4 := by omega
  rw [e1] at s1
  rw [show k + 4 - k = 4 by omega] at s1
  generalize hp1 : slp a k c = p1 at *
  clear e1 hb hp1 hl' hp0
  have HE : Hid (nextE l k = if 65536 < num4 (l.drop k) then 6 else if l.length - k - 8 < num4 (l.drop k) then 3
    else if Crc.ext (Crc.ext 0 ((l.drop k).take 4)) ((l.drop (k + 8)).take (num4 (l.drop k))) = num4 (l.drop (k + 4)) then 0 else 5) := by
    show _ = _
    rw [nextE, if_neg h8]
  have HH : Hid (nextH l k = (l.drop (k + 8)).take (num4 (l.drop k))) := by show _ = _; rw [nextH]
  have hn4 := num4_lt (fun c hc => (unhide HB).lt c (List.mem_of_mem_drop hc) : ∀ c ∈ l.drop k, c < 256)
  have hsm4 := num4_lt (fun c hc => (unhide HB).lt c (List.mem_of_mem_drop hc) : ∀ c ∈ l.drop (k + 4), c < 256)
  have L1 := hide (show ((l.drop k).take 4).length = 4 by simp; omega)
  have L1m := hide (show ((l.drop k).take 4).length ≤ maxLen by simp [maxLen]; omega)
  go_enter Tryz.func63, Tryz.ntmps63
  go_wp2_with fail
  refine (number_calls _ _ l k _ (unhide HL) (by omega) (unhide HB)).mono ?_
  rintro e w1 ⟨rfl, rfl⟩
  generalize hnn : num4 (l.drop k) = n at *
  have Hn := hide hnn
  clear hnn
  by_cases hA : 65536 < n
  · have HE' := hide ((unhide HE).trans (if_pos hA))
    go_wp2
    go_ret3
    refine ⟨Below.refl _ _, Or.inl ⟨by rw [unhide HE']; omega, by rw [unhide HE']; rfl⟩⟩
  · have HE' := hide ((unhide HE).trans (if_neg hA))
    have hA' : ¬ 65536 < (n : Int) := by omega
    by_cases hC : l.length - k - 8 < n
    · have HE2 := hide ((unhide HE').trans (if_pos hC))
      have hC' : (l.length : Int) - (k : Int) - 8 < (n : Int) := by omega
      go_wp2
      go_ret3
      refine ⟨Below.refl _ _, Or.inl ⟨by rw [unhide HE2]; omega, by rw [unhide HE2]; rfl⟩⟩
    · have HE2 := hide ((unhide HE').trans (if_neg hC))
      have hC' : ¬ (l.length : Int) - (k : Int) - 8 < (n : Int) := by omega
      have s3 := run_slice_lh8 a l.length c (k + 8) (k + 8 + n) (by omega) (by omega)
      have B3 := hide (((unhide HB).drop (k + 8) c hc).take n)
      have hp0 : slp a (k + 8) c = none → c - (k + 8) = 0 := by
        unfold slp
        split
        · omega
        · intro hh
          have := hz (by simpa using hh)
          omega
      have Hp := hide hp0
      have e3 : ((k + 8 : Nat) : Int) = (k : Int) + 8 := by omega
      have e4 : ((k + 8 + n : Nat) : Int) = (k : Int) + 8 + (n : Int) := by omega
      rw [e3, e4] at s3
      rw [show k + 8 + n - (k + 8) = n by omega] at s3
      generalize hp3 : slp a (k + 8) c = p3 at *
      have hL3 : ((l.drop (k + 8)).take n).length = n := by simp; omega
      have L3 := hide hL3
      have L3m := hide (show ((l.drop (k + 8)).take n).length ≤ maxLen by rw [hL3]; simp [maxLen]; omega)
      have Hz := hide hz
      have hX : (k : Int) + 8 + (n : Int) ≤ (l.length : Int) := by omega
      have hY : (n : Int) ≤ 65536 := by omega
      have hl47 : (l.length : Int) ≤ 140737488355328 := by omega
      have HA := hide hA
      have t1 : decide (65536 < (n : Int)) = false := by simp; omega
      have t2 : decide ((l.length : Int) - (k : Int) - 8 < (n : Int)) = false := by simp; omega
      clear e3 e4 hp3 hL3 hp0 hz hC hC' h8 h0 h1 h2 hk hc hl hA hA' hn4
      generalize hXX : (l.drop (k + 8)).take n = X at *
      clear hXX
      have o1 := hide (OwnB.empty w1 w1.heap.size (Nat.le_refl _))
      have b1 := hide (show Below w1.heap.size w1 (w1.alloc (.cells #[] 5)) from (Below.refl _ _).alloc (Nat.le_refl _) _)
      go_wp2_with (at_builtin; refine wpList_append8 rfl (.tmp 34) (.tmp 42) rfl w1.heap.size (some ⟨w1.heap.size, 0, none⟩) 0 0 [] rfl rfl (by exact unhide o1) p3 n _ rfl X (unhide L3) (by exact (unhide B3).later (unhide b1)) (unhide Hp) (small_room n (Nat.le_of_not_lt (unhide HA))) ?b1 ?_; rotate_right; intro sp1 n1 k1 W1 hn1 ho1 hgr1 hbl1)
      case b1 => simp
      have bW1 := (unhide b1).trans hbl1
      rw [List.nil_append] at ho1 hn1
      have HO1 := hide ho1
      have HOB := hide ho1.bytes
      have BW1 := hide bW1
      have B1W := hide ((unhide B1).later bW1)
      have HBW := hide ((unhide HB).later bW1)
      clear hgr1 hbl1 ho1 bW1
      refine (refSum_calls' _ 4 _ ((l.drop k).take 4) _ (unhide L1) (unhide L1m) (unhide B1W)).mono ?_
      rintro e W2 ⟨rfl, rfl⟩
      go_wp2_with fail
      refine (refExtend_calls' _ _ _ _ X _ (unhide hn1) (Crc.ext_lt _ _) (unhide L3m) (unhide HOB)).mono ?_
      rintro e W3 ⟨rfl, rfl⟩
      have hel := Crc.ext_lt (Crc.ext 0 ((l.drop k).take 4)) X
      have hnu := (unhide hn1).symm.trans (unhide L3)
      generalize hss : Crc.ext (Crc.ext 0 ((l.drop k).take 4)) X = ss at *
      clear hss
      go_wp2_with fail
      refine (number_calls' _ _ l (k + 4) _ _ (by omega) (unhide HL) (by omega) (unhide HBW)).mono ?_
      rintro e W4 ⟨rfl, rfl⟩
      generalize hsm : num4 (l.drop (k + 4)) = sm at *
      clear hsm
      by_cases hD : ss = sm
      · have HE3 := hide ((unhide HE2).trans (if_pos hD))
        have hD' : ((ss : Int) != (sm : Int)) = false := by rw [hD]; simp
        have HHn := hide ((congrArg List.length (unhide HH)).trans (unhide L3))
        have Hnu := hide hnu
        clear hnu
        go_wp2
        go_ret3
        refine ⟨unhide BW1, Or.inr ⟨unhide HE3, sp1, k1, ?_, by rw [unhide HH]; exact unhide HO1⟩⟩
        rw [unhide HHn]
        rfl
      · have HE3 := hide ((unhide HE2).trans (if_neg hD))
        have hD' : ((ss : Int) != (sm : Int)) = true := by simp; omega
        have Hnu := hide hnu
        clear hnu
        go_wp2
        go_ret3
        refine ⟨unhide BW1, Or.inl ⟨by rw [unhide HE3]; omega, by rw [unhide HE3]; rfl⟩⟩
end Go.Proofs.YtagncghpfdjkmaaGreatDoor
end
