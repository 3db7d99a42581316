/- Proved: what is put is got as it was, and no other bytes are taken for it, whatever the members, the change and the bytes; no condition. -/
import Derived.Test.YtnclkkoefejjiaaMbk
namespace Go.Proofs.Ytnclkkoefejjiaa.memberBack
open Go.ChangeShapes Go.WideShapes Go.ChangeAt Go.RowKit
set_option linter.unusedVariables false

theorem own : ownKnob Try.prog.godebug = none := by kernel_rfl
theorem laidOut : laidOutB Try.prog = true := by kernel_rfl

set_option maxRecDepth 20000 in
set_option maxHeartbeats 16000000 in
theorem walk (va0 : Option Addr) (vc0 : Nat) (vs0 : List Int) (la0 : Option Addr) (lc0 : Nat) (ls0 : List Int) (t1 u1 : Int) (a2 : Option Addr) (c2 : Nat) (l2 : List Nat) (w : World)
    (hsv0 : vs0.length * 8 ≤ 140737488351232) (hV0 : IntsAt w va0 vs0) (_ : va0 = none → vc0 = 0) (hsl0 : ls0.length * 8 ≤ 140737488351232) (hL0 : IntsAt w la0 ls0) (_ : la0 = none → lc0 = 0)
    (_ : -9223372036854775808 ≤ t1 ∧ t1 ≤ 9223372036854775807) (_ : -9223372036854775808 ≤ u1 ∧ u1 ≤ 9223372036854775807)
    (hc2 : l2.length ≤ c2) (hm2 : c2 ≤ 140737488355328) (hb2 : BytesAt w a2 l2) (_ : a2 = none → c2 = 0) :
    Calls Try.prog 14 #[mV va0 vs0.length vc0 la0 ls0.length lc0, .agg #[.int .i64 t1, .int .i64 u1], .slice a2 l2.length c2] w fun e w' => e = .returned (.bool true) ∧ Below w.heap.size w w' := by
  obtain ⟨vn, hvn⟩ : ∃ n, vs0.length = n := ⟨_, rfl⟩
  obtain ⟨ln, hln⟩ : ∃ n, ls0.length = n := ⟨_, rfl⟩
  obtain ⟨n2, hn2⟩ : ∃ n, l2.length = n := ⟨_, rfl⟩
  rw [hvn] at hsv0
  rw [hln] at hsl0
  rw [hn2] at hc2
  rw [hvn, hln, hn2]
  have hvx : vn ≤ maxLen := by simp only [maxLen]; omega
  have hlx : ln ≤ maxLen := by simp only [maxLen]; omega
  have m2 : n2 ≤ maxLen := by simp only [maxLen]; omega
  have b1 := hide (show Below w.heap.size w ((w.alloc (mB va0 vn vc0 la0 ln lc0)).alloc (cB t1 u1)) from ((Below.refl _ _).alloc (Nat.le_refl _) _).alloc (by simp) _)
  have X1 := hide (heap_old (cB t1 u1) (heap_new w (mB va0 vn vc0 la0 ln lc0)))
  have C1 := hide (show ((w.alloc (mB va0 vn vc0 la0 ln lc0)).alloc (cB t1 u1)).heap[w.heap.size + 1]? = some (cB t1 u1) by
    have := heap_new (w.alloc (mB va0 vn vc0 la0 ln lc0)) (cB t1 u1)
    rwa [World.size_alloc] at this)
  have V := hide (hV0.later (unhide b1))
  have L := hide (hL0.later (unhide b1))
  have P := hide (hb2.later (unhide b1))
  have VN := hide hvn
  have LN := hide hln
  have N2 := hide hn2
  have c0 := box_cell (unhide X1) 0 _ rfl
  have c1 := box_cell (unhide X1) 1 _ rfl
  clear hV0 hL0 hvn hln hb2 hn2
  go_enter Try.func14, Try.ntmps14
  go_wp2_with fail
  generalize hD : w.heap.size = D at *
  generalize (w.alloc (mB va0 vn vc0 la0 ln lc0)).alloc (cB t1 u1) = w1 at *
  have LIVE := hide (show ∀ W W' : World, Below w1.heap.size w1 W → Below W.heap.size W W' → Below D w W' from fun W W' h k => (unhide b1).trans ((h.trans (k.mono h.size)).mono (by have := (unhide b1).size; omega)))
  -- the third part: bytes that are got are put as they were
  have THIRD := hide (show ∀ (v r : List Int), getE l2 = .ok (v, r) → putE v r = 0 ∧ putB v r = l2 from fun v r h => by
    obtain ⟨h1, h2⟩ := get_back (unhide P).lt h
    exact ⟨by rw [putE, h1]; rfl, by rw [putB, h1]; exact h2⟩)
  refine (mput_calls (unhide V) (unhide L) vn ln (unhide VN) (unhide LN) hvx hlx).mono ?_
  rintro e w2 ⟨sp2, k2, q2, rfl, hk2, ho2, b2⟩
  have F2 := hide b2
  have K2 := hide (unhide hk2)
  have O2 := hide ho2.bytes
  have FIRST := hide (show putE vs0 ls0 = 0 → rightM vs0 ls0 = true ∧ getE (putB vs0 ls0) = .ok (vs0, ls0) from fun h => by
    cases hr : rightM vs0 ls0 with
    | false => rw [putE, hr] at h; cases h
    | true => exact ⟨rfl, by rw [putB, hr]; exact get_at hr⟩)
  have LB := hide (show putE vs0 ls0 = 0 → (putB vs0 ls0).length ≤ maxLen from fun h => by
    have hr := (unhide FIRST h).1
    have := right_parts hr
    rw [putB, hr]
    simp only [if_true, listB, List.length_append, List.length_cons, List.length_map, maxLen]
    omega)
  have F := hide (unhide F2)
  clear b2 ho2 hk2 c0 c1
  by_cases hp : putE vs0 ls0 = 0
  · obtain ⟨hr, hg1⟩ := unhide FIRST hp
    have L2 := hide (show k2 ≤ maxLen by rw [← unhide K2]; exact unhide LB hp)
    rw [hp]
    clear hp
    go_wp2_with fail
    refine (mget_calls (unhide O2) k2 (unhide K2) (unhide L2)).mono ?_
    rw [hg1]
    rintro e w3 ⟨hres, b3⟩
    obtain ⟨spA, nA, cA, spB, nB, cB', rfl, hnA, hnB, oA, oB⟩ := hres
    obtain rfl : nA = vn := hnA.symm.trans (unhide VN)
    obtain rfl : nB = ln := hnB.symm.trans (unhide LN)
    have F := hide ((unhide F).trans (b3.mono (unhide F).size))
    have b4 := hide (show Below w3.heap.size w3 (w3.alloc (mB spA nA cA spB nB cB')) from (Below.refl _ _).alloc (Nat.le_refl _) _)
    have Z4 := hide (heap_new w3 (mB spA nA cA spB nB cB'))
    have IA := hide (oA.ints.later (unhide b4))
    have IB := hide (oB.ints.later (unhide b4))
    have F := hide ((unhide F).trans ((unhide b4).mono (unhide F).size))
    have XX := hide (later_block (unhide F) (unhide X1))
    have c0 := box_cell (unhide XX) 0 _ rfl
    have c1 := box_cell (unhide XX) 1 _ rfl
    have z0 := box_cell (unhide Z4) 0 _ rfl
    have z1 := box_cell (unhide Z4) 1 _ rfl
    clear hnA hnB oA oB b3
    go_wp2_with fail
    refine (same_calls (unhide IA) (unhide IB) ((unhide V).later (unhide F)) ((unhide L).later (unhide F)) nA nB nA nB (unhide VN) (unhide LN) (unhide VN) (unhide LN) hvx hlx hvx hlx).mono ?_
    rw [show (decide (vs0 = vs0) && decide (ls0 = ls0)) = true by simp]
    rintro e w4 ⟨rfl, b5⟩
    have F := hide ((unhide F).trans (b5.mono (unhide F).size))
    clear b5 c0 c1 z0 z1
    have CX := hide (later_block (unhide F) (unhide C1))
    have e0 := box_cell (unhide CX) 0 _ rfl
    have e1 := box_cell (unhide CX) 1 _ rfl
    go_wp2_with fail
    refine (mputC_calls t1 u1).mono ?_
    rintro e w5 ⟨sp3, n3, k3, rfl, hn3, ho3, b3⟩
    have F := hide ((unhide F).trans (b3.mono (unhide F).size))
    have O3 := hide ho3.bytes
    have N3 := hide (unhide hn3)
    clear b3 ho3 hn3 e0 e1
    cases hmay : mayM t1 u1
    · have E2 := hide (show putCE t1 u1 = 2 by rw [putCE, hmay]; rfl)
      rw [unhide E2]
      go_wp2_with fail
      refine (mget_calls ((unhide P).later (unhide F)) n2 (unhide N2) m2).mono ?_
      rintro e wa ⟨hres, ba⟩
      have F := hide ((unhide F).trans (ba.mono (unhide F).size))
      clear ba
      unfold GetRes at hres
      cases hg : getE l2 with
      | error x =>
        rw [hg] at hres
        obtain ⟨rfl, hx0⟩ := hres
        have hx0' : ¬ ((x : Int) = 0) := by omega
        have F := hide ((unhide F).trans (((Below.refl _ _).alloc (Nat.le_refl _) (mB none 0 0 none 0 0)).mono (unhide F).size))
        go_wp2_with fail
        refine (live3_calls _).mono ?_
        rintro e wb ⟨rfl, bb⟩
        have FZ := hide (unhide LIVE _ _ (unhide F) bb)
        clear bb
        go_wp2
        go_ret
        exact ⟨rfl, by first | exact unhide FZ | (rw [hD]; exact unhide FZ)⟩
      | ok r =>
        obtain ⟨v, r⟩ := r
        rw [hg] at hres
        obtain ⟨spA, nA, cA, spB, nB, cB', rfl, hnA, hnB, oA, oB⟩ := hres
        obtain ⟨pe, pb⟩ := unhide THIRD v r hg
        have PE := hide pe
        have PB := hide pb
        have NA := hide hnA
        have NB := hide hnB
        have mA : nA ≤ maxLen := by
          have h1 := oA.cap
          rw [hnA] at h1
          exact Nat.le_trans h1.1 h1.2
        have mB' : nB ≤ maxLen := by
          have h1 := oB.cap
          rw [hnB] at h1
          exact Nat.le_trans h1.1 h1.2
        have bc := hide (show Below wa.heap.size wa (wa.alloc (mB spA nA cA spB nB cB')) from (Below.refl _ _).alloc (Nat.le_refl _) _)
        have ZC := hide (heap_new wa (mB spA nA cA spB nB cB'))
        have IA := hide (oA.ints.later (unhide bc))
        have IB := hide (oB.ints.later (unhide bc))
        have F := hide ((unhide F).trans ((unhide bc).mono (unhide F).size))
        have z0 := box_cell (unhide ZC) 0 _ rfl
        have z1 := box_cell (unhide ZC) 1 _ rfl
        clear hnA hnB oA oB pe pb
        go_wp2_with fail
        refine (mput_calls (unhide IA) (unhide IB) nA nB (unhide NA) (unhide NB) mA mB').mono ?_
        rw [unhide PE, unhide PB]
        rintro e wd ⟨sp5, n5, k5, rfl, hn5, ho5, b5⟩
        have F := hide ((unhide F).trans (b5.mono (unhide F).size))
        have s1 := run_string8 n5 k5 (unhide hn5) ho5.bytes
        have s2 := run_string8 n2 c2 (unhide N2) ((unhide P).later (unhide F))
        generalize strOf l2 = str at *
        clear b5 ho5 z0 z1
        go_wp2_with fail
        refine (live3_calls _).mono ?_
        rintro e we ⟨rfl, be⟩
        have FZ := hide (unhide LIVE _ _ (unhide F) be)
        clear be
        go_wp2
        go_ret
        exact ⟨rfl, by first | exact unhide FZ | (rw [hD]; exact unhide FZ)⟩
    · have E2 := hide (show putCE t1 u1 = 0 by rw [putCE, hmay]; rfl)
      have B2 := hide (show putCB t1 u1 = [t1.toNat, u1.toNat] by rw [putCB, hmay]; rfl)
      rw [unhide E2]
      rw [unhide B2] at O3 N3
      go_wp2_with fail
      refine (mgetC_calls (unhide O3) n3 (unhide N3) (by rw [← unhide N3]; simp [maxLen])).mono ?_
      rw [getC_at hmay]
      rintro e w6 ⟨hres, b6⟩
      obtain rfl : e = .returned (.tuple #[cV t1 u1, .int .i64 0]) := hres
      have F := hide ((unhide F).trans (b6.mono (unhide F).size))
      have F := hide ((unhide F).trans (((Below.refl _ _).alloc (Nat.le_refl _) (cB t1 u1)).mono (unhide F).size))
      have CX := hide (later_block (unhide F) (unhide C1))
      have e0 := box_cell (unhide CX) 0 _ rfl
      have e1 := box_cell (unhide CX) 1 _ rfl
      have ZC := hide (heap_new w6 (cB t1 u1))
      have z0 := box_cell (unhide ZC) 0 _ rfl
      have z1 := box_cell (unhide ZC) 1 _ rfl
      clear b6
      go_wp2_with fail
      refine (mget_calls ((unhide P).later (unhide F)) n2 (unhide N2) m2).mono ?_
      rintro e wa ⟨hres, ba⟩
      have F := hide ((unhide F).trans (ba.mono (unhide F).size))
      clear ba
      unfold GetRes at hres
      cases hg : getE l2 with
      | error x =>
        rw [hg] at hres
        obtain ⟨rfl, hx0⟩ := hres
        have hx0' : ¬ ((x : Int) = 0) := by omega
        have F := hide ((unhide F).trans (((Below.refl _ _).alloc (Nat.le_refl _) (mB none 0 0 none 0 0)).mono (unhide F).size))
        go_wp2_with fail
        refine (live3_calls _).mono ?_
        rintro e wb ⟨rfl, bb⟩
        have FZ := hide (unhide LIVE _ _ (unhide F) bb)
        clear bb
        go_wp2
        go_ret
        exact ⟨rfl, by first | exact unhide FZ | (rw [hD]; exact unhide FZ)⟩
      | ok r =>
        obtain ⟨v, r⟩ := r
        rw [hg] at hres
        obtain ⟨spA, nA, cA, spB, nB, cB', rfl, hnA, hnB, oA, oB⟩ := hres
        obtain ⟨pe, pb⟩ := unhide THIRD v r hg
        have PE := hide pe
        have PB := hide pb
        have NA := hide hnA
        have NB := hide hnB
        have mA : nA ≤ maxLen := by
          have h1 := oA.cap
          rw [hnA] at h1
          exact Nat.le_trans h1.1 h1.2
        have mB' : nB ≤ maxLen := by
          have h1 := oB.cap
          rw [hnB] at h1
          exact Nat.le_trans h1.1 h1.2
        have bc := hide (show Below wa.heap.size wa (wa.alloc (mB spA nA cA spB nB cB')) from (Below.refl _ _).alloc (Nat.le_refl _) _)
        have ZC := hide (heap_new wa (mB spA nA cA spB nB cB'))
        have IA := hide (oA.ints.later (unhide bc))
        have IB := hide (oB.ints.later (unhide bc))
        have F := hide ((unhide F).trans ((unhide bc).mono (unhide F).size))
        have z0 := box_cell (unhide ZC) 0 _ rfl
        have z1 := box_cell (unhide ZC) 1 _ rfl
        clear hnA hnB oA oB pe pb
        go_wp2_with fail
        refine (mput_calls (unhide IA) (unhide IB) nA nB (unhide NA) (unhide NB) mA mB').mono ?_
        rw [unhide PE, unhide PB]
        rintro e wd ⟨sp5, n5, k5, rfl, hn5, ho5, b5⟩
        have F := hide ((unhide F).trans (b5.mono (unhide F).size))
        have s1 := run_string8 n5 k5 (unhide hn5) ho5.bytes
        have s2 := run_string8 n2 c2 (unhide N2) ((unhide P).later (unhide F))
        generalize strOf l2 = str at *
        clear b5 ho5 z0 z1
        go_wp2_with fail
        refine (live3_calls _).mono ?_
        rintro e we ⟨rfl, be⟩
        have FZ := hide (unhide LIVE _ _ (unhide F) be)
        clear be
        go_wp2
        go_ret
        exact ⟨rfl, by first | exact unhide FZ | (rw [hD]; exact unhide FZ)⟩
  · have E1 := hide (show putE vs0 ls0 = 2 by
      cases hr : rightM vs0 ls0 with
      | false => rw [putE, hr]; rfl
      | true => exact absurd (by rw [putE, hr]; rfl) hp)
    rw [unhide E1]
    clear hp
    have CX := hide (later_block (unhide F) (unhide C1))
    have e0 := box_cell (unhide CX) 0 _ rfl
    have e1 := box_cell (unhide CX) 1 _ rfl
    go_wp2_with fail
    refine (mputC_calls t1 u1).mono ?_
    rintro e w5 ⟨sp3, n3, k3, rfl, hn3, ho3, b3⟩
    have F := hide ((unhide F).trans (b3.mono (unhide F).size))
    have O3 := hide ho3.bytes
    have N3 := hide (unhide hn3)
    clear b3 ho3 hn3 e0 e1
    cases hmay : mayM t1 u1
    · have E2 := hide (show putCE t1 u1 = 2 by rw [putCE, hmay]; rfl)
      rw [unhide E2]
      go_wp2_with fail
      refine (mget_calls ((unhide P).later (unhide F)) n2 (unhide N2) m2).mono ?_
      rintro e wa ⟨hres, ba⟩
      have F := hide ((unhide F).trans (ba.mono (unhide F).size))
      clear ba
      unfold GetRes at hres
      cases hg : getE l2 with
      | error x =>
        rw [hg] at hres
        obtain ⟨rfl, hx0⟩ := hres
        have hx0' : ¬ ((x : Int) = 0) := by omega
        have F := hide ((unhide F).trans (((Below.refl _ _).alloc (Nat.le_refl _) (mB none 0 0 none 0 0)).mono (unhide F).size))
        go_wp2_with fail
        refine (live3_calls _).mono ?_
        rintro e wb ⟨rfl, bb⟩
        have FZ := hide (unhide LIVE _ _ (unhide F) bb)
        clear bb
        go_wp2
        go_ret
        exact ⟨rfl, by first | exact unhide FZ | (rw [hD]; exact unhide FZ)⟩
      | ok r =>
        obtain ⟨v, r⟩ := r
        rw [hg] at hres
        obtain ⟨spA, nA, cA, spB, nB, cB', rfl, hnA, hnB, oA, oB⟩ := hres
        obtain ⟨pe, pb⟩ := unhide THIRD v r hg
        have PE := hide pe
        have PB := hide pb
        have NA := hide hnA
        have NB := hide hnB
        have mA : nA ≤ maxLen := by
          have h1 := oA.cap
          rw [hnA] at h1
          exact Nat.le_trans h1.1 h1.2
        have mB' : nB ≤ maxLen := by
          have h1 := oB.cap
          rw [hnB] at h1
          exact Nat.le_trans h1.1 h1.2
        have bc := hide (show Below wa.heap.size wa (wa.alloc (mB spA nA cA spB nB cB')) from (Below.refl _ _).alloc (Nat.le_refl _) _)
        have ZC := hide (heap_new wa (mB spA nA cA spB nB cB'))
        have IA := hide (oA.ints.later (unhide bc))
        have IB := hide (oB.ints.later (unhide bc))
        have F := hide ((unhide F).trans ((unhide bc).mono (unhide F).size))
        have z0 := box_cell (unhide ZC) 0 _ rfl
        have z1 := box_cell (unhide ZC) 1 _ rfl
        clear hnA hnB oA oB pe pb
        go_wp2_with fail
        refine (mput_calls (unhide IA) (unhide IB) nA nB (unhide NA) (unhide NB) mA mB').mono ?_
        rw [unhide PE, unhide PB]
        rintro e wd ⟨sp5, n5, k5, rfl, hn5, ho5, b5⟩
        have F := hide ((unhide F).trans (b5.mono (unhide F).size))
        have s1 := run_string8 n5 k5 (unhide hn5) ho5.bytes
        have s2 := run_string8 n2 c2 (unhide N2) ((unhide P).later (unhide F))
        generalize strOf l2 = str at *
        clear b5 ho5 z0 z1
        go_wp2_with fail
        refine (live3_calls _).mono ?_
        rintro e we ⟨rfl, be⟩
        have FZ := hide (unhide LIVE _ _ (unhide F) be)
        clear be
        go_wp2
        go_ret
        exact ⟨rfl, by first | exact unhide FZ | (rw [hD]; exact unhide FZ)⟩
    · have E2 := hide (show putCE t1 u1 = 0 by rw [putCE, hmay]; rfl)
      have B2 := hide (show putCB t1 u1 = [t1.toNat, u1.toNat] by rw [putCB, hmay]; rfl)
      rw [unhide E2]
      rw [unhide B2] at O3 N3
      go_wp2_with fail
      refine (mgetC_calls (unhide O3) n3 (unhide N3) (by rw [← unhide N3]; simp [maxLen])).mono ?_
      rw [getC_at hmay]
      rintro e w6 ⟨hres, b6⟩
      obtain rfl : e = .returned (.tuple #[cV t1 u1, .int .i64 0]) := hres
      have F := hide ((unhide F).trans (b6.mono (unhide F).size))
      have F := hide ((unhide F).trans (((Below.refl _ _).alloc (Nat.le_refl _) (cB t1 u1)).mono (unhide F).size))
      have CX := hide (later_block (unhide F) (unhide C1))
      have e0 := box_cell (unhide CX) 0 _ rfl
      have e1 := box_cell (unhide CX) 1 _ rfl
      have ZC := hide (heap_new w6 (cB t1 u1))
      have z0 := box_cell (unhide ZC) 0 _ rfl
      have z1 := box_cell (unhide ZC) 1 _ rfl
      clear b6
      go_wp2_with fail
      refine (mget_calls ((unhide P).later (unhide F)) n2 (unhide N2) m2).mono ?_
      rintro e wa ⟨hres, ba⟩
      have F := hide ((unhide F).trans (ba.mono (unhide F).size))
      clear ba
      unfold GetRes at hres
      cases hg : getE l2 with
      | error x =>
        rw [hg] at hres
        obtain ⟨rfl, hx0⟩ := hres
        have hx0' : ¬ ((x : Int) = 0) := by omega
        have F := hide ((unhide F).trans (((Below.refl _ _).alloc (Nat.le_refl _) (mB none 0 0 none 0 0)).mono (unhide F).size))
        go_wp2_with fail
        refine (live3_calls _).mono ?_
        rintro e wb ⟨rfl, bb⟩
        have FZ := hide (unhide LIVE _ _ (unhide F) bb)
        clear bb
        go_wp2
        go_ret
        exact ⟨rfl, by first | exact unhide FZ | (rw [hD]; exact unhide FZ)⟩
      | ok r =>
        obtain ⟨v, r⟩ := r
        rw [hg] at hres
        obtain ⟨spA, nA, cA, spB, nB, cB', rfl, hnA, hnB, oA, oB⟩ := hres
        obtain ⟨pe, pb⟩ := unhide THIRD v r hg
        have PE := hide pe
        have PB := hide pb
        have NA := hide hnA
        have NB := hide hnB
        have mA : nA ≤ maxLen := by
          have h1 := oA.cap
          rw [hnA] at h1
          exact Nat.le_trans h1.1 h1.2
        have mB' : nB ≤ maxLen := by
          have h1 := oB.cap
          rw [hnB] at h1
          exact Nat.le_trans h1.1 h1.2
        have bc := hide (show Below wa.heap.size wa (wa.alloc (mB spA nA cA spB nB cB')) from (Below.refl _ _).alloc (Nat.le_refl _) _)
        have ZC := hide (heap_new wa (mB spA nA cA spB nB cB'))
        have IA := hide (oA.ints.later (unhide bc))
        have IB := hide (oB.ints.later (unhide bc))
        have F := hide ((unhide F).trans ((unhide bc).mono (unhide F).size))
        have z0 := box_cell (unhide ZC) 0 _ rfl
        have z1 := box_cell (unhide ZC) 1 _ rfl
        clear hnA hnB oA oB pe pb
        go_wp2_with fail
        refine (mput_calls (unhide IA) (unhide IB) nA nB (unhide NA) (unhide NB) mA mB').mono ?_
        rw [unhide PE, unhide PB]
        rintro e wd ⟨sp5, n5, k5, rfl, hn5, ho5, b5⟩
        have F := hide ((unhide F).trans (b5.mono (unhide F).size))
        have s1 := run_string8 n5 k5 (unhide hn5) ho5.bytes
        have s2 := run_string8 n2 c2 (unhide N2) ((unhide P).later (unhide F))
        generalize strOf l2 = str at *
        clear b5 ho5 z0 z1
        go_wp2_with fail
        refine (live3_calls _).mono ?_
        rintro e we ⟨rfl, be⟩
        have FZ := hide (unhide LIVE _ _ (unhide F) be)
        clear be
        go_wp2
        go_ret
        exact ⟨rfl, by first | exact unhide FZ | (rw [hD]; exact unhide FZ)⟩

set_option maxRecDepth 100000 in
theorem lifted (os : Os) (started : os.Started) (H : Type) (enc : TypeId × Value → H) :
    ReturnsInHanded {} Try.checked os 14 .any (Rows.memberBackSpec.pre6 enc Try.prog Try.f14 Rows.memberBackRow.domain false) (Rows.memberBackSpec.post enc Try.prog Try.f14 false true false false) := by
  refine returnsInHanded_of_change_sized (C := Try.checked) own started (by kernel_rfl) Try.func14
    (ChangeSpec.witness6 (enc := enc) (C := Try.checked) false ⟨#[], #[.agg #[.slice none 0 0, .slice none 0 0], .agg #[.int .i64 0, .int .i64 0], .slice none 0 0], []⟩ 8 (by kernel_rfl) (by kernel_rfl) (by kernel_rfl) (by kernel_rfl)) ?_
  intro W base args ds gs before hval0 hW hcnd hsz _
  have hval : ∀ (j : Nat) t v, Try.f14.params[j]? = some t → args[j]? = some v → Value.okWide Try.prog W .any base t v := hval0
  have hW' := hW
  obtain ⟨p, q, hA0, hV, rfl, hfz, hnd⟩ := hW
  have hA : DataW.TrodAll enc Try.prog W 0 (fun _ => true) true Try.f14.params.toList args.toList ds p := hA0
  rw [Try.params14] at hA hval
  obtain ⟨v0, vs0, d0, ds0, p0, q0, hargs, rfl, rfl, h0, r0⟩ := trodAll_cons hA
  obtain ⟨v1, vs1, d1, ds1, p1, q1, rfl, rfl, rfl, h1, r1⟩ := trodAll_cons r0
  obtain ⟨v2, vs2, d2, ds2, p2, q2, rfl, rfl, rfl, h2, r2⟩ := trodAll_cons r1
  obtain ⟨rfl, rfl, rfl⟩ := trodAll_nil r2
  obtain rfl : args = #[v0, v1, v2] := by cases args; simp_all
  obtain ⟨rfl, rfl⟩ := trodVars_none hV
  have k0 := h0
  have lt0 : ∀ x ∈ p0, x.block < W.heap.size := by obtain ⟨m, hm⟩ := k0; exact DataW.trod_lt m _ _ _ hm
  obtain ⟨va0, vc0, vs0, la0, lc0, ls0, rfl, hsv0, hV0, hzv0, hsl0, hL0, hzl0⟩ := open_membersS (hval 0 24 v0 rfl rfl) h0 (fun n hn => of_decide_eq_true (List.all_eq_true.1 hsz n (DataW.weights_mem_each (j := 0) (d := d0) rfl rfl n hn)))
  have k1 := h1
  have lt1 : ∀ x ∈ p1, x.block < W.heap.size := by obtain ⟨m, hm⟩ := k1; exact DataW.trod_lt m _ _ _ hm
  obtain ⟨t1, u1, rfl, bt1, bu1⟩ := open_change (hval 1 40 v1 rfl rfl) h1
  obtain ⟨a2, len2, c2, rfl⟩ := okWide_slice Try.underlying52 (hval 2 52 v2 rfl rfl)
  have k2 := h2
  have lt2 : ∀ x ∈ p2, x.block < W.heap.size := by obtain ⟨m, hm⟩ := k2; exact DataW.trod_lt m _ _ _ hm
  obtain ⟨l2, rfl, hc2, hx2, hb2, hz2, hr2⟩ := row8 h2
  clear hA0 hval0
  have hm2 : c2 ≤ 140737488355328 := reach8 hsz (j := 2) (d := d2) rfl rfl hr2
  refine (walk va0 vc0 vs0 la0 lc0 ls0 t1 u1 a2 c2 l2 W hsv0 hV0 hzv0 hsl0 hL0 hzl0 bt1 bu1 hc2 hm2 hb2 hz2).mono fun e W' ⟨he, bel⟩ => ?_
  subst he
  exact ⟨_, rfl, _, _, _, [], _, [], hW', trodAll_mk1 (shut_bool Try.underlying4 _), (trodAll_cons_mk (Below.trod laidOut (by kernel_rfl) (of_decide_eq_true (by kernel_rfl)) k0 bel lt0) (trodAll_cons_mk (Below.trod laidOut (by kernel_rfl) (of_decide_eq_true (by kernel_rfl)) k1 bel lt1) (trodAll_cons_mk (Below.trod laidOut (by kernel_rfl) (of_decide_eq_true (by kernel_rfl)) k2 bel lt2) trodAll_mk0))), rfl, bel.frame _, fun h => by cases h⟩

theorem proved : Rows.MemberBackSaid :=
  OpenClaim.holds_of_wide 14 Try.f14 rfl rfl rfl rfl rfl rfl rfl ⟨rfl, rfl, rfl, rfl, rfl⟩ rfl rfl rfl rfl rfl (by kernel_rfl) Try.func14 (by kernel_rfl)
    (of_decide_eq_true (by kernel_rfl)) (by unfold Func.isWrapper; first | (rw [if_pos (by decide +kernel)]; kernel_rfl) | (rw [if_neg (by decide +kernel)]; exact ⟨rfl, rfl⟩))
    (fun os started H enc _ => lifted os started H enc)
end Go.Proofs.Ytnclkkoefejjiaa.memberBack
namespace Go.Proofs.Ytnclkkoefejjiaa
theorem memberBack_holds : Rows.MemberBackSaid := memberBack.proved
#print axioms memberBack_holds
end Go.Proofs.Ytnclkkoefejjiaa
