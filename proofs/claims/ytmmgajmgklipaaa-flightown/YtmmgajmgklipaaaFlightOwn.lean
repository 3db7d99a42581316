/- Proved: what Under and Take tell is new memory: changed by the one who asked, it changes nothing of the net; for all deeds; no condition. -/
import Derived.Test.YtmmgajmgklipaaaOwn4
import Derived.Test.YtmmgajmgklipaaaFl12
namespace Go.Proofs.Ytmmgajmgklipaaa.flightOwn
open Go.ChangeShapes Go.WideShapes Go.ChangeAt Go.RowKit
set_option linter.unusedVariables false

theorem own : ownKnob Try.prog.godebug = none := by kernel_rfl
theorem laidOut : laidOutB Try.prog = true := by kernel_rfl

theorem okN_of {base : Nat} {w : World} {N M R : Nat} {s r : FS} {Av : Nat → Prop} (h : Two base w N M R s r Av) : FOk s := by
  obtain ⟨n, sp, c, xs, sr, cr, zs, pa, kr, h⟩ := h
  exact h.okN
set_option maxRecDepth 20000 in
set_option maxHeartbeats 8000000 in
theorem walk (a : Option Addr) (c : Nat) (es : List DeedI) (w : World) (hx : es.length ≤ maxLen) (hD : DeedsAt w a es) (hbd : ∀ e ∈ es, DeedBd e) :
    Calls Try.prog 10 #[.slice a es.length c] w fun e w' => e = .returned (.bool true) ∧ Below w.heap.size w w' := by
  go_enter Try.func10, Try.ntmps10
  go_wp2_with fail
  refine (play_calls a c es _ rfl hx hD hbd).mono ?_
  rintro e W1 ⟨N, M, R, s, rfl, ha, h1, b1⟩
  have T1 := hide h1
  have F1 := hide b1
  clear h1 b1 hD hbd hx
  go_wp2_with fail
  refine (two_under (unhide T1) (by omega)).mono ?_
  rintro e W2 ⟨us, uc, ys, rfl, hys, hQ, b2⟩
  have few := (unhide T1).few
  have hL := hide (show ys.length = s.pk.length by have := congrArg List.length hys; simpa using this)
  have U2 := hide (urest_of hQ)
  have AP := hide hQ.dat.apart
  have B2 := hide b2
  have BL := hide (show ∀ k (hk : k < ys.length), ys[k].1.2.2.2.length ≤ 65536 from fun k hk => (okN_of (unhide T1)).len _ (by rw [← hys]; exact List.mem_map_of_mem (List.getElem_mem hk)))
  clear b2 hys hQ
  generalize hLe : s.pk.length = L at *
  go_wp2_with fail
  go_loopw [7] (fun v wr => ∃ (j : Nat), j ≤ L ∧ v = .int .i64 (j : Int) ∧ Hid (0 < ys.length → ∃ g, us = some ⟨g, 0, none⟩ ∧ URest W1.heap.size wr g ys j j) ∧ Hid (Below W1.heap.size W1 wr)) (fun v _ => L - (intOf v).toNat)
  case atStart => exact ⟨0, by omega, rfl, unhide U2, unhide B2⟩
  case round =>
    obtain ⟨j, hj, rfl, U, F⟩ := hrel
    by_cases hjL : j < L
    · have hjy : j < ys.length := by rw [unhide hL]; exact hjL
      obtain ⟨g, rfl, hU⟩ := unhide U (by omega)
      have UR := hide hU
      have UD := hide (hU.dat j hjy (Nat.le_refl _))
      have bl := unhide BL j hjy
      have hj0 : (0 : Int) ≤ (j : Int) := by omega
      have hj1 : (j : Int) < (L : Int) := by omega
      clear hU U U2
      -- apart from the others
      have APj := hide (show ∀ k (hk : k < ys.length), j + 1 ≤ k → ∀ x, blk ys[k].2.1 = some x → blk (ys[j]'hjy).2.1 ≠ some x from fun k hk hi x hx hx' => apart_at (unhide AP) j k hjy hk (by omega) x hx' hx)
      have CC := hide (show ∀ w', URest W1.heap.size w' g ys j (j + 1) → w'.cell? ⟨g, j * 4 + 3, none⟩ = some (.slice (ys[j]'hjy).2.1 (ys[j]'hjy).1.2.2.2.length (ys[j]'hjy).2.2) from fun w' h => h.c3 j hjy (Nat.le_refl _))
      generalize ys[j]'hjy = y at *
      obtain ⟨⟨id, f, t, l⟩, dp, dc⟩ := y
      simp only at UD bl APj CC
      generalize hm : l.length = m at *
      go_wp2_with fail
      go_loopw [8] (fun v wr2 => ∃ (q : Nat) (k : List Nat), q ≤ m ∧ v = .int .i64 (q : Int) ∧ Hid (k.length = m) ∧ Hid (OwnB W1.heap.size wr2 dp dc k) ∧ Hid (URest W1.heap.size wr2 g ys j (j + 1)) ∧ Hid (Below W1.heap.size W1 wr2)) (fun v _ => m - (intOf v).toNat)
      case atStart => exact ⟨0, l, by omega, rfl, hm, unhide UD, (unhide UR).nextD, unhide F⟩
      case round =>
        obtain ⟨q, k, hq, rfl, hk, O, U2, F2⟩ := hrel
        have c3 := unhide CC wr (unhide U2)
        by_cases hqm : q < m
        · have hqk : q < k.length := by rw [unhide hk]; exact hqm
          obtain ⟨y, hy, hy2⟩ := xor_byte (k.getD q 0) 255 ((unhide O).getLt q hqk) (by decide)
          obtain ⟨x, hsx, hxb, p0, p1, o2, gr, _⟩ := (unhide O).setAt q hqk y hy2
          obtain ⟨cur, hcur⟩ := (unhide O).blk_is x (by rw [hsx]; rfl)
          have U3 := hide ((unhide U2).far gr (fun e => by
            obtain ⟨cu, hg, _, _⟩ := (unhide U2).blk
            rw [Option.some.inj e, hg] at hcur
            simp at hcur) (fun k' hk' hi x' hx' e => unhide APj k' hk' hi x' hx' (by rw [hsx]; exact e)))
          have O3 := hide o2
          have K3 := hide (show (k.set q y).length = m by rw [List.length_set]; exact unhide hk)
          have F3 := hide ((unhide F2).grown gr (unhide F2).size (fun g' hg' => by have := Option.some.inj hg'; omega))
          have hq0 : (0 : Int) ≤ (q : Int) := by omega
          have hq1 : (q : Int) < (m : Int) := by omega
          have hy' : bits .xor .u8 ((k.getD q 0 : Nat) : Int) 255 = (y : Int) := hy
          clear hy
          generalize k.getD q 0 = xx at p0 hy'
          subst hsx
          clear hcur gr o2
          go_wp2
          exact ⟨⟨q + 1, k.set q y, by omega, by go_num, unhide K3, unhide O3, unhide U3, unhide F3⟩, by simp [intOf]; omega⟩
        · obtain rfl : q = m := by omega
          have hqq : ¬ ((q : Int) < (q : Int)) := by omega
          have XB := hide (bytesAt_block (l := [1]) (heap_new wr (.cells #[.int .u8 1] 5)) (by decide))
          have bB := hide (show Below wr.heap.size wr (wr.alloc (.cells #[.int .u8 1] 5)) from (Below.refl _ _).alloc (Nat.le_refl _) _)
          go_wp2_with (at_builtin; refine unhide ?_)
          refine hide ?_
          refine wpList_append8L rfl (.tmp 58) (.tmp 59) rfl W1.heap.size dp q dc k rfl (unhide hk) ((unhide O).later (unhide bB)) (some ⟨wr.heap.size, 0, none⟩) 1 1 rfl [1] rfl (unhide XB) (fun e => by cases e) (by rw [unhide hk]; omega) (Nat.le_trans (unhide F2).size (unhide bB).size) ?_
          intro sp4 n4 c4 W4 hn4 ho4 hg4 hl4
          have U4 := hide (((unhide U2).later (unhide bB)).far hg4 (fun e => by
            obtain ⟨cu, hg, _, _⟩ := (unhide U2).blk
            exact (unhide O).ne_block hg (by decide) e) (fun k' hk' hi x' hx' e => unhide APj k' hk' hi x' hx' e))
          have F4 := hide (((unhide F2).trans ((unhide bB).mono (unhide F2).size)).grown hg4 (Nat.le_trans (unhide F2).size (unhide bB).size) (fun g' hg' => ((unhide O).blk_lt g' hg').1))
          clear hn4 ho4 hg4 hl4 c3
          have c3 := unhide CC W4 (unhide U4)
          have z3 := (unhide U4).fz (j * 4 + 3)
          have U5 := hide (((unhide U4).setRow j 3 (by omega) (.slice sp4 n4 c4) rfl).resolve_right (by omega))
          obtain ⟨v2, c2⟩ := (unhide U5).cx j hjy 2 (by omega)
          have z2 := (unhide U5).fz (j * 4 + 2)
          have U6 := hide (((unhide U5).setRow j 2 (by omega) (.int .i64 99) rfl).resolve_right (by omega))
          have F6 := hide (((unhide F4).setCell (p := ⟨g, j * 4 + 3, none⟩) (unhide U4).low (.slice sp4 n4 c4)).setCell (p := ⟨g, j * 4 + 2, none⟩) (unhide U4).low (.int .i64 99))
          go_wp2
          exact ⟨⟨j + 1, by omega, by go_num, fun _ => ⟨g, rfl, unhide U6⟩, unhide F6⟩, by simp [intOf]; omega⟩
    · have hjj : ¬ ((j : Int) < (L : Int)) := by omega
      have T5 := hide ((unhide T1).later (unhide F))
      have F5 := hide ((unhide F1).trans ((unhide F).mono (unhide F1).size))
      clear T1 F1 U F U2 AP B2 BL
      go_wp2_with fail
      refine (two_double (unhide T5) (by omega) 0).mono ?_
      rintro e W6 ⟨rfl, h6, g6⟩
      have T6 := hide h6
      have F6 := hide ((unhide F5).trans g6.bel)
      clear h6 g6 T5 F5
      go_wp2_with fail
      refine (two_rdouble (unhide T6) (by omega) 0).mono ?_
      rintro e W7 ⟨rfl, h7, g7⟩
      have T7 := hide h7
      have F7 := hide ((unhide F6).trans g7.bel)
      have A7 := hide (show (dblS s 0).age ≤ 401 by unfold dblS; split <;> simp only [FS.put, FS.old] <;> omega)
      have LA := hide (doubled_last s)
      clear h7 g7 T6 F6
      generalize dblS s 0 = s7 at *
      generalize dblR s 0 = pr at *
      obtain ⟨id, er⟩ := pr
      simp only at LA
      have few7 := (okN_of (unhide T7)).full
      go_wp2_with fail
      refine (two_len (unhide T7)).mono ?_
      rintro e w7 ⟨rfl, rfl⟩
      generalize hL7 : s7.pk.length = L7 at *
      go_wp2_with fail
      refine (two_takeW (unhide T7) (by have := unhide A7; omega) ((L7 : Int) - 1)).mono ?_
      rintro e W8 ⟨⟨dp, dc⟩, rfl, o8, h8, g8⟩
      have T8 := hide h8
      have O8 := hide o8
      have F8 := hide ((unhide F7).trans g8)
      clear h8 o8 g8 T7 F7
      have hL8 := hide hL7
      have A8 := hide (show (takeS s7 ((L7 : Int) - 1)).age ≤ 402 by have := unhide A7; unfold takeS; split <;> simp only [FS.without, FS.old] <;> omega)
      have PQ := hide (show ∀ g, blk dp = some g → (fun g => False ∨ blk dp = some g) g from fun g hg => .inr hg)
      generalize (fun g => False ∨ blk dp = some g) = Av8 at *
      generalize hp : takeP s7 ((L7 : Int) - 1) = p at LA O8 ⊢
      generalize hxx : takeX s7 ((L7 : Int) - 1) = X at LA ⊢
      obtain ⟨pi, pf, pt, pl⟩ := p
      simp only at LA O8
      have hcap : pl.length ≤ 9223372036854775807 := by have := (unhide O8).cap; simp only [maxLen] at this; omega
      have HP := hide hp
      have HX := hide hxx
      clear hp hxx hL7
      have bA := hide (show Below W8.heap.size W8 (W8.alloc (.cells #[.int .i64 pi, .int .i64 pf, .int .i64 pt, .slice dp pl.length dc] 40)) from (Below.refl _ _).alloc (Nat.le_refl _) _)
      have XA := hide (heap_new W8 (.cells #[.int .i64 pi, .int .i64 pf, .int .i64 pt, .slice dp pl.length dc] 40))
      have T9 := hide ((unhide T8).later (unhide bA))
      have O9 := hide ((unhide O8).later (unhide bA))
      have F9 := hide ((unhide F8).trans ((unhide bA).mono (unhide F8).size))
      clear T8 O8 F8
      go_wp2_with fail
      generalize hE : W8.heap.size = E at *
      generalize W8.alloc (.cells #[.int .i64 pi, .int .i64 pf, .int .i64 pt, .slice dp pl.length dc] 40) = W9 at *
      clear bA hE
      refine (two_rlen (unhide T9) (by have := unhide A7; omega)).mono ?_
      rintro e W10 ⟨rfl, b10⟩
      rw [unhide hL8]
      have T10 := hide ((unhide T9).later b10)
      have O10 := hide ((unhide O9).later b10)
      have X10 := hide (later_block b10 (unhide XA))
      have F10 := hide ((unhide F9).trans (b10.mono (unhide F9).size))
      clear b10 T9 O9 XA F9
      go_wp2_with fail
      refine (two_rtakeW (unhide T10) (by have := unhide A7; omega) ((L7 : Int) - 1)).mono ?_
      rintro e W11 ⟨⟨dq, dd⟩, rfl, o11, h11, g11⟩
      rw [unhide HP] at o11
      rw [unhide HP, unhide HX]
      have T11' := hide h11
      have O11' := hide ((unhide O10).steps g11 (by decide))
      have P11' := hide (show OwnB w.heap.size W11 dq dd pl from o11)
      have X11' := hide (g11.box (unhide X10) (by decide))
      have F11' := hide ((unhide F10).trans g11.bel)
      clear o11 h11 g11 T10 O10 X10 F10 HP HX
      generalize takeS s7 ((L7 : Int) - 1) = s8 at *
      have bB := hide (show Below W11.heap.size W11 (W11.alloc (.cells #[.int .i64 pi, .int .i64 pf, .int .i64 pt, .slice dq pl.length dd] 40)) from (Below.refl _ _).alloc (Nat.le_refl _) _)
      have Y12 := hide (heap_new W11 (.cells #[.int .i64 pi, .int .i64 pf, .int .i64 pt, .slice dq pl.length dd] 40))
      have T12 := hide ((unhide T11').later (unhide bB))
      have O12 := hide ((unhide O11').later (unhide bB))
      have P12 := hide ((unhide P11').later (unhide bB))
      have X12 := hide (later_block (unhide bB) (unhide X11'))
      have F12 := hide ((unhide F11').trans ((unhide bB).mono (unhide F11').size))
      clear T11' O11' P11' X11' F11'
      have x0 := box_cell (unhide X12) 0 _ rfl
      have x1 := box_cell (unhide X12) 1 _ rfl
      have x2 := box_cell (unhide X12) 2 _ rfl
      have x3 := box_cell (unhide X12) 3 _ rfl
      have y0 := box_cell (unhide Y12) 0 _ rfl
      have y1 := box_cell (unhide Y12) 1 _ rfl
      have y2 := box_cell (unhide Y12) 2 _ rfl
      have y3 := box_cell (unhide Y12) 3 _ rfl
      by_cases her : er = 0
      · obtain ⟨rfl, e2⟩ := unhide LA her
        subst her
        have e3 : pi = id := e2
        subst e3
        clear LA e2
        go_wp2_with fail
        generalize hE2 : W11.heap.size = E2 at *
        generalize W11.alloc (.cells #[.int .i64 pi, .int .i64 pf, .int .i64 pt, .slice dq pl.length dd] 40) = W12 at *
        clear hE2 bB
        refine (samePacket_yes pi pf pt dp dq pl.length pl.length dc dd pl W12 rfl rfl (unhide O12).bytes (unhide P12).bytes).mono ?_
        rintro e W13 ⟨rfl, b13⟩
        have T13 := hide ((unhide T12).later b13)
        have O13 := hide ((unhide O12).later b13)
        have X13 := hide (later_block b13 (unhide X12))
        have F13 := hide ((unhide F12).trans (b13.mono (unhide F12).size))
        clear b13 T12 O12 P12 X12 F12 Y12 x0 x1 x2 x3 y0 y1 y2 y3
        generalize hm : pl.length = m at *
        go_wp2_with fail
        go_loopw [15] (fun v wr => ∃ (q : Nat) (k : List Nat), q ≤ m ∧ v = .int .i64 (q : Int) ∧ Hid (k.length = m) ∧ Hid (OwnB w.heap.size wr dp dc k) ∧ Hid (wr.heap[E]? = some (.cells #[.int .i64 pi, .int .i64 pf, .int .i64 pt, .slice dp m dc] 40 (0, 0))) ∧ Hid (Two w.heap.size wr N M R s8 s8 Av8) ∧ Hid (Below w.heap.size w wr)) (fun v _ => m - (intOf v).toNat)
        case atStart => exact ⟨0, pl, by omega, rfl, hm, unhide O13, unhide X13, unhide T13, unhide F13⟩
        case round =>
          obtain ⟨q, k, hq, rfl, hk, O, XE, T, F⟩ := hrel
          have c3 := box_cell (unhide XE) 3 _ rfl
          by_cases hqm : q < m
          · have hqk : q < k.length := by rw [unhide hk]; exact hqm
            obtain ⟨y, hy, hy2⟩ := xor_byte (k.getD q 0) 255 ((unhide O).getLt q hqk) (by decide)
            obtain ⟨x, hsx, hxb, p0, p1, o2, gr, _⟩ := (unhide O).setAt q hqk y hy2
            obtain ⟨cur, hcur⟩ := (unhide O).blk_is x (by rw [hsx]; rfl)
            have XE3 := hide (grown_block gr (unhide XE) (fun e => by
              have h1 := unhide XE
              rw [e, hcur] at h1
              simp at h1))
            have T3 := hide ((unhide T).far (unhide PQ x (by rw [hsx]; rfl)) gr hcur)
            have O3 := hide o2
            have K3 := hide (show (k.set q y).length = m by rw [List.length_set]; exact unhide hk)
            have F3 := hide ((unhide F).grown gr (unhide T).base_le (fun g' hg' => by have := Option.some.inj hg'; omega))
            have hq0 : (0 : Int) ≤ (q : Int) := by omega
            have hq1 : (q : Int) < (m : Int) := by omega
            have hy' : bits .xor .u8 ((k.getD q 0 : Nat) : Int) 255 = (y : Int) := hy
            clear hy
            generalize k.getD q 0 = xx at p0 hy'
            subst hsx
            clear hcur gr o2
            go_wp2
            exact ⟨⟨q + 1, k.set q y, by omega, by go_num, unhide K3, unhide O3, unhide XE3, unhide T3, unhide F3⟩, by simp [intOf]; omega⟩
          · obtain rfl : q = m := by omega
            have hqq : ¬ ((q : Int) < (q : Int)) := by omega
            have few8 := (okN_of (unhide T)).full
            go_wp2_with fail
            refine (live4_calls _).mono ?_
            rintro e W14 ⟨rfl, b14⟩
            have T14 := hide ((unhide T).later b14)
            have F14 := hide ((unhide F).trans (b14.mono (unhide F).size))
            clear b14 T F
            go_wp2_with fail
            refine (two_under (unhide T14) (by have := unhide A8; omega)).mono ?_
            rintro e W15 ⟨u1, v1, z1, rfl, hz1, hQ1, b15⟩
            have T15 := hide ((unhide T14).later b15)
            have F15 := hide ((unhide F14).trans (b15.mono (unhide F14).size))
            have Q15 := hide hQ1.toQ
            have Z15 := hide hz1
            clear b15 T14 F14 hQ1 hz1
            go_wp2_with fail
            refine (two_runder (unhide T15) (by have := unhide A8; omega)).mono ?_
            rintro e W16 ⟨u2, v2, z2, rfl, hz2, hQ2, b16⟩
            have F16 := hide ((unhide F15).trans (b16.mono (unhide F15).size))
            have Q16 := hide ((unhide Q15).later b16)
            have R16 := hide hQ2
            have Z16 := hide hz2
            clear b16 F15 Q15 hQ2 hz2
            go_wp2_with fail
            refine (samePackets_yes (unhide Q16) (unhide R16) s8.pk.length (by have := congrArg List.length (unhide Z15); simpa using this) (by omega) ((unhide Z15).trans (unhide Z16).symm)).mono ?_
            rintro e W17 ⟨rfl, b17⟩
            have F17 := hide ((unhide F16).trans (b17.mono (unhide F16).size))
            clear b17
            go_wp2
            go_ret
            exact ⟨rfl, unhide F17⟩
      · have her' : ¬ ((er : Int) = 0) := by omega
        clear LA her
        go_wp2_with fail
        generalize hE2 : W11.heap.size = E2 at *
        generalize W11.alloc (.cells #[.int .i64 pi, .int .i64 pf, .int .i64 pt, .slice dq pl.length dd] 40) = W12 at *
        clear hE2 bB
        refine (samePacket_yes pi pf pt dp dq pl.length pl.length dc dd pl W12 rfl rfl (unhide O12).bytes (unhide P12).bytes).mono ?_
        rintro e W13 ⟨rfl, b13⟩
        have T13 := hide ((unhide T12).later b13)
        have O13 := hide ((unhide O12).later b13)
        have X13 := hide (later_block b13 (unhide X12))
        have F13 := hide ((unhide F12).trans (b13.mono (unhide F12).size))
        clear b13 T12 O12 P12 X12 F12 Y12 x0 x1 x2 x3 y0 y1 y2 y3
        generalize hm : pl.length = m at *
        go_wp2_with fail
        go_loopw [15] (fun v wr => ∃ (q : Nat) (k : List Nat), q ≤ m ∧ v = .int .i64 (q : Int) ∧ Hid (k.length = m) ∧ Hid (OwnB w.heap.size wr dp dc k) ∧ Hid (wr.heap[E]? = some (.cells #[.int .i64 pi, .int .i64 pf, .int .i64 pt, .slice dp m dc] 40 (0, 0))) ∧ Hid (Two w.heap.size wr N M R s8 s8 Av8) ∧ Hid (Below w.heap.size w wr)) (fun v _ => m - (intOf v).toNat)
        case atStart => exact ⟨0, pl, by omega, rfl, hm, unhide O13, unhide X13, unhide T13, unhide F13⟩
        case round =>
          obtain ⟨q, k, hq, rfl, hk, O, XE, T, F⟩ := hrel
          have c3 := box_cell (unhide XE) 3 _ rfl
          by_cases hqm : q < m
          · have hqk : q < k.length := by rw [unhide hk]; exact hqm
            obtain ⟨y, hy, hy2⟩ := xor_byte (k.getD q 0) 255 ((unhide O).getLt q hqk) (by decide)
            obtain ⟨x, hsx, hxb, p0, p1, o2, gr, _⟩ := (unhide O).setAt q hqk y hy2
            obtain ⟨cur, hcur⟩ := (unhide O).blk_is x (by rw [hsx]; rfl)
            have XE3 := hide (grown_block gr (unhide XE) (fun e => by
              have h1 := unhide XE
              rw [e, hcur] at h1
              simp at h1))
            have T3 := hide ((unhide T).far (unhide PQ x (by rw [hsx]; rfl)) gr hcur)
            have O3 := hide o2
            have K3 := hide (show (k.set q y).length = m by rw [List.length_set]; exact unhide hk)
            have F3 := hide ((unhide F).grown gr (unhide T).base_le (fun g' hg' => by have := Option.some.inj hg'; omega))
            have hq0 : (0 : Int) ≤ (q : Int) := by omega
            have hq1 : (q : Int) < (m : Int) := by omega
            have hy' : bits .xor .u8 ((k.getD q 0 : Nat) : Int) 255 = (y : Int) := hy
            clear hy
            generalize k.getD q 0 = xx at p0 hy'
            subst hsx
            clear hcur gr o2
            go_wp2
            exact ⟨⟨q + 1, k.set q y, by omega, by go_num, unhide K3, unhide O3, unhide XE3, unhide T3, unhide F3⟩, by simp [intOf]; omega⟩
          · obtain rfl : q = m := by omega
            have hqq : ¬ ((q : Int) < (q : Int)) := by omega
            have few8 := (okN_of (unhide T)).full
            go_wp2_with fail
            refine (live4_calls _).mono ?_
            rintro e W14 ⟨rfl, b14⟩
            have T14 := hide ((unhide T).later b14)
            have F14 := hide ((unhide F).trans (b14.mono (unhide F).size))
            clear b14 T F
            go_wp2_with fail
            refine (two_under (unhide T14) (by have := unhide A8; omega)).mono ?_
            rintro e W15 ⟨u1, v1, z1, rfl, hz1, hQ1, b15⟩
            have T15 := hide ((unhide T14).later b15)
            have F15 := hide ((unhide F14).trans (b15.mono (unhide F14).size))
            have Q15 := hide hQ1.toQ
            have Z15 := hide hz1
            clear b15 T14 F14 hQ1 hz1
            go_wp2_with fail
            refine (two_runder (unhide T15) (by have := unhide A8; omega)).mono ?_
            rintro e W16 ⟨u2, v2, z2, rfl, hz2, hQ2, b16⟩
            have F16 := hide ((unhide F15).trans (b16.mono (unhide F15).size))
            have Q16 := hide ((unhide Q15).later b16)
            have R16 := hide hQ2
            have Z16 := hide hz2
            clear b16 F15 Q15 hQ2 hz2
            go_wp2_with fail
            refine (samePackets_yes (unhide Q16) (unhide R16) s8.pk.length (by have := congrArg List.length (unhide Z15); simpa using this) (by omega) ((unhide Z15).trans (unhide Z16).symm)).mono ?_
            rintro e W17 ⟨rfl, b17⟩
            have F17 := hide ((unhide F16).trans (b17.mono (unhide F16).size))
            clear b17
            go_wp2
            go_ret
            exact ⟨rfl, unhide F17⟩

set_option maxRecDepth 100000 in
theorem lifted (os : Os) (started : os.Started) (H : Type) (enc : TypeId × Value → H) :
    ReturnsInHanded {} Try.checked os 10 .any (Rows.flightOwnSpec.pre6 enc Try.prog Try.f10 Rows.flightOwnRow.domain false) (Rows.flightOwnSpec.post enc Try.prog Try.f10 false true false false) := by
  refine returnsInHanded_of_change_sized (C := Try.checked) own started (by kernel_rfl) Try.func10
    (ChangeSpec.witness6 (enc := enc) (C := Try.checked) false ⟨#[], #[.slice none 0 0], []⟩ 8 (by kernel_rfl) (by kernel_rfl) (by kernel_rfl) (by kernel_rfl)) ?_
  intro W base args ds gs before hval0 hW hcnd hsz _
  have hval : ∀ (j : Nat) t v, Try.f10.params[j]? = some t → args[j]? = some v → Value.okWide Try.prog W .any base t v := hval0
  have hW' := hW
  obtain ⟨p, q, hA0, hV, rfl, hfz, hnd⟩ := hW
  have hA : DataW.TrodAll enc Try.prog W 0 (fun _ => true) true Try.f10.params.toList args.toList ds p := hA0
  rw [Try.params10] at hA hval
  obtain ⟨v0, vs0, d0, ds0, p0, q0, hargs, rfl, rfl, h0, r0⟩ := trodAll_cons hA
  obtain ⟨rfl, rfl, rfl⟩ := trodAll_nil r0
  obtain rfl : args = #[v0] := by cases args; simp_all
  obtain ⟨rfl, rfl⟩ := trodVars_none hV
  obtain ⟨a0, len0, c0, rfl⟩ := okWide_slice Try.underlying22 (hval 0 22 v0 rfl rfl)
  have k0 := h0
  have lt0 : ∀ x ∈ p0, x.block < W.heap.size := by obtain ⟨m, hm⟩ := k0; exact DataW.trod_lt m _ _ _ hm
  obtain ⟨l0, rfl, hx0, hb0, hd0⟩ := deeds_arg h0
  clear hA0 hval0
  refine (walk a0 c0 l0 W hx0 hb0 hd0).mono fun e W' ⟨he, bel⟩ => ?_
  subst he
  exact ⟨_, rfl, _, _, _, [], _, [], hW', trodAll_mk1 (shut_bool Try.underlying4 _), (trodAll_cons_mk (Below.trod laidOut (by kernel_rfl) (of_decide_eq_true (by kernel_rfl)) k0 bel lt0) trodAll_mk0), rfl, bel.frame _, fun h => by cases h⟩

theorem proved : Rows.FlightOwnSaid :=
  OpenClaim.holds_of_wide 10 Try.f10 rfl rfl rfl rfl rfl rfl rfl ⟨rfl, rfl, rfl, rfl, rfl⟩ rfl rfl rfl rfl rfl (by kernel_rfl) Try.func10 (by kernel_rfl)
    (of_decide_eq_true (by kernel_rfl)) (by unfold Func.isWrapper; first | (rw [if_pos (by decide +kernel)]; kernel_rfl) | (rw [if_neg (by decide +kernel)]; exact ⟨rfl, rfl⟩))
    (fun os started H enc _ => lifted os started H enc)
end Go.Proofs.Ytmmgajmgklipaaa.flightOwn
namespace Go.Proofs.Ytmmgajmgklipaaa
theorem flightOwn_holds : Rows.FlightOwnSaid := flightOwn.proved
#print axioms flightOwn_holds
end Go.Proofs.Ytmmgajmgklipaaa
