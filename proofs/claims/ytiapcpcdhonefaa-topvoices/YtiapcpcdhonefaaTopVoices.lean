/- Proved: of two that are voted for one at most has enough voices, whichever voices come through, in any order, some of them doubled; for all members, votes and what happens to the voices; no condition. -/
import Derived.Test.YtiapcpcdhonefaaVoi
import Derived.Deep.RegionHeld3
namespace Go.Proofs.Ytiapcpcdhonefaa.topVoices
open Go.ChangeShapes Go.WideShapes Go.ChangeAt Go.RowKit
set_option linter.unusedVariables false

theorem own : ownKnob Try.prog.godebug = none := by kernel_rfl
theorem laidOut : laidOutB Try.prog = true := by kernel_rfl

def vote (l : List Bool) (i : Nat) : Int := if l.getD i false then 2 else 1
theorem vote_one (l : List Bool) (i : Nat) : vote l i = 1 ∨ vote l i = 2 := by unfold vote; split <;> simp
set_option maxRecDepth 20000 in
set_option maxHeartbeats 8000000 in
theorem walk (va : Option Addr) (vc : Nat) (vs : List Int) (la : Option Addr) (lc : Nat) (ls : List Int) (wa : Option Addr) (wc : Nat) (wl : List Bool) (ia : Option Addr) (ic : Nat) (il : List Int) (w : World)
    (hsv : vs.length * 8 ≤ 140737488351232) (hV : IntsAt w va vs) (hzv : va = none → vc = 0) (hsl : ls.length * 8 ≤ 140737488351232) (hLs : IntsAt w la ls) (hzl : la = none → lc = 0) (hwx : wl.length ≤ maxLen) (hW : BoolsAt w wa wl) (hix : il.length ≤ maxLen) (hI : IntsAt w ia il) :
    Calls Try.prog 3 #[mV va vs.length vc la ls.length lc, .slice wa wl.length wc, .slice ia il.length ic] w fun e w' => e = .returned (.bool true) ∧ Below w.heap.size w w' := by
  have HV := hide hV
  have HL := hide hLs
  have HW := hide hW
  have HI := hide hI
  have hvm : vs.length ≤ maxLen := by simp only [maxLen]; omega
  have hlm : ls.length ≤ maxLen := by simp only [maxLen]; omega
  clear hV hLs hW hI hzv hzl hsv hsl
  have X0 := hide (heap_new w (mB va vs.length vc la ls.length lc))
  have F0 := hide (show Below w.heap.size w (w.alloc (mB va vs.length vc la ls.length lc)) from (Below.refl _ _).alloc (Nat.le_refl _) _)
  have hs0 : (w.alloc (mB va vs.length vc la ls.length lc)).heap.size = w.heap.size + 1 := by simp
  have HS0 := hide hs0
  clear hs0
  have m0 := box_cell (unhide X0) 0 (.slice va vs.length vc) rfl
  have m1 := box_cell (unhide X0) 1 (.slice la ls.length lc) rfl
  generalize hvn : vs.length = vn at *
  generalize hln : ls.length = ln at *
  generalize hwn : wl.length = wn at *
  generalize hin : il.length = iN at *
  have HVN := hide hvn
  have HLN := hide hln
  have HWN := hide hwn
  have HIN := hide hin
  clear hvn hln hwn hin
  go_enter Try.func3, Try.ntmps3
  go_wp2_with fail
  generalize hDD : w.heap.size = D at *
  generalize w.alloc (mB va vn vc la ln lc) = W0 at *
  refine (new_calls _).mono ?_
  rintro e W1 ⟨N, M, rfl, n1, b1⟩
  have N1 := hide n1
  have X1 := hide (later_block b1 (unhide X0))
  have F1 := hide ((unhide F0).trans (b1.mono (by rw [unhide HS0]; omega)))
  clear n1 b1 m0 m1
  have m0 := box_cell (unhide X1) 0 (.slice va vn vc) rfl
  have m1 := box_cell (unhide X1) 1 (.slice la ln lc) rfl
  go_wp2_with fail
  refine (all_calls ((unhide HV).later (by rw [hDD]; exact unhide F1)) ((unhide HL).later (by rw [hDD]; exact unhide F1)) vn ln (unhide HVN) (unhide HLN) hvm hlm).mono ?_
  rintro e W2 ⟨sa, na, ca, rfl, hna, oa, b2⟩
  obtain ⟨hA9, hAnd, hAr⟩ := allM_ok vs ls
  have ND := hide hAnd
  have AR := hide hAr
  have NA := hide (unhide hna)
  have OA := hide oa
  have hna9 : na ≤ 9 := by rw [← unhide NA]; exact hA9
  have V2 := hide (show VoAt W0.heap.size W2 N M (allM vs ls) (vote wl) 0 from ⟨none, 0, [], 0, (unhide N1).later b2, by omega, by omega, by simp, by simp⟩)
  have X2 := hide (later_block b2 (unhide X1))
  have F2 := hide ((unhide F1).trans (b2.mono (by have := (unhide F1).size; omega)))
  clear oa b2 hna hA9 hAnd hAr m0 m1
  generalize allM vs ls = all at *
  generalize hBB : W0.heap.size = BB at *
  have hBB1 := hide (show BB = D + 1 from unhide HS0)
  go_wp2_with fail
  go_loopw [9] (fun v wr => ∃ (j : Nat), j ≤ na ∧ v = .int .i64 (j : Int) ∧ Hid (VoAt BB wr N M all (vote wl) j) ∧ Hid (OwnI W1.heap.size wr sa ca all) ∧ Hid (Below D w wr) ∧ Hid (wr.heap[D]? = some (mB va vn vc la ln lc))) (fun v _ => na - (intOf v).toNat)
  case atStart => exact ⟨0, by omega, rfl, unhide V2, unhide OA, unhide F2, unhide X2⟩
  case round =>
    obtain ⟨j, hj, rfl, V, O, F, X⟩ := hrel
    by_cases hjn : j < na
    · have hja : j < all.length := by rw [unhide NA]; exact hjn
      obtain ⟨b, off, hsa, p0⟩ := (unhide O).ints.cell j hja
      have hr := unhide AR _ (List.getElem_mem hja)
      have AJ := hide (show all[j] = all[j] from rfl)
      generalize hfe : all[j]'hja = f at p0 hr
      have FE := hide hfe
      clear AJ hfe
      have j0 : (0 : Int) ≤ (j : Int) := by omega
      have j1 : (j : Int) < (na : Int) := by omega
      subst hsa
      have bN := hide (show Below wr.heap.size wr (wr.alloc (.cells #[.int .u8 9] 5)) from (Below.refl _ _).alloc (Nat.le_refl _) _)
      have BN := hide (bytesAt_block (l := [9]) (heap_new wr (.cells #[.int .u8 9] 5)) (by decide))
      have VN := hide ((unhide V).later (unhide bN))
      have ON := hide ((unhide O).later (unhide bN))
      have FN := hide ((unhide F).trans ((unhide bN).mono (by have := (unhide F).size; omega)))
      have XN := hide (later_block (unhide bN) (unhide X))
      have hNN := hide (show N < wr.heap.size from by obtain ⟨_, _, _, _, n1, _⟩ := (unhide V).ex; exact n1.ltN)
      have V' := hide (unhide V).older
      have SEND := hide (show ∀ t : Int, vote wl j = t → (t = 1 ∨ t = 2) → f ≠ t → Calls Try.prog 6 #[.pointer (some ⟨N, 0, none⟩), .int .i64 f, .int .i64 t, .slice (some ⟨wr.heap.size, 0, none⟩) 1 1] (wr.alloc (.cells #[.int .u8 9] 5)) fun e w' => (∃ a b, e = .returned (.tuple #[.int .i64 a, .int .i64 b])) ∧ VoAt BB w' N M all (vote wl) (j + 1) ∧ VoStep BB (wr.alloc (.cells #[.int .u8 9] 5)) w' from
        fun t h1 h2 h3 => vo_send (unhide VN) (by omega) j hja f t (unhide FE) h1 hr h2 h3 wr.heap.size (unhide BN) (by have := unhide hNN; omega))
      have FIN := hide (show ∀ w' : World, VoStep BB (wr.alloc (.cells #[.int .u8 9] 5)) w' → OwnI W1.heap.size w' (some ⟨b, off, none⟩) ca all ∧ Below D w w' ∧ w'.heap[D]? = some (mB va vn vc la ln lc) from
        fun w' s => ⟨(unhide ON).step s, (unhide FN).trans (s.bel.mono (by have := unhide hBB1; omega)), s.kept _ _ _ _ (unhide XN) (by decide) (by decide)⟩)
      by_cases hw : j < wn
      · have hwl : j < wl.length := by rw [unhide HWN]; exact hw
        obtain ⟨b', off', hwa, q0⟩ := ((unhide HW).later (by rw [hDD]; exact unhide F)).cell j hwl
        subst hwa
        have hvt : vote wl j = if wl[j] then 2 else 1 := by unfold vote; rw [List.getD_eq_getElem?_getD, List.getElem?_eq_getElem hwl]; rfl
        have w1 : (j : Int) < (wn : Int) := by omega
        cases hb : wl[j]'hwl
        · rw [hb] at q0 hvt
          have HVT := hide (show vote wl j = 1 from hvt)
          clear hvt
          by_cases hft : f = 1
          · subst hft
            go_wp2
            exact ⟨⟨j + 1, by omega, by go_num, unhide V', unhide O, unhide F, unhide X⟩, by simp [intOf]; omega⟩
          · go_wp2_with fail
            refine (unhide SEND 1 (unhide HVT) (.inl rfl) hft).mono ?_
            rintro e W3 ⟨⟨_, _, rfl⟩, v3, s3⟩
            have V3 := hide v3
            obtain ⟨o3, f3, x3⟩ := unhide FIN W3 s3
            have O3 := hide o3
            have F3 := hide f3
            have X3 := hide x3
            clear v3 s3 o3 f3 x3
            go_wp2
            exact ⟨⟨j + 1, by omega, by go_num, unhide V3, unhide O3, unhide F3, unhide X3⟩, by simp [intOf]; omega⟩
        · rw [hb] at q0 hvt
          have HVT := hide (show vote wl j = 2 from hvt)
          clear hvt
          by_cases hft : f = 2
          · subst hft
            go_wp2
            exact ⟨⟨j + 1, by omega, by go_num, unhide V', unhide O, unhide F, unhide X⟩, by simp [intOf]; omega⟩
          · go_wp2_with fail
            refine (unhide SEND 2 (unhide HVT) (.inr rfl) hft).mono ?_
            rintro e W3 ⟨⟨_, _, rfl⟩, v3, s3⟩
            have V3 := hide v3
            obtain ⟨o3, f3, x3⟩ := unhide FIN W3 s3
            have O3 := hide o3
            have F3 := hide f3
            have X3 := hide x3
            clear v3 s3 o3 f3 x3
            go_wp2
            exact ⟨⟨j + 1, by omega, by go_num, unhide V3, unhide O3, unhide F3, unhide X3⟩, by simp [intOf]; omega⟩
      · have HVT := hide (show vote wl j = 1 from by unfold vote; rw [List.getD_eq_getElem?_getD, List.getElem?_eq_none (by rw [unhide HWN]; omega)]; rfl)
        have w1 : ¬ (j : Int) < (wn : Int) := by omega
        by_cases hft : f = 1
        · subst hft
          go_wp2
          exact ⟨⟨j + 1, by omega, by go_num, unhide V', unhide O, unhide F, unhide X⟩, by simp [intOf]; omega⟩
        · go_wp2_with fail
          refine (unhide SEND 1 (unhide HVT) (.inl rfl) hft).mono ?_
          rintro e W3 ⟨⟨_, _, rfl⟩, v3, s3⟩
          have V3 := hide v3
          obtain ⟨o3, f3, x3⟩ := unhide FIN W3 s3
          have O3 := hide o3
          have F3 := hide f3
          have X3 := hide x3
          clear v3 s3 o3 f3 x3
          go_wp2
          exact ⟨⟨j + 1, by omega, by go_num, unhide V3, unhide O3, unhide F3, unhide X3⟩, by simp [intOf]; omega⟩
    · obtain rfl : j = na := by omega
      have hjj : ¬ ((j : Int) < (j : Int)) := by omega
      have bG := hide (show Below wr.heap.size wr (wr.alloc (gB none 0 0 none 0 0)) from (Below.refl _ _).alloc (Nat.le_refl _) _)
      have G2 := hide (show GotAt (wr.heap.size + 1) (wr.alloc (gB none 0 0 none 0 0)) wr.heap.size all (vote wl) none 0 0 [] none 0 0 [] 0 from
        ⟨heap_new _ _, rfl, rfl, OwnI.ofNil _ _, OwnI.ofNil _ _, (fun g hg => by cases hg), Nat.le_refl _, Nat.le_refl _, (fun a ha => by simp at ha), (fun a ha => by simp at ha)⟩)
      have V4 := hide ((unhide V).later (unhide bG))
      have F4 := hide ((unhide F).trans ((unhide bG).mono (by have := (unhide F).size; omega)))
      have X4 := hide (later_block (unhide bG) (unhide X))
      have hDG := hide (Array.getElem?_eq_some_iff.1 (unhide X)).1
      have hBBG := hide (show BB ≤ wr.heap.size from by obtain ⟨_, _, _, _, n1, _⟩ := (unhide V).ex; have := n1.ltN; have := n1.lowN; omega)
      clear V2 OA F2 X2 V O F X bG
      go_wp2_with fail
      generalize hGG : wr.heap.size = G at *
      generalize wr.alloc (gB none 0 0 none 0 0) = W4 at *
      obtain ⟨BG, hBG⟩ : ∃ BG, Hid (BG = G + 1) := ⟨G + 1, rfl⟩
      rw [← unhide hBG] at G2
      have hBD := hide (show D < BG from by have := unhide hBG; have := unhide hDG; omega)
      go_loopw [12] (fun v wr2 => ∃ (j2 : Nat) (p1 : Option Addr) (n1 c1 : Nat) (l1 : List Int) (p2 : Option Addr) (n2 c2 : Nat) (l2 : List Int), j2 ≤ iN ∧ j2 ≤ 100 ∧ v = .int .i64 (j2 : Int) ∧ Hid (VoAt BB wr2 N M all (vote wl) (j + j2)) ∧ Hid (GotAt BG wr2 G all (vote wl) p1 n1 c1 l1 p2 n2 c2 l2 j2) ∧ Hid (Below D w wr2) ∧ Hid (wr2.heap[D]? = some (mB va vn vc la ln lc))) (fun v _ => iN - (intOf v).toNat)
      case atStart => exact ⟨0, none, 0, 0, [], none, 0, 0, [], by omega, by omega, rfl, unhide V4, unhide G2, unhide F4, unhide X4⟩
      case round =>
        obtain ⟨j2, p1, n1, c1, l1, p2, n2, c2, l2, hj2, hj100, rfl, V, GT, F, X⟩ := hrel
        clear V4 G2 F4 X4
        have hbV := hide (show BB ≤ wr.heap.size from by obtain ⟨_, _, _, _, q1, _⟩ := (unhide V).ex; have := q1.ltN; have := q1.lowN; omega)
        by_cases hgo : j2 < iN ∧ j2 < 100
        · obtain ⟨hg1, hg2⟩ := hgo
          have hil : j2 < il.length := by rw [unhide HIN]; exact hg1
          obtain ⟨b', off', hia, q0⟩ := ((unhide HI).later (by rw [hDD]; exact unhide F)).cell j2 hil
          subst hia
          have hyb := (unhide HI).bd _ (List.getElem_mem hil)
          generalize il[j2]'hil = y at q0 hyb
          have k0 : (0 : Int) ≤ (j2 : Int) := by omega
          have k1 : (j2 : Int) < (iN : Int) := by omega
          have k2 : (j2 : Int) < 100 := by omega
          have hag : j + j2 ≤ 120 := by omega
          by_cases hy : y < 0
          · go_wp2_with fail
            refine (vo_double (unhide V) hag _).mono ?_
            rintro e W3 ⟨⟨_, _, rfl⟩, v3, s3⟩
            have V3 := hide v3
            have G3 := hide ((unhide GT).step s3).older
            have F3 := hide ((unhide F).trans (s3.bel.mono (by have := unhide hBB1; omega)))
            have X3 := hide (s3.kept _ _ _ _ (unhide X) (by decide) (by decide))
            clear v3 s3
            go_wp2
            exact ⟨⟨j2 + 1, p1, n1, c1, l1, p2, n2, c2, l2, by omega, by omega, by go_num, unhide V3, unhide G3, unhide F3, unhide X3⟩, by simp [intOf]; omega⟩
          · go_wp2_with fail
            refine (vo_take (unhide V) hag (unhide hbV) _).mono ?_
            rintro e W3 ⟨⟨rfl⟩ | ⟨x, rfl, hvx⟩, v3, s3⟩
            · have V3 := hide v3
              have G3 := hide ((unhide GT).step s3).older
              have F3 := hide ((unhide F).trans (s3.bel.mono (by have := unhide hBB1; omega)))
              have X3 := hide (s3.kept _ _ _ _ (unhide X) (by decide) (by decide))
              have bP := hide (show Below W3.heap.size W3 (W3.alloc (.cells #[.int .i64 0, .int .i64 0, .int .i64 0, .slice none 0 0] 36)) from (Below.refl _ _).alloc (Nat.le_refl _) _)
              have V4 := hide ((unhide V3).later (unhide bP))
              have G4 := hide ((unhide G3).later (unhide bP))
              have F4 := hide ((unhide F3).trans ((unhide bP).mono (by have := (unhide F3).size; omega)))
              have X4 := hide (later_block (unhide bP) (unhide X3))
              clear v3 s3
              go_wp2
              exact ⟨⟨j2 + 1, p1, n1, c1, l1, p2, n2, c2, l2, by omega, by omega, by go_num, unhide V4, unhide G4, unhide F4, unhide X4⟩, by simp [intOf]; omega⟩
            obtain ⟨⟨id, f, to, l5⟩, dp, dc⟩ := x
            obtain ⟨hwho, hto, hin, _⟩ := hvx
            simp only at hwho hto hin
            have V3 := hide v3
            have G3 := hide ((unhide GT).step s3)
            have F3 := hide ((unhide F).trans (s3.bel.mono (by have := unhide hBB1; omega)))
            have X3 := hide (s3.kept _ _ _ _ (unhide X) (by decide) (by decide))
            have hIn := hide hin
            have hWho := hide hwho
            clear v3 s3 hin hwho
            rcases hto with hto | hto
            · subst hto
              have bP := hide (show Below W3.heap.size W3 (W3.alloc (.cells #[.int .i64 id, .int .i64 f, .int .i64 1, .slice dp l5.length dc] 36)) from (Below.refl _ _).alloc (Nat.le_refl _) _)
              have XP := hide (heap_new W3 (.cells #[.int .i64 id, .int .i64 f, .int .i64 1, .slice dp l5.length dc] 36))
              have G4 := hide ((unhide G3).later (unhide bP))
              have V4 := hide ((unhide V3).later (unhide bP))
              have F4 := hide ((unhide F3).trans ((unhide bP).mono (by have := (unhide F3).size; omega)))
              have X4 := hide (later_block (unhide bP) (unhide X3))
              clear bP
              go_wp2_with fail
              generalize W3.heap.size = P at *
              generalize W3.alloc (.cells #[.int .i64 id, .int .i64 f, .int .i64 1, .slice dp l5.length dc] 36) = V at *
              have x1 := box_cell (unhide XP) 1 (.int .i64 f) rfl
              have x2 := box_cell (unhide XP) 2 (.int .i64 1) rfl
              have g1 := box_cell (unhide G4).box 1 (.slice p1 n1 c1) rfl
              have bN := hide (show Below V.heap.size V (V.alloc (.cells #[.int .i64 f] 3)) from (Below.refl _ _).alloc (Nat.le_refl _) _)
              have IN := hide (ints_one (heap_new V (.cells #[.int .i64 f] 3)) (unhide hIn))
              have GN := hide ((unhide G4).later (unhide bN))
              have XPN := hide (later_block (unhide bN) (unhide XP))
              have XN := hide (later_block (unhide bN) (unhide X4))
              have VN := hide ((unhide V4).later (unhide bN))
              have FN := hide ((unhide F4).trans ((unhide bN).mono (by have := (unhide F4).size; omega)))
              have y1 := box_cell (unhide XPN) 1 (.int .i64 f) rfl
              have y2 := box_cell (unhide XPN) 2 (.int .i64 1) rfl
              have h1 := box_cell (unhide GN).box 1 (.slice p1 n1 c1) rfl
              have hbs := hide (show BG ≤ (V.alloc (.cells #[.int .i64 f] 3)).heap.size from by have := (Array.getElem?_eq_some_iff.1 (unhide GN).box).1; have := unhide hBG; omega)
              have hq := (unhide G4).s1
              have hq2 := (unhide G4).e1
              go_region_law (refine step_appendI rfl (.tmp 77) (.tmp 80) rfl BG p1 n1 c1 l1 rfl (unhide G4).e1 (by first | exact (unhide GN).o1 | exact ⟨(unhide GN).o1.owns, (unhide GN).o1.bd⟩) (some ⟨V.heap.size, 0, none⟩) 1 1 rfl [f] rfl (by first | exact unhide IN | exact ⟨(unhide IN).bd, (unhide IN).cell⟩) (fun h => by cases h) (by omega) (by exact unhide hbs) ?_; intro p6 n6 c6 W6 hn6 hO6 hg6; have GG6 := hide (show (V.alloc (.cells #[.int .i64 f] 3)).grownBy W6 (blk p1) from ⟨hg6.grown.os, hg6.grown.tape, hg6.grown.output, hg6.grown.size, hg6.grown.block⟩); obtain ⟨xg6, got6⟩ := (unhide GN).put1 (unhide GG6) hO6 (unhide hn6) (by first | exact hg6.lies | exact fun g hg => hg6.lies g hg) (unhide hWho); have XG6 := hide xg6; have GT6 := hide got6; have XP6 := hide (((unhide GG6).block P (Array.getElem?_eq_some_iff.1 (unhide XPN)).1 (fun e => (unhide GN).o1.ne_block (unhide XPN) (by decide) e.symm)).trans (unhide XPN)); have k1 := box_cell (unhide XG6) 1 (.slice p1 n1 c1) rfl; have kf := box_free (unhide XG6) 1; have z1 := box_cell (unhide XP6) 1 (.int .i64 f) rfl; have z2 := box_cell (unhide XP6) 2 (.int .i64 1) rfl; clear hn6 hO6 hg6 xg6 got6)
              all_goals
                have hgs := grown_set W6 G 1 (.slice p6 n6 c6)
                have V7 := hide (vo_aside (vo_asideI (unhide VN) (unhide GN).o1 (unhide GG6)) (unhide XG6) (by decide) (by decide) (by decide) hgs)
                have X6 := hide (((unhide GG6).block D (Array.getElem?_eq_some_iff.1 (unhide XN)).1 (fun e => (unhide GN).o1.ne_block (unhide XN) (by decide) e.symm)).trans (unhide XN))
                have X7 := hide (grown_block hgs (unhide X6) (by have := unhide hDG; omega))
                have F6 := hide ((unhide FN).grown (unhide GG6) (by have := (unhide FN).size; omega) (fun x hx => by have := ((unhide GN).o1.blk_lt x hx).1; have := unhide hDG; have := unhide hBG; have := unhide hBD; omega))
                have F7 := hide ((unhide F6).grown hgs (by have := (unhide F6).size; omega) (fun x hx => by have := Option.some.inj hx; have := unhide hDG; omega))
                clear hgs
                go_wp2
                exact ⟨⟨j2 + 1, p6, n6, c6, _, p2, n2, c2, _, by omega, by omega, by go_num, unhide V7, unhide GT6, unhide F7, unhide X7⟩, by simp [intOf]; omega⟩
            · subst hto
              have bP := hide (show Below W3.heap.size W3 (W3.alloc (.cells #[.int .i64 id, .int .i64 f, .int .i64 2, .slice dp l5.length dc] 36)) from (Below.refl _ _).alloc (Nat.le_refl _) _)
              have XP := hide (heap_new W3 (.cells #[.int .i64 id, .int .i64 f, .int .i64 2, .slice dp l5.length dc] 36))
              have G4 := hide ((unhide G3).later (unhide bP))
              have V4 := hide ((unhide V3).later (unhide bP))
              have F4 := hide ((unhide F3).trans ((unhide bP).mono (by have := (unhide F3).size; omega)))
              have X4 := hide (later_block (unhide bP) (unhide X3))
              clear bP
              go_wp2_with fail
              generalize W3.heap.size = P at *
              generalize W3.alloc (.cells #[.int .i64 id, .int .i64 f, .int .i64 2, .slice dp l5.length dc] 36) = V at *
              have x1 := box_cell (unhide XP) 1 (.int .i64 f) rfl
              have x2 := box_cell (unhide XP) 2 (.int .i64 2) rfl
              have g1 := box_cell (unhide G4).box 2 (.slice p2 n2 c2) rfl
              have bN := hide (show Below V.heap.size V (V.alloc (.cells #[.int .i64 f] 3)) from (Below.refl _ _).alloc (Nat.le_refl _) _)
              have IN := hide (ints_one (heap_new V (.cells #[.int .i64 f] 3)) (unhide hIn))
              have GN := hide ((unhide G4).later (unhide bN))
              have XPN := hide (later_block (unhide bN) (unhide XP))
              have XN := hide (later_block (unhide bN) (unhide X4))
              have VN := hide ((unhide V4).later (unhide bN))
              have FN := hide ((unhide F4).trans ((unhide bN).mono (by have := (unhide F4).size; omega)))
              have y1 := box_cell (unhide XPN) 1 (.int .i64 f) rfl
              have y2 := box_cell (unhide XPN) 2 (.int .i64 2) rfl
              have h1 := box_cell (unhide GN).box 2 (.slice p2 n2 c2) rfl
              have hbs := hide (show BG ≤ (V.alloc (.cells #[.int .i64 f] 3)).heap.size from by have := (Array.getElem?_eq_some_iff.1 (unhide GN).box).1; have := unhide hBG; omega)
              have hq := (unhide G4).s2
              have hq2 := (unhide G4).e2
              go_region_law (refine step_appendI rfl (.tmp 77) (.tmp 80) rfl BG p2 n2 c2 l2 rfl (unhide G4).e2 (by first | exact (unhide GN).o2 | exact ⟨(unhide GN).o2.owns, (unhide GN).o2.bd⟩) (some ⟨V.heap.size, 0, none⟩) 1 1 rfl [f] rfl (by first | exact unhide IN | exact ⟨(unhide IN).bd, (unhide IN).cell⟩) (fun h => by cases h) (by omega) (by exact unhide hbs) ?_; intro p6 n6 c6 W6 hn6 hO6 hg6; have GG6 := hide (show (V.alloc (.cells #[.int .i64 f] 3)).grownBy W6 (blk p2) from ⟨hg6.grown.os, hg6.grown.tape, hg6.grown.output, hg6.grown.size, hg6.grown.block⟩); obtain ⟨xg6, got6⟩ := (unhide GN).put2 (unhide GG6) hO6 (unhide hn6) (by first | exact hg6.lies | exact fun g hg => hg6.lies g hg) (unhide hWho); have XG6 := hide xg6; have GT6 := hide got6; have XP6 := hide (((unhide GG6).block P (Array.getElem?_eq_some_iff.1 (unhide XPN)).1 (fun e => (unhide GN).o2.ne_block (unhide XPN) (by decide) e.symm)).trans (unhide XPN)); have k1 := box_cell (unhide XG6) 2 (.slice p2 n2 c2) rfl; have kf := box_free (unhide XG6) 2; have z1 := box_cell (unhide XP6) 1 (.int .i64 f) rfl; have z2 := box_cell (unhide XP6) 2 (.int .i64 2) rfl; clear hn6 hO6 hg6 xg6 got6)
              all_goals
                have hgs := grown_set W6 G 2 (.slice p6 n6 c6)
                have V7 := hide (vo_aside (vo_asideI (unhide VN) (unhide GN).o2 (unhide GG6)) (unhide XG6) (by decide) (by decide) (by decide) hgs)
                have X6 := hide (((unhide GG6).block D (Array.getElem?_eq_some_iff.1 (unhide XN)).1 (fun e => (unhide GN).o2.ne_block (unhide XN) (by decide) e.symm)).trans (unhide XN))
                have X7 := hide (grown_block hgs (unhide X6) (by have := unhide hDG; omega))
                have F6 := hide ((unhide FN).grown (unhide GG6) (by have := (unhide FN).size; omega) (fun x hx => by have := ((unhide GN).o2.blk_lt x hx).1; have := unhide hDG; have := unhide hBG; have := unhide hBD; omega))
                have F7 := hide ((unhide F6).grown hgs (by have := (unhide F6).size; omega) (fun x hx => by have := Option.some.inj hx; have := unhide hDG; omega))
                clear hgs
                go_wp2
                exact ⟨⟨j2 + 1, p1, n1, c1, _, p6, n6, c6, _, by omega, by omega, by go_num, unhide V7, unhide GT6, unhide F7, unhide X7⟩, by simp [intOf]; omega⟩
        · have HALF := hide (show ¬ (quorumM vs ls l1 = true ∧ quorumM vs ls l2 = true) from quorum_halves (fun x _ h1 => heard_apart (unhide ND) (unhide GT).r1 (unhide GT).r2 x h1))
          have hn1m := hide (show n1 ≤ maxLen by have := (unhide GT).s1; simp only [maxLen]; omega)
          have hn2m := hide (show n2 ≤ maxLen by have := (unhide GT).s2; simp only [maxLen]; omega)
          by_cases hkl : j2 < iN
          all_goals
            have hk100 : ¬ (j2 < iN ∧ (j2 : Int) < 100) := by omega
            have hkc : ¬ ((j2 : Int) < (iN : Int)) ∨ ¬ ((j2 : Int) < 100) := by omega
            first
              | (have hkl' : (j2 : Int) < (iN : Int) := by omega
                 have hkk : ¬ (j2 : Int) < 100 := by omega
                 clear hkc hk100)
              | (have hkl' : ¬ (j2 : Int) < (iN : Int) := by omega
                 clear hkc hk100)
            go_wp2_with fail
            refine (new_calls _).mono ?_
            rintro e W3 ⟨N3, M3, rfl, q3, b3⟩
            have Q3 := hide q3
            have B3 := hide b3
            clear q3 b3
            go_wp2_with fail
            refine (send_fresh (unhide Q3) 1 2 (by constructor <;> decide) (by constructor <;> decide) none 0 0 [] rfl ⟨by simp, by simp⟩ (fun _ _ h => by simp at h) (fun _ => rfl) (by omega) (by omega) (by decide)).mono ?_
            rintro e W4' ⟨rfl, sn4, cn4, hd4, q4, g4, _⟩
            have B4 := hide ((unhide B3).trans ((unhide Q3).below g4))
            clear q4 g4 Q3 B3
            have G4 := hide ((unhide GT).later (unhide B4))
            have X4 := hide (later_block (unhide B4) (unhide X))
            have F4 := hide ((unhide F).trans ((unhide B4).mono (by have := (unhide F).size; omega)))
            have m0 := box_cell (unhide X4) 0 (.slice va vn vc) rfl
            have m1 := box_cell (unhide X4) 1 (.slice la ln lc) rfl
            have g1 := box_cell (unhide G4).box 1 (.slice p1 n1 c1) rfl
            have g2 := box_cell (unhide G4).box 2 (.slice p2 n2 c2) rfl
            have B4s := hide (unhide B4)
            clear B4
            go_wp2_with fail
            refine (quorum_calls ((unhide HV).later (by rw [hDD]; exact unhide F4)) ((unhide HL).later (by rw [hDD]; exact unhide F4)) (unhide G4).o1.ints vn ln n1 (unhide HVN) (unhide HLN) (unhide G4).e1 hvm hlm (unhide hn1m)).mono ?_
            rintro e W5 ⟨rfl, b5⟩
            have G5 := hide ((unhide G4).later b5)
            have X5 := hide (later_block b5 (unhide X4))
            have F5 := hide ((unhide F4).trans (b5.mono (by have := (unhide F4).size; omega)))
            clear b5 m0 m1 g1 g2
            have m0 := box_cell (unhide X5) 0 (.slice va vn vc) rfl
            have m1 := box_cell (unhide X5) 1 (.slice la ln lc) rfl
            have g2 := box_cell (unhide G5).box 2 (.slice p2 n2 c2) rfl
            cases hq1 : quorumM vs ls l1
            · have bA := hide (show Below W5.heap.size W5 ((W5.alloc (.cells #[.int .i64 3] 3)).alloc (.cells #[.int .i64 3] 3)) from ((Below.refl _ _).alloc (Nat.le_refl _) _).alloc ((Below.refl _ _).alloc (Nat.le_refl _) _).size _)
              have s6 : (W5.alloc (.cells #[.int .i64 3] 3)).heap.size = W5.heap.size + 1 := by simp
              have I1 := hide (ints_one (heap_old (.cells #[.int .i64 3] 3) (heap_new W5 (.cells #[.int .i64 3] 3))) (by decide))
              have I2 := hide (show IntsAt ((W5.alloc (.cells #[.int .i64 3] 3)).alloc (.cells #[.int .i64 3] 3)) (some ⟨W5.heap.size + 1, 0, none⟩) [3] from s6 ▸ ints_one (heap_new (W5.alloc (.cells #[.int .i64 3] 3)) (.cells #[.int .i64 3] 3)) (by decide))
              clear s6
              go_wp2_with fail
              refine (quorum_calls (v := [3]) (l := []) (ys := [3]) (unhide I1) ⟨by simp, by simp⟩ (unhide I2) 1 0 1 rfl rfl rfl (by simp [maxLen]) (by simp [maxLen]) (by simp [maxLen])).mono ?_
              rw [show quorumM [3] [] [3] = true by decide]
              rintro e W6 ⟨rfl, b6⟩
              have F6 := hide (((unhide F5).trans ((unhide bA).mono (by have := (unhide F5).size; omega))).trans (b6.mono (by have := (unhide F5).size; have := (unhide bA).size; omega)))
              clear b6 bA
              go_wp2
              go_ret
              exact ⟨rfl, by rw [hDD]; exact unhide F6⟩
            · go_wp2_with fail
              refine (quorum_calls ((unhide HV).later (by rw [hDD]; exact unhide F5)) ((unhide HL).later (by rw [hDD]; exact unhide F5)) (unhide G5).o2.ints vn ln n2 (unhide HVN) (unhide HLN) (unhide G5).e2 hvm hlm (unhide hn2m)).mono ?_
              have hq2 : quorumM vs ls l2 = false := by
                cases h : quorumM vs ls l2
                · rfl
                · exact absurd ⟨hq1, h⟩ (unhide HALF)
              rw [hq2]
              rintro e W5' ⟨rfl, b5⟩
              have F5' := hide ((unhide F5).trans (b5.mono (by have := (unhide F5).size; omega)))
              clear b5
              have bA := hide (show Below W5'.heap.size W5' ((W5'.alloc (.cells #[.int .i64 3] 3)).alloc (.cells #[.int .i64 3] 3)) from ((Below.refl _ _).alloc (Nat.le_refl _) _).alloc ((Below.refl _ _).alloc (Nat.le_refl _) _).size _)
              have s6 : (W5'.alloc (.cells #[.int .i64 3] 3)).heap.size = W5'.heap.size + 1 := by simp
              have I1 := hide (ints_one (heap_old (.cells #[.int .i64 3] 3) (heap_new W5' (.cells #[.int .i64 3] 3))) (by decide))
              have I2 := hide (show IntsAt ((W5'.alloc (.cells #[.int .i64 3] 3)).alloc (.cells #[.int .i64 3] 3)) (some ⟨W5'.heap.size + 1, 0, none⟩) [3] from s6 ▸ ints_one (heap_new (W5'.alloc (.cells #[.int .i64 3] 3)) (.cells #[.int .i64 3] 3)) (by decide))
              clear s6
              go_wp2_with fail
              refine (quorum_calls (v := [3]) (l := []) (ys := [3]) (unhide I1) ⟨by simp, by simp⟩ (unhide I2) 1 0 1 rfl rfl rfl (by simp [maxLen]) (by simp [maxLen]) (by simp [maxLen])).mono ?_
              rw [show quorumM [3] [] [3] = true by decide]
              rintro e W6 ⟨rfl, b6⟩
              have F6 := hide (((unhide F5').trans ((unhide bA).mono (by have := (unhide F5').size; omega))).trans (b6.mono (by have := (unhide F5').size; have := (unhide bA).size; omega)))
              clear b6 bA
              go_wp2
              go_ret
              exact ⟨rfl, by rw [hDD]; exact unhide F6⟩

set_option maxRecDepth 100000 in
theorem lifted (os : Os) (started : os.Started) (H : Type) (enc : TypeId × Value → H) :
    ReturnsInHanded {} Try.checked os 3 .any (Rows.topVoicesSpec.pre6 enc Try.prog Try.f3 Rows.topVoicesRow.domain false) (Rows.topVoicesSpec.post enc Try.prog Try.f3 false true false false) := by
  refine returnsInHanded_of_change_sized (C := Try.checked) own started (by kernel_rfl) Try.func3
    (ChangeSpec.witness6 (enc := enc) (C := Try.checked) false ⟨#[], #[.agg #[.slice none 0 0, .slice none 0 0], .slice none 0 0, .slice none 0 0], []⟩ 8 (by kernel_rfl) (by kernel_rfl) (by kernel_rfl) (by kernel_rfl)) ?_
  intro W base args ds gs before hval0 hW hcnd hsz _
  have hval : ∀ (j : Nat) t v, Try.f3.params[j]? = some t → args[j]? = some v → Value.okWide Try.prog W .any base t v := hval0
  have hW' := hW
  obtain ⟨p, q, hA0, hV, rfl, hfz, hnd⟩ := hW
  have hA : DataW.TrodAll enc Try.prog W 0 (fun _ => true) true Try.f3.params.toList args.toList ds p := hA0
  rw [Try.params3] at hA hval
  obtain ⟨v0, vs0, d0, ds0, p0, q0, hargs, rfl, rfl, h0, r0⟩ := trodAll_cons hA
  obtain ⟨v1, vs1, d1, ds1, p1, q1, rfl, rfl, rfl, h1, r1⟩ := trodAll_cons r0
  obtain ⟨v2, vs2, d2, ds2, p2, q2, rfl, rfl, rfl, h2, r2⟩ := trodAll_cons r1
  obtain ⟨rfl, rfl, rfl⟩ := trodAll_nil r2
  obtain rfl : args = #[v0, v1, v2] := by cases args; simp_all
  obtain ⟨rfl, rfl⟩ := trodVars_none hV
  have k0 := h0
  have lt0 : ∀ x ∈ p0, x.block < W.heap.size := by obtain ⟨m, hm⟩ := k0; exact DataW.trod_lt m _ _ _ hm
  obtain ⟨va0, vc0, vs0, la0, lc0, ls0, rfl, hsv0, hV0, hzv0, hsl0, hL0, hzl0⟩ := open_membersS (hval 0 24 v0 rfl rfl) h0 (fun n hn => of_decide_eq_true (List.all_eq_true.1 hsz n (DataW.weights_mem_each (j := 0) (d := d0) rfl rfl n hn)))
  obtain ⟨a1, len1, c1, rfl⟩ := okWide_slice Try.underlying25 (hval 1 25 v1 rfl rfl)
  have k1 := h1
  have lt1 : ∀ x ∈ p1, x.block < W.heap.size := by obtain ⟨m, hm⟩ := k1; exact DataW.trod_lt m _ _ _ hm
  obtain ⟨l1, rfl, hx1, hb1⟩ := rowB h1
  obtain ⟨a2, len2, c2, rfl⟩ := okWide_slice Try.underlying22 (hval 2 22 v2 rfl rfl)
  have k2 := h2
  have lt2 : ∀ x ∈ p2, x.block < W.heap.size := by obtain ⟨m, hm⟩ := k2; exact DataW.trod_lt m _ _ _ hm
  obtain ⟨l2, rfl, hx2, hb2⟩ := row64 h2
  clear hA0 hval0
  refine (walk va0 vc0 vs0 la0 lc0 ls0 a1 c1 l1 a2 c2 l2 W hsv0 hV0 hzv0 hsl0 hL0 hzl0 hx1 hb1 hx2 hb2).mono fun e W' ⟨he, bel⟩ => ?_
  subst he
  exact ⟨_, rfl, _, _, _, [], _, [], hW', trodAll_mk1 (shut_bool Try.underlying4 _), (trodAll_cons_mk (Below.trod laidOut (by kernel_rfl) (of_decide_eq_true (by kernel_rfl)) k0 bel lt0) (trodAll_cons_mk (Below.trod laidOut (by kernel_rfl) (of_decide_eq_true (by kernel_rfl)) k1 bel lt1) (trodAll_cons_mk (Below.trod laidOut (by kernel_rfl) (of_decide_eq_true (by kernel_rfl)) k2 bel lt2) trodAll_mk0))), rfl, bel.frame _, fun h => by cases h⟩

theorem proved : Rows.TopVoicesSaid :=
  OpenClaim.holds_of_wide 3 Try.f3 rfl rfl rfl rfl rfl rfl rfl ⟨rfl, rfl, rfl, rfl, rfl⟩ rfl rfl rfl rfl rfl (by kernel_rfl) Try.func3 (by kernel_rfl)
    (of_decide_eq_true (by kernel_rfl)) (by unfold Func.isWrapper; first | (rw [if_pos (by decide +kernel)]; kernel_rfl) | (rw [if_neg (by decide +kernel)]; exact ⟨rfl, rfl⟩))
    (fun os started H enc _ => lifted os started H enc)
end Go.Proofs.Ytiapcpcdhonefaa.topVoices
namespace Go.Proofs.Ytiapcpcdhonefaa
theorem topVoices_holds : Rows.TopVoicesSaid := topVoices.proved
#print axioms topVoices_holds
end Go.Proofs.Ytiapcpcdhonefaa
