/- Snapshots: SnapWays' walk (written by wip/mksww.py). -/
import Derived.Test.YtagncghpfdjkmaaGreatDoorB26
import Derived.Test.YtagncghpfdjkmaaGreatDoorB27
import Derived.Test.YtagncghpfdjkmaaGreatDoorB32
import Derived.Test.YtagncghpfdjkmaaGreatDoorB33
namespace Go.Proofs.YtagncghpfdjkmaaGreatDoor
open Go.ChangeShapes Go.WideShapes Go.ChangeAt Go.RowKit
set_option linter.unusedVariables false

theorem newGather_calls (w : World) : Calls Tryz.prog 43 #[] w fun e w' => e = .returned (.pointer (some ⟨w.heap.size, 0, none⟩)) ∧ GaAt w' w.heap.size 0 [] none 0 ∧ Below w.heap.size w w' := by
  have X1 := hide (heap_new w (.cells #[.int .i64 0, .slice none 0 0] 139))
  have B1 := hide (show Below w.heap.size w (w.alloc (.cells #[.int .i64 0, .slice none 0 0] 139)) from (Below.refl _ _).alloc (Nat.le_refl _) _)
  go_enter Tryz.func43, Tryz.ntmps43
  go_wp2
  go_ret
  exact ⟨rfl, ⟨unhide X1, OwnB.ofNil _ _, by omega, by simp⟩, unhide B1⟩
theorem glen_calls {w : World} {G t : Nat} {bs : List Nat} {sp : Option Addr} {cp : Nat} (hg : GaAt w G t bs sp cp) : Calls Tryz.prog 47 #[.pointer (some ⟨G, 0, none⟩)] w fun e w' => e = .returned (.int .i64 (bs.length : Int)) ∧ w' = w := by
  have g1 := box_cell hg.row 1 _ rfl
  generalize bs.length = n at *
  clear hg
  go_enter Tryz.func47, Tryz.ntmps47
  go_wp2
  go_ret
  exact ⟨rfl, rfl⟩
theorem GFr.below {w w' : World} {G B : Nat} {sp : Option Addr} (h : GFr w w' G sp) (hB : B ≤ G) (hs : ∀ g, blk sp = some g → B ≤ g) (hl : B ≤ w.heap.size) : Below B w w' :=
  ⟨h.os, h.tape, h.output, h.size, fun j hj => h.block j (by omega) (by omega) (fun e => by have := hs j e; omega)⟩
theorem pieces_get {l : List Nat} {sz i : Nat} (hz : 0 < sz) (h0 : 0 < l.length) (hi : i < pcN l.length sz) : (piecesL l sz).getD i [] = pieceB l sz (i * sz) := by
  rw [pieces_are hz h0, List.getD_eq_getElem?_getD, List.getElem?_map, List.getElem?_range hi]
  rfl
theorem pieces_len {l : List Nat} {sz : Nat} (hz : 0 < sz) (h0 : 0 < l.length) : (piecesL l sz).length = pcN l.length sz := by
  rw [pieces_are hz h0, List.length_map, List.length_range]
theorem snB_pos {s : Sn} (h : snE s = 0) : 0 < (snB s).length := by
  unfold snB
  rw [if_pos h, frameB_length]
  omega
end Go.Proofs.YtagncghpfdjkmaaGreatDoor
namespace Go.Proofs.YtagncghpfdjkmaaGreatDoor.snapWays
open Go.ChangeShapes Go.WideShapes Go.ChangeAt Go.RowKit
set_option linter.unusedVariables false
/-- What is gathered ahead of a piece. -/
def Wy (l : List Nat) (sz q j t : Nat) (bs : List Nat) : Prop := (j = 0 ∧ bs = []) ∨ (0 < j ∧ j < q ∧ t = l.length ∧ bs = l.take (j * sz)) ∨ (0 < j ∧ j = q ∧ bs = [])
set_option maxRecDepth 20000 in
set_option maxHeartbeats 16000000 in
theorem walk0 (e0 : Sn) (q0 : SnH) (z1 z2 : Int) (w : World) (hb0 : SnAt w e0 q0) (hz1 : -9223372036854775808 ≤ z1 ∧ z1 ≤ 9223372036854775807) (hz2 : -9223372036854775808 ≤ z2 ∧ z2 ≤ 9223372036854775807) (hTz : Tz w) :
    Calls Tryz.prog 13 #[.agg (snRow e0 q0), .int .i64 z1, .int .i64 z2] w fun e w' => e = .returned (.bool true) ∧ Below w.heap.size w w' := by
  have U1 := hide ((Below.refl w.heap.size w).alloc (Nat.le_refl _) (.cells (snRow e0 q0) 29))
  have X1 := hide (heap_new w (.cells (snRow e0 q0) 29))
  have PC := hide (sput_calls e0 q0 (w.alloc (.cells (snRow e0 q0) 29)) (hb0.later (unhide U1)))
  have TZ := hide hTz
  have Z0 := hide hb0
  have hdn := hb0.dn
  have hdm := hb0.dm
  simp only [maxLen] at hdm
  unfold snRow at U1 X1 PC ⊢
  clear hb0 hTz
  have x0 := box_cell (unhide X1) 0 _ rfl
  have x1 := box_cell (unhide X1) 1 _ rfl
  have x2 := box_cell (unhide X1) 2 _ rfl
  have x3 := box_cell (unhide X1) 3 _ rfl
  have x4 := box_cell (unhide X1) 4 _ rfl
  go_enter Tryz.func13, Tryz.ntmps13
  go_wp2_with fail
  clear x0 x1 x2 x3 x4
  have W1S := hide (show w.heap.size ≤ (w.alloc (.cells #[.int .i64 e0.i, .int .i64 e0.t, .slice q0.va e0.v.length q0.vc, .slice q0.la e0.l.length q0.lc, .slice q0.dp e0.d.length q0.dc] 29)).heap.size by simp)
  generalize w.alloc _ = W1 at *
  go_at_call 15
  refine (unhide PC).mono ?_
  rintro e V1 ⟨v1, hcase⟩
  have U2 := hide ((unhide U1).trans (v1.mono (unhide U1).size))
  have X2 := hide (later_block v1 (unhide X1))
  have x4 := box_cell (unhide X2) 4 _ rfl
  clear v1 PC X1 U1
  rcases hcase with ⟨h0, rfl⟩ | ⟨h0, g, n, rfl, hgn, hgo⟩
  · have y1 : ¬ ((snE e0 : Nat) : Int) = 0 := by omega
    have y2 : (((snE e0 : Nat) : Int) == 0) = false := by simp [h0]
    generalize ((snE e0 : Nat) : Int) = ei at *
    go_wp2_with fail
    go_at_call 17
    refine (live7_calls _ ((unhide TZ).later (unhide U2))).mono ?_
    rintro e V8 ⟨rfl, v8⟩
    have FF := hide ((unhide U2).trans (v8.mono (unhide U2).size))
    clear v8
    go_wp2
    go_ret
    exact ⟨by first | rfl | simp, unhide FF⟩
  by_cases hd : 3000 < e0.d.length
  · have y1 : (3000 : Int) < (e0.d.length : Int) := by omega
    go_wp2_with fail
    go_at_call 17
    refine (live7_calls _ ((unhide TZ).later (unhide U2))).mono ?_
    rintro e V8 ⟨rfl, v8⟩
    have FF := hide ((unhide U2).trans (v8.mono (unhide U2).size))
    clear v8
    go_wp2
    go_ret
    exact ⟨by first | rfl | simp, unhide FF⟩
  have y1 : ¬ (3000 : Int) < (e0.d.length : Int) := by omega
  have HE := hide h0
  have LB := snB_4000 h0 (by omega)
  have LP := snB_pos h0
  have SL := hide (show snL (snB e0) = .ok e0 from by unfold snB; rw [if_pos h0]; exact snL_at h0)
  obtain ⟨N, hN, hN2⟩ := rem_natS z1 200 (by omega) (by omega)
  rw [show ((200 : Nat) : Int) = 200 from rfl] at hN
  have P1 := hide (pieces_calls (some ⟨g, 0, none⟩) n n (snB e0) (1 + (N : Int)) V1 hgn (Nat.le_refl _) (by omega) hgo.bytes (fun h => by cases h) (by omega))
  have HN := hide hN
  generalize hl : snB e0 = l at *
  have HL := hide hl
  have hgn' := hide hgn
  clear hgo hgn hl h0 hd
  go_wp2_with fail
  clear x4 y1 hN
  go_at_call 40
  refine (unhide P1).mono ?_
  rintro e V2 ⟨v2, hcase⟩
  rcases hcase with ⟨q1, _⟩ | ⟨_, q1, _⟩ | ⟨_, _, v, rfl, ho⟩
  · omega
  · omega
  obtain ⟨sz, hsz⟩ : ∃ sz, (1 + (N : Int)).toNat = sz := ⟨_, rfl⟩
  have hs1 : 0 < sz := by omega
  rw [hsz] at ho
  obtain ⟨sp, c, rfl⟩ := ho.form
  have PL := hide (pieces_len hs1 LP)
  have PG := hide (fun i (hi : i < pcN l.length sz) => pieces_get hs1 LP hi)
  have hq0 := pcN_pos hs1 LP
  have hq1 := pcN_le (L := l.length) hs1
  rw [unhide PL] at ho ⊢
  generalize hq : pcN l.length sz = q at *
  have HQ := hide hq
  generalize hrows : piecesL l sz = rows at *
  have OS := hide ho
  have U3 := hide ((unhide U2).trans (v2.mono (unhide U2).size))
  have X3 := hide (later_block v2 (unhide X2))
  have NC := hide (newGather_calls V2)
  obtain ⟨kk, hkk, hkq⟩ := rem_natS z2 q hq0 (by omega)
  have HKK := hide hkk
  have q0a : ¬ (q : Int) = 0 := by omega
  have q0b : ((q : Int) == 0) = false := by simp; omega
  clear v2 ho P1 hrows hq X2
  go_wp2_with fail
  go_at_call 43
  refine (unhide NC).mono ?_
  rintro e V3 ⟨rfl, hg3, v3⟩
  have G3 := hide hg3
  have U4 := hide v3
  generalize hBS : V2.heap.size = BS at *
  have FL := hide (show ∀ V, Below BS V2 V → Below w.heap.size w V from fun V u => (unhide U3).trans (u.mono (by have := (unhide U3).size; omega)))
  have BX := hide (show ∀ V, Below BS V2 V → V.heap[w.heap.size]? = some (.cells #[.int .i64 e0.i, .int .i64 e0.t, .slice q0.va e0.v.length q0.vc, .slice q0.la e0.l.length q0.lc, .slice q0.dp e0.d.length q0.dc] 29 (0, 0)) from fun V u => (u.block _ (by have := (Array.getElem?_eq_some_iff.1 (unhide X3)).1; omega)).trans (unhide X3))
  have PIE := hide (show ∀ V, Below BS V2 V → ∀ i, i < q → ∃ gr pp pc, sp = some ⟨gr, 0, none⟩ ∧ V.cell? ⟨gr, i, none⟩ = some (.slice pp (pieceB l sz (i * sz)).length pc) ∧ OwnB V1.heap.size V pp pc (pieceB l sz (i * sz)) ∧ (∀ ad, pp = some ad → ad.block < BS) ∧ (pieceB l sz (i * sz)).length ≤ 140737488355328 from fun V u i hi => by
    obtain ⟨gr, pp, pc, h1, h2, h3⟩ := (unhide OS).at i (by rw [unhide PL]; exact hi)
    rw [unhide PG i hi] at h2 h3
    have u' : Below V2.heap.size V2 V := by rw [hBS]; exact u
    refine ⟨gr, pp, pc, h1, cell_later u' h2, h3.later u', fun ad e => by rw [← hBS]; exact h3.blkLt _ (by rw [e]; rfl), ?_⟩
    have hlt := (pcN_lt (L := l.length) (i := i) hs1).1 (by rw [unhide HQ]; exact hi)
    have n1 := numB_six l.length (by omega)
    have n2 := numB_six (i * sz) (by omega)
    unfold pieceB
    simp only [List.length_append, List.length_take, List.length_drop]
    omega)
  have GAD := hide (show ∀ V t bs sg cg, GaAt V BS t bs sg cg → (∀ x, blk sg = some x → BS ≤ x) → Below BS V2 V → ∀ i, i < q → ∀ pp pc, OwnB V1.heap.size V pp pc (pieceB l sz (i * sz)) → (∀ ad, pp = some ad → ad.block < BS) → (pieceB l sz (i * sz)).length ≤ 140737488355328 → Calls Tryz.prog 45 #[.pointer (some ⟨BS, 0, none⟩), .slice pp (pieceB l sz (i * sz)).length pc] V (AddEnd V BS sg (gAdd t bs (pieceB l sz (i * sz)))) from fun V t bs sg cg hg hsg u i hi pp pc ho hlt hle => gadd_calls pp _ pc _ V rfl ho.cap.1 hle ho.nil0 ho.bytes BS t bs sg cg hg (fun ad e _ => by
    have h1 := hlt ad e
    have h2 : BS ≤ V.heap.size := by have := u.size; omega
    exact ⟨by omega, fun q => by have := hsg _ q; omega, by omega⟩))
  clear hg3 v3 NC q0a q0b
  go_wp2_with fail
  first | rw [unhide HKK] | skip
  clear hkk
  go_loopw [14] (fun i wr => ∃ (j t : Nat) (bs : List Nat) (sg : Option Addr) (cg : Nat), j ≤ q ∧ i = .int .i64 (j : Int) ∧ Hid (GaAt wr BS t bs sg cg) ∧ Hid (∀ x, blk sg = some x → BS ≤ x) ∧ Hid (Below BS V2 wr) ∧ Hid (Wy l sz q j t bs)) (fun i _ => q - (intOf i).toNat)
  case atStart => exact ⟨0, 0, [], none, 0, by omega, rfl, unhide G3, (fun x e => by cases e), unhide U4, Or.inl ⟨rfl, rfl⟩⟩
  case round =>
    obtain ⟨j, t, bs, sg, cg, hj, rfl, hG, hSG, hB, hW⟩ := hrel
    by_cases hjq : j < q
    · have hj0 : (0 : Int) ≤ (j : Int) := by omega
      have hj1 : (j : Int) < (q : Int) := by omega
      obtain ⟨gr, pp, pc, hsp, p0, hpo, hpl, hple⟩ := unhide PIE wr (unhide hB) j hjq
      subst hsp
      have AC := hide (unhide GAD wr t bs sg cg (unhide hG) (unhide hSG) (unhide hB) j hjq pp pc hpo hpl hple)
      have WY := hide (show j = 0 ∨ (t = l.length ∧ bs = l.take (j * sz)) from by
        rcases unhide hW with ⟨h, _⟩ | ⟨_, _, h1, h2⟩ | ⟨_, h, _⟩
        · exact .inl h
        · exact .inr ⟨h1, h2⟩
        · omega)
      generalize hpn : (pieceB l sz (j * sz)).length = pn at *
      have BL := hide (show BS ≤ wr.heap.size from by have := (unhide hB).size; omega)
      by_cases hlast : j + 1 = q
      · as_aux_lemma =>
        rw [gather_last (by omega) hs1 LP (by rw [unhide HQ]; exact hlast) t bs (unhide WY), unhide SL] at AC
        dsimp only [snOf, snX] at AC
        have e1 : ((j : Int) == (q : Int) - 1) = true := by simp; omega
        have e2 : (j : Int) = (q : Int) - 1 := by omega
        have E2 := hide e2
        clear e2 hpo hpl hpn
        go_wp2_with fail
        go_at_call 45
        refine (unhide AC).mono ?_
        rintro e V4 ⟨h4, sg4, cg4, rfl, s4, fr4, g4, f4, hs4⟩
        dsimp only at s4 g4 ⊢
        unfold snRow
        try rw [show decide ((0 : Nat) = 0) = true from rfl]
        try rw [show ((0 : Nat) : Int) = 0 from rfl]
        have B4 := hide ((unhide hB).trans (f4.below (Nat.le_refl _) (unhide hSG) (unhide BL)))
        have A5 := hide (show Below V4.heap.size V4 (V4.alloc (.cells #[.int .i64 e0.i, .int .i64 e0.t, .slice h4.va e0.v.length h4.vc, .slice h4.la e0.l.length h4.lc, .slice h4.dp e0.d.length h4.dc] 29)) from (Below.refl _ _).alloc (Nat.le_refl _) _)
        have X5 := hide (heap_new V4 (.cells #[.int .i64 e0.i, .int .i64 e0.t, .slice h4.va e0.v.length h4.vc, .slice h4.la e0.l.length h4.lc, .slice h4.dp e0.d.length h4.dc] 29))
        have L4 := hide (show BS ≤ V4.heap.size from by have := (unhide B4).size; omega)
        have B5 := hide ((unhide B4).trans ((unhide A5).mono (unhide L4)))
        have G5 := hide (g4.later (unhide A5))
        have SC := hide (sameS_yes e0 q0 h4 _ ((unhide Z0).later (unhide FL _ (unhide B5))) (s4.later (unhide A5)))
        have SG5 := hide (show ∀ x, blk sg4 = some x → BS ≤ x from fun x e => (hs4 x e).elim (unhide hSG x) (fun h => by have := unhide BL; omega))
        unfold snRow at SC
        have bx := hide (unhide BX _ (unhide B5))
        have b0 := box_cell (unhide bx) 0 _ rfl
        have b1 := box_cell (unhide bx) 1 _ rfl
        have b2 := box_cell (unhide bx) 2 _ rfl
        have b3 := box_cell (unhide bx) 3 _ rfl
        have b4 := box_cell (unhide bx) 4 _ rfl
        have c0 := box_cell (unhide X5) 0 _ rfl
        have c1 := box_cell (unhide X5) 1 _ rfl
        have c2 := box_cell (unhide X5) 2 _ rfl
        have c3 := box_cell (unhide X5) 3 _ rfl
        have c4 := box_cell (unhide X5) 4 _ rfl
        clear s4 fr4 g4 f4 hs4 AC p0
        go_wp2_with fail
        clear b0 b1 b2 b3 b4 c0 c1 c2 c3 c4
        generalize V4.alloc _ = W5 at *
        generalize V4.heap.size = E4 at *
        go_at_call 18
        refine (unhide SC).mono ?_
        rintro e V6 ⟨rfl, v6⟩
        have G6 := hide ((unhide G5).later v6)
        have L5 := hide (show BS ≤ W5.heap.size from by have := (unhide B5).size; omega)
        have B6 := hide ((unhide B5).trans (v6.mono (unhide L5)))
        have WN := hide (show Wy l sz q (j + 1) 0 [] from .inr (.inr ⟨by omega, hlast, rfl⟩))
        clear v6 SC
        go_wp2
        exact ⟨⟨j + 1, 0, [], sg4, cg4, by omega, by go_num, unhide G6, unhide SG5, unhide B6, unhide WN⟩, by simp [intOf]; omega⟩
      · have hnx : j + 1 < q := by omega
        rw [gather_next (by omega) hs1 (by rw [unhide HQ]; exact hnx) t bs (unhide WY)] at AC
        have e1 : ((j : Int) == (q : Int) - 1) = false := by simp; omega
        have e2 : ¬ (j : Int) = (q : Int) - 1 := by omega
        have WN := hide (show Wy l sz q (j + 1) l.length (l.take ((j + 1) * sz)) from .inr (.inl ⟨by omega, hnx, rfl, rfl⟩))
        clear hpo hpl hpn
        go_wp2_with fail
        go_at_call 45
        refine (unhide AC).mono ?_
        rintro e V4 ⟨h4, sg4, cg4, rfl, s4, fr4, g4, f4, hs4⟩
        dsimp only at s4 g4 ⊢
        unfold snRow
        rw [show ((0 : Nat) : Int) = 0 from rfl]
        have B4 := hide ((unhide hB).trans (f4.below (Nat.le_refl _) (unhide hSG) (unhide BL)))
        have A5 := hide (show Below V4.heap.size V4 (V4.alloc (.cells #[.int .i64 sn0.i, .int .i64 sn0.t, .slice h4.va sn0.v.length h4.vc, .slice h4.la sn0.l.length h4.lc, .slice h4.dp sn0.d.length h4.dc] 29)) from (Below.refl _ _).alloc (Nat.le_refl _) _)
        have L4 := hide (show BS ≤ V4.heap.size from by have := (unhide B4).size; omega)
        have B5 := hide ((unhide B4).trans ((unhide A5).mono (unhide L4)))
        have G5 := hide (g4.later (unhide A5))
        have SG5 := hide (show ∀ x, blk sg4 = some x → BS ≤ x from fun x e => (hs4 x e).elim (unhide hSG x) (fun h => by have := unhide BL; omega))
        clear s4 fr4 g4 f4 hs4 AC p0 A5
        by_cases hk0 : kk = 0
        · as_aux_lemma =>
          have k1 : ((kk : Int) == 0) = true := by simp; omega
          have K0 := hide hk0
          clear hk0
          go_wp2_with fail
          generalize V4.alloc _ = W5 at *
          exact ⟨⟨j + 1, _, _, sg4, cg4, by omega, by go_num, unhide G5, unhide SG5, unhide B5, unhide WN⟩, by simp [intOf]; omega⟩
        by_cases hk1 : kk = j + 1
        · as_aux_lemma =>
          have k1 : ((kk : Int) == 0) = false := by simp; omega
          have k2 : ((kk : Int) == (j : Int) + 1) = true := by simp; omega
          have K0 := hide hk0
          have K1 := hide hk1
          clear hk0 hk1
          go_wp2_with fail
          generalize V4.alloc _ = W5 at *
          exact ⟨⟨j + 1, _, _, sg4, cg4, by omega, by go_num, unhide G5, unhide SG5, unhide B5, unhide WN⟩, by simp [intOf]; omega⟩
        · as_aux_lemma =>
          have k1 : ((kk : Int) == 0) = false := by simp; omega
          have k2 : ((kk : Int) == (j : Int) + 1) = false := by simp; omega
          have k3 : ¬ (kk : Int) = 0 := by omega
          have k4 : ¬ (kk : Int) = (j : Int) + 1 := by omega
          have LC := hide (glen_calls (unhide G5))
          go_wp2_with fail
          generalize V4.alloc _ = W5 at *
          go_at_call 47
          refine (unhide LC).mono ?_
          rintro e W6 ⟨rfl, rfl⟩
          obtain ⟨gr2, pp, pc, hsp, p0, hpo, hpl, hple⟩ := unhide PIE _ (unhide B5) kk hkq
          cases hsp
          have AC := hide (unhide GAD _ _ _ sg4 cg4 (unhide G5) (unhide SG5) (unhide B5) kk hkq pp pc hpo hpl hple)
          rw [gather_odd (by omega) hs1 (by rw [unhide HQ]; exact hnx) (by rw [unhide HQ]; exact hkq) hk0 hk1] at AC
          have kj0 : (0 : Int) ≤ (kk : Int) := by omega
          have kj1 : (kk : Int) < (q : Int) := by omega
          have L5 := hide (show BS ≤ W6.heap.size from by have := (unhide B5).size; omega)
          generalize hbl : (l.take ((j + 1) * sz)).length = bl at *
          generalize hpn : (pieceB l sz (kk * sz)).length = pn2 at *
          clear hpo hpl hpn LC
          go_wp2_with fail
          go_at_call 45
          refine (unhide AC).mono ?_
          rintro e V7 ⟨h7, sg7, cg7, rfl, s7, fr7, g7, f7, hs7⟩
          dsimp only at s7 g7 ⊢
          unfold snRow
          rw [show ((12 : Nat) : Int) = 12 from rfl]
          have B7 := hide ((unhide B5).trans (f7.below (Nat.le_refl _) (unhide SG5) (unhide L5)))
          have A8 := hide (show Below V7.heap.size V7 (V7.alloc (.cells #[.int .i64 sn0.i, .int .i64 sn0.t, .slice h7.va sn0.v.length h7.vc, .slice h7.la sn0.l.length h7.lc, .slice h7.dp sn0.d.length h7.dc] 29)) from (Below.refl _ _).alloc (Nat.le_refl _) _)
          have L7 := hide (show BS ≤ V7.heap.size from by have := (unhide B7).size; omega)
          have B8 := hide ((unhide B7).trans ((unhide A8).mono (unhide L7)))
          have G8 := hide (g7.later (unhide A8))
          have SG8 := hide (show ∀ x, blk sg7 = some x → BS ≤ x from fun x e => (hs7 x e).elim (unhide SG5 x) (fun h => by have := unhide L5; omega))
          have LC := hide (glen_calls (unhide G8))
          rw [hbl] at LC
          have qb : ((bl : Int) == (bl : Int)) = true := by simp
          clear s7 fr7 g7 f7 hs7 AC p0 A8
          go_wp2_with fail
          generalize V7.alloc _ = W8 at *
          go_at_call 47
          refine (unhide LC).mono ?_
          rintro e W9 ⟨rfl, rfl⟩
          go_wp2
          exact ⟨⟨j + 1, _, _, sg7, cg7, by omega, by go_num, unhide G8, unhide SG8, unhide B8, unhide WN⟩, by simp [intOf]; omega⟩
    · as_aux_lemma =>
      have hj1 : ¬ (j : Int) < (q : Int) := by omega
      have BN := hide (show bs = [] from by
        rcases unhide hW with ⟨h, _⟩ | ⟨_, h, _, _⟩ | ⟨_, _, h⟩
        · omega
        · omega
        · exact h)
      rw [unhide BN] at hG
      go_wp2_with fail
      go_at_call 17
      refine (live7_calls _ ((unhide TZ).later (unhide FL _ (unhide hB)))).mono ?_
      rintro e V8 ⟨rfl, v8⟩
      have LC := hide (glen_calls ((unhide hG).later v8))
      have FF := hide ((unhide FL _ (unhide hB)).trans (v8.mono (unhide FL _ (unhide hB)).size))
      clear v8
      go_wp2_with fail
      go_at_call 47
      refine (unhide LC).mono ?_
      rintro e W9 ⟨rfl, rfl⟩
      dsimp only [List.length_nil]
      rw [show ((0 : Nat) : Int) = 0 from rfl]
      go_wp2
      go_ret
      exact ⟨by first | rfl | simp, unhide FF⟩
end Go.Proofs.YtagncghpfdjkmaaGreatDoor.snapWays
