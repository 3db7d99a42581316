/- Snapshots: SnapWhole's walk (written by wip/mkswh.py). -/
import Derived.Test.YtagncghpfdjkmaaGreatDoorB25
import Derived.Test.YtagncghpfdjkmaaGreatDoorB27
import Derived.Test.YtagncghpfdjkmaaGreatDoorB28
namespace Go.Proofs.YtagncghpfdjkmaaGreatDoor
open Go.ChangeShapes Go.WideShapes Go.ChangeAt Go.RowKit
set_option linter.unusedVariables false

theorem three_boxes (w : World) (o1 o2 o3 : Obj) : Below w.heap.size w (((w.alloc o1).alloc o2).alloc o3) ∧ (((w.alloc o1).alloc o2).alloc o3).heap[w.heap.size]? = some o1 ∧ (((w.alloc o1).alloc o2).alloc o3).heap[w.heap.size + 1]? = some o2 ∧ (((w.alloc o1).alloc o2).alloc o3).heap[w.heap.size + 2]? = some o3 := by
  have a1 : Below w.heap.size w (w.alloc o1) := (Below.refl _ _).alloc (Nat.le_refl _) _
  have hs1 : (w.alloc o1).heap.size = w.heap.size + 1 := by simp
  have a2 : Below (w.alloc o1).heap.size (w.alloc o1) ((w.alloc o1).alloc o2) := (Below.refl _ _).alloc (Nat.le_refl _) _
  have hs2 : ((w.alloc o1).alloc o2).heap.size = w.heap.size + 2 := by simp
  have a3 : Below ((w.alloc o1).alloc o2).heap.size ((w.alloc o1).alloc o2) (((w.alloc o1).alloc o2).alloc o3) := (Below.refl _ _).alloc (Nat.le_refl _) _
  have b2 := heap_new (w.alloc o1) o2
  rw [hs1] at b2
  have b3 := heap_new ((w.alloc o1).alloc o2) o3
  rw [hs2] at b3
  exact ⟨(a1.trans (a2.mono a1.size)).trans (a3.mono (a1.trans (a2.mono a1.size)).size), later_block a3 (later_block a2 (heap_new w o1)), later_block a3 b2, b3⟩
/-- One more block lies aside. -/
theorem DAt.moreE {Av : Nat → Prop} {base d M room N : Nat} {w w' : World} {ss : Ds} (h : DAt Av base w d M room N ss) (hb : Below w.heap.size w w') : ∃ Bv, DAt Bv base w' d M room N ss ∧ (∀ g, Av g → Bv g) ∧ ∀ g, w.heap.size ≤ g → g < w'.heap.size → Bv g :=
  ⟨_, h.more hb, fun g hg => .inl hg, fun g h1 h2 => .inr ⟨h1, h2⟩⟩
theorem one_name {W : World} {base : Nat} {sp : Option Addr} {c : Nat} {s : Nm} (h : OwnN base W sp c [s]) : ∃ g, sp = some ⟨g, 0, none⟩ ∧ W.cell? ⟨g, 0, none⟩ = some (.string (str s)) := by
  obtain ⟨g, e, hc⟩ := OwnN.cell h 0 (by simp)
  exact ⟨g, e, by simpa using hc⟩
end Go.Proofs.YtagncghpfdjkmaaGreatDoor
namespace Go.Proofs.YtagncghpfdjkmaaGreatDoor.snapWhole
open Go.ChangeShapes Go.WideShapes Go.ChangeAt Go.RowKit
set_option linter.unusedVariables false
theorem asdBlock {Av : Nat → Prop} {base : Nat} {w w' : World} {g : Nat} {o : Obj} (a : Asd Av base w w') (h : w.heap[g]? = some o) (hg : Av g) : w'.heap[g]? = some o := (a.av g hg).trans h
theorem belBlock {base : Nat} {w w' : World} {g : Nat} {o : Obj} (a : Below base w w') (h : w.heap[g]? = some o) (hg : g < base) : w'.heap[g]? = some o := (a.block g hg).trans h
set_option maxRecDepth 20000 in
set_option maxHeartbeats 16000000 in
theorem walk0 (A : Sn) (qa : SnH) (B : Sn) (qb : SnH) (t u : Int) (w : World) (ha : SnAt w A qa) (hb : SnAt w B qb) (bt : -9223372036854775808 ≤ t ∧ t ≤ 9223372036854775807) (bu : -9223372036854775808 ≤ u ∧ u ≤ 9223372036854775807) (hTz : Tz w) :
    Calls Tryz.prog 9 #[.agg (snRow A qa), .agg (snRow B qb), .agg #[.int .i64 t, .int .i64 u]] w fun e w' => e = .returned (.bool true) ∧ Below w.heap.size w w' := by
  unfold snRow
  obtain ⟨b3, xa, xb, xc⟩ := three_boxes w (.cells #[.int .i64 A.i, .int .i64 A.t, .slice qa.va A.v.length qa.vc, .slice qa.la A.l.length qa.lc, .slice qa.dp A.d.length qa.dc] 29) (.cells #[.int .i64 B.i, .int .i64 B.t, .slice qb.va B.v.length qb.vc, .slice qb.la B.l.length qb.lc, .slice qb.dp B.d.length qb.dc] 29) (.cells #[.int .i64 t, .int .i64 u] 63)
  have hda := ha.dn
  have hdb := hb.dn
  have hda2 := ha.dm
  have hdb2 := hb.dm
  simp only [maxLen] at hda2 hdb2
  have hia := ha.bi
  have hib := hb.bi
  have U3 := hide b3
  have XA := hide xa
  have XB := hide xb
  have XC := hide xc
  have HA := hide ha
  have HB := hide hb
  have TZ := hide hTz
  clear b3 xa xb xc ha hb hTz
  have a0 := box_cell (unhide XA) 0 _ rfl
  have a1 := box_cell (unhide XA) 1 _ rfl
  have a2 := box_cell (unhide XA) 2 _ rfl
  have a3 := box_cell (unhide XA) 3 _ rfl
  have a4 := box_cell (unhide XA) 4 _ rfl
  have b0 := box_cell (unhide XB) 0 _ rfl
  have b1 := box_cell (unhide XB) 1 _ rfl
  have b2 := box_cell (unhide XB) 2 _ rfl
  have b3 := box_cell (unhide XB) 3 _ rfl
  have b4 := box_cell (unhide XB) 4 _ rfl
  go_enter Tryz.func9, Tryz.ntmps9
  generalize hK : w.heap.size = K at *
  have U3' := hide (show Below w.heap.size w (((w.alloc (.cells #[.int .i64 A.i, .int .i64 A.t, .slice qa.va A.v.length qa.vc, .slice qa.la A.l.length qa.lc, .slice qa.dp A.d.length qa.dc] 29)).alloc (.cells #[.int .i64 B.i, .int .i64 B.t, .slice qb.va B.v.length qb.vc, .slice qb.la B.l.length qb.lc, .slice qb.dp B.d.length qb.dc] 29)).alloc (.cells #[.int .i64 t, .int .i64 u] 63)) by rw [hK]; exact unhide U3)
  by_cases h1 : 4000 < A.d.length
  · as_aux_lemma =>
    have y1 : (4000 : Int) < (A.d.length : Int) := by omega
    go_wp2_with fail
    clear a0 a1 a2 a3 a4 b0 b1 b2 b3 b4
    generalize ((w.alloc _).alloc _).alloc _ = W3 at *
    go_at_call 17
    refine (live7_calls _ ((unhide TZ).later (unhide U3'))).mono ?_
    rintro e V8 ⟨rfl, v8⟩
    have FF := hide ((unhide U3').trans (v8.mono (unhide U3').size))
    clear v8
    go_wp2
    go_ret
    exact ⟨rfl, by first | exact unhide FF | (rw [← hK]; exact unhide FF)⟩
  by_cases h2 : 4000 < B.d.length
  · as_aux_lemma =>
    have y1 : ¬ (4000 : Int) < (A.d.length : Int) := by omega
    have y2 : (4000 : Int) < (B.d.length : Int) := by omega
    go_wp2_with fail
    clear a0 a1 a2 a3 a4 b0 b1 b2 b3 b4
    generalize ((w.alloc _).alloc _).alloc _ = W3 at *
    go_at_call 17
    refine (live7_calls _ ((unhide TZ).later (unhide U3'))).mono ?_
    rintro e V8 ⟨rfl, v8⟩
    have FF := hide ((unhide U3').trans (v8.mono (unhide U3').size))
    clear v8
    go_wp2
    go_ret
    exact ⟨rfl, by first | exact unhide FF | (rw [← hK]; exact unhide FF)⟩
  by_cases h3 : B.i ≤ A.i
  · as_aux_lemma =>
    have y1 : ¬ (4000 : Int) < (A.d.length : Int) := by omega
    have y2 : ¬ (4000 : Int) < (B.d.length : Int) := by omega
    go_wp2_with fail
    clear a0 a1 a2 a3 a4 b0 b1 b2 b3 b4
    generalize ((w.alloc _).alloc _).alloc _ = W3 at *
    go_at_call 17
    refine (live7_calls _ ((unhide TZ).later (unhide U3'))).mono ?_
    rintro e V8 ⟨rfl, v8⟩
    have FF := hide ((unhide U3').trans (v8.mono (unhide U3').size))
    clear v8
    go_wp2
    go_ret
    exact ⟨rfl, by first | exact unhide FF | (rw [← hK]; exact unhide FF)⟩
  have y1 : ¬ (4000 : Int) < (A.d.length : Int) := by omega
  have y2 : ¬ (4000 : Int) < (B.d.length : Int) := by omega
  have LT := hide (show A.i < B.i by omega)
  go_wp2_with fail
  clear a0 a1 a2 a3 a4 b0 b1 b2 b3 b4
  generalize ((w.alloc _).alloc _).alloc _ = W3 at *
  clear y1 y2
  have NC := hide (anew_calls W3 65536)
  rw [show ((65536 : Int).toNat) = 65536 from rfl] at NC
  go_at_call 22
  refine (unhide NC).mono ?_
  rintro e V1 ⟨d, M, rfl, d1, v1⟩
  have KB := hide (show K ≤ W3.heap.size ∧ K + 2 < W3.heap.size from ⟨by rw [← hK]; exact (unhide U3').size, (Array.getElem?_eq_some_iff.1 (unhide XC)).1⟩)
  generalize hBS : W3.heap.size = BS at *
  have D1 := hide d1
  have W1 := hide v1
  have UW := hide (show ∀ V, Below BS W3 V → Below w.heap.size w V from fun V u => (unhide U3').trans (u.mono (by rw [hK]; exact (unhide KB).1)))
  have BX := hide (show ∀ V, Below BS W3 V → V.heap[K]? = some (.cells #[.int .i64 A.i, .int .i64 A.t, .slice qa.va A.v.length qa.vc, .slice qa.la A.l.length qa.lc, .slice qa.dp A.d.length qa.dc] 29 (0, 0)) ∧ V.heap[K + 1]? = some (.cells #[.int .i64 B.i, .int .i64 B.t, .slice qb.va B.v.length qb.vc, .slice qb.la B.l.length qb.lc, .slice qb.dp B.d.length qb.dc] 29 (0, 0)) ∧ V.heap[K + 2]? = some (.cells #[.int .i64 t, .int .i64 u] 63 (0, 0)) from fun V u => ⟨belBlock u (unhide XA) (by have := unhide KB; omega), belBlock u (unhide XB) (by have := unhide KB; omega), belBlock u (unhide XC) (unhide KB).2⟩)
  have TT := hide (show ∀ V, Below BS W3 V → ∃ w0 : World, w0.heap.size = BS ∧ Tz w0 ∧ Below BS w0 V from fun V u => ⟨W3, hBS, (unhide TZ).later (unhide U3'), u⟩)
  have PC := hide (sput_calls B qb V1 ((unhide HB).later (unhide UW V1 v1)))
  unfold snRow at PC
  have bx := hide (unhide BX V1 v1).2.1
  have b0 := box_cell (unhide bx) 0 _ rfl
  have b1 := box_cell (unhide bx) 1 _ rfl
  have b2 := box_cell (unhide bx) 2 _ rfl
  have b3 := box_cell (unhide bx) 3 _ rfl
  have b4 := box_cell (unhide bx) 4 _ rfl
  clear d1 v1 NC XA XB XC U3
  go_wp2_with fail
  clear b0 b1 b2 b3 b4
  clear bx
  go_at_call 15
  refine (unhide PC).mono ?_
  rintro e V2 ⟨v2, hcase⟩
  have W2 := hide ((unhide W1).trans (v2.mono (unhide D1).le))
  obtain ⟨Av, d2, _, hav⟩ := (unhide D1).moreE v2
  have D2 := hide d2
  have AV := hide hav
  have LE1 := hide v2.size
  have SC := hide (save_calls d2 (by omega) (unhide TT V2 (unhide W2)) A qa ((unhide HA).later (unhide UW V2 (unhide W2))))
  unfold snRow at SC
  have ax := hide (unhide BX V2 (unhide W2)).1
  have a0 := box_cell (unhide ax) 0 _ rfl
  have a1 := box_cell (unhide ax) 1 _ rfl
  have a2 := box_cell (unhide ax) 2 _ rfl
  have a3 := box_cell (unhide ax) 3 _ rfl
  have a4 := box_cell (unhide ax) 4 _ rfl
  clear v2 d2 hav PC
  by_cases hA0 : ¬ snE A = 0
  · as_aux_lemma =>
    have hS : sSave 65536 A [] = (snE A, []) := by unfold sSave; rw [if_pos hA0]
    rw [hS] at SC
    have e1 : ¬ ((snE A : Nat) : Int) = 0 := by omega
    have e2 : (((snE A : Nat) : Int) == 0) = false := by simp; omega
    rcases hcase with ⟨h0, rfl⟩ | ⟨h0, g, nx, rfl, hgn, hgo⟩
    · go_wp2_with fail
      clear a0 a1 a2 a3 a4
      go_at_call 24
      refine (unhide SC).mono ?_
      rintro e V3 ⟨rfl, h3, a3⟩
      have W3' := hide (unhide UW V3 ((unhide W2).trans a3.bel))
      dsimp only
      generalize ((snE A : Nat) : Int) = ea at *
      clear h3 a3 SC
      go_wp2_with fail
      go_at_call 17
      refine (live7_calls _ ((unhide TZ).later (unhide W3'))).mono ?_
      rintro e V8 ⟨rfl, v8⟩
      have FF := hide ((unhide W3').trans (v8.mono (unhide W3').size))
      clear v8
      go_wp2
      go_ret
      exact ⟨rfl, by first | exact unhide FF | (rw [← hK]; exact unhide FF)⟩
    · go_wp2_with fail
      clear a0 a1 a2 a3 a4
      go_at_call 24
      refine (unhide SC).mono ?_
      rintro e V3 ⟨rfl, h3, a3⟩
      have W3' := hide (unhide UW V3 ((unhide W2).trans a3.bel))
      dsimp only
      generalize ((snE A : Nat) : Int) = ea at *
      clear h3 a3 SC
      go_wp2_with fail
      go_at_call 17
      refine (live7_calls _ ((unhide TZ).later (unhide W3'))).mono ?_
      rintro e V8 ⟨rfl, v8⟩
      have FF := hide ((unhide W3').trans (v8.mono (unhide W3').size))
      clear v8
      go_wp2
      go_ret
      exact ⟨rfl, by first | exact unhide FF | (rw [← hK]; exact unhide FF)⟩
  replace hA0 : snE A = 0 := by omega
  have LA := snB_4000 hA0 (by omega)
  rw [save_first hA0 (by omega)] at SC
  rcases hcase with ⟨h0, rfl⟩ | ⟨h0, g, nx, rfl, hgn, hgo⟩
  · as_aux_lemma =>
    have e1 : ¬ ((snE B : Nat) : Int) = 0 := by omega
    have e2 : (((snE B : Nat) : Int) == 0) = false := by simp; omega
    generalize ((snE B : Nat) : Int) = eb at *
    go_wp2_with fail
    clear a0 a1 a2 a3 a4
    go_at_call 24
    refine (unhide SC).mono ?_
    rintro e V3 ⟨rfl, h3, a3⟩
    have W3' := hide (unhide UW V3 ((unhide W2).trans a3.bel))
    dsimp only
    rw [show ((0 : Nat) : Int) = 0 from rfl]
    clear h3 a3 SC
    go_wp2_with fail
    go_at_call 17
    refine (live7_calls _ ((unhide TZ).later (unhide W3'))).mono ?_
    rintro e V8 ⟨rfl, v8⟩
    have FF := hide ((unhide W3').trans (v8.mono (unhide W3').size))
    clear v8
    go_wp2
    go_ret
    exact ⟨rfl, by first | exact unhide FF | (rw [← hK]; exact unhide FF)⟩
  have LB := snB_4000 h0 (by omega)
  have HGO := hide hgo
  have HGN := hide hgn
  have HA0 := hide hA0
  have HB0 := hide h0
  have hnx : nx ≤ 4100 := by rw [← hgn]; exact LB
  have GAV := hide (show Av g from unhide AV g (hgo.adr ⟨g, 0, none⟩ rfl) (hgo.blkLt g rfl))
  have LBS := hide LB
  have LAS := hide LA
  clear hgo hgn hA0 h0 LA LB h1 h2 h3
  go_wp2_with fail
  clear a0 a1 a2 a3 a4
  go_at_call 24
  refine (unhide SC).mono ?_
  rintro e V3 ⟨rfl, d3, a3⟩
  dsimp only at d3 ⊢
  rw [show ((0 : Nat) : Int) = 0 from rfl]
  have D3 := hide d3
  have W3' := hide ((unhide W2).trans a3.bel)
  have BX3 := hide (bytesAsd (unhide HGO).bytes a3 (unhide GAV))
  have cx := hide (unhide BX V3 (unhide W3')).2.2
  have c0 := box_cell (unhide cx) 0 _ rfl
  obtain ⟨N, hN, hN4⟩ := rem_natS t 4 (by omega) (by omega)
  rw [show ((4 : Nat) : Int) = 4 from rfl] at hN
  clear d3 a3 SC ax
  rcases (show N = 0 ∨ 0 < N by omega) with rfl | hN0
  · as_aux_lemma =>
    rw [show ((0 : Nat) : Int) = 0 from rfl] at hN
    have ax := hide (unhide BX V3 (unhide W3')).1
    have a0 := box_cell (unhide ax) 0 _ rfl
    have a1 := box_cell (unhide ax) 1 _ rfl
    have a2 := box_cell (unhide ax) 2 _ rfl
    have a3 := box_cell (unhide ax) 3 _ rfl
    have a4 := box_cell (unhide ax) 4 _ rfl
    have A6 := hide (show Below V3.heap.size V3 (V3.alloc (.cells #[.int .i64 A.i, .int .i64 A.t, .slice qa.va A.v.length qa.vc, .slice qa.la A.l.length qa.lc, .slice qa.dp A.d.length qa.dc] 29)) from (Below.refl _ _).alloc (Nat.le_refl _) _)
    have XW := hide (heap_new V3 (.cells #[.int .i64 A.i, .int .i64 A.t, .slice qa.va A.v.length qa.vc, .slice qa.la A.l.length qa.lc, .slice qa.dp A.d.length qa.dc] 29))
    obtain ⟨Bv, d6, hab, hbv⟩ := (unhide D3).moreE (unhide A6)
    have EV := hide (show Bv V3.heap.size from hbv _ (Nat.le_refl _) (by simp))
    have EWL := hide (show BS ≤ V3.heap.size from (unhide D3).le)
    have D6 := hide d6
    have W6 := hide ((unhide W3').trans ((unhide A6).mono (unhide D3).le))
    clear d6 hab hbv A6
    have cz := hide (unhide BX _ (unhide W6)).2.2
    have c1 := box_cell (unhide cz) 1 _ rfl
    have A7 := hide (show Below (V3.alloc (.cells #[.int .i64 A.i, .int .i64 A.t, .slice qa.va A.v.length qa.vc, .slice qa.la A.l.length qa.lc, .slice qa.dp A.d.length qa.dc] 29)).heap.size (V3.alloc (.cells #[.int .i64 A.i, .int .i64 A.t, .slice qa.va A.v.length qa.vc, .slice qa.la A.l.length qa.lc, .slice qa.dp A.d.length qa.dc] 29)) ((V3.alloc (.cells #[.int .i64 A.i, .int .i64 A.t, .slice qa.va A.v.length qa.vc, .slice qa.la A.l.length qa.lc, .slice qa.dp A.d.length qa.dc] 29)).alloc (.cells #[.int .i64 u, .int .i64 u, .int .i64 u] 3)) from (Below.refl _ _).alloc (Nat.le_refl _) _)
    have hz6 : (V3.alloc (.cells #[.int .i64 A.i, .int .i64 A.t, .slice qa.va A.v.length qa.vc, .slice qa.la A.l.length qa.lc, .slice qa.dp A.d.length qa.dc] 29)).heap.size = V3.heap.size + 1 := by simp
    have LI := lit_ints (V3.alloc (.cells #[.int .i64 A.i, .int .i64 A.t, .slice qa.va A.v.length qa.vc, .slice qa.la A.l.length qa.lc, .slice qa.dp A.d.length qa.dc] 29)) [u, u, u] (by intro n hn; simp at hn; omega)
    rw [hz6] at LI
    have LIT := hide LI
    have XW7 := hide (later_block (unhide A7) (unhide XW))
    obtain ⟨Cv, d7, hbc, hcv⟩ := (unhide D6).moreE (unhide A7)
    have EC := hide (hbc _ (unhide EV))
    have EI := hide (show Cv (V3.heap.size + 1) from hcv _ (by rw [hz6]; exact Nat.le_refl _) (by simp))
    have D7 := hide d7
    have W7 := hide ((unhide W6).trans ((unhide A7).mono (unhide D6).le))
    have RW := hide (show Wh A [snF A] from Wh.one (unhide HA0))
    have CC := hide (acrash_calls (unhide D7) (some ⟨V3.heap.size + 1, 0, none⟩) 3 3 [u, u, u] rfl (unhide LIT) (fun b off e _ => by cases e; exact .inr (unhide EI)))
    clear d7 hbc hcv LI hz6 A7 XW D6 LIT
    go_wp2_with fail
    clear c1
    clear a0 a1 a2 a3 a4
    generalize (V3.alloc _).alloc _ = W7w at *
    generalize V3.heap.size = EW at *
    go_at_call 26
    refine (unhide CC).mono ?_
    rintro e Z1 ⟨rfl, d11, a11⟩
    have RW2 := hide ((unhide RW).crash [u, u, u] d11.rise)
    have LO := hide ((unhide RW2).load (unhide HA0))
    have SV := hide ((unhide RW2).save (room := 65536) (unhide HA0) (unhide HB0) (unhide LT) (by have h1 := unhide LAS; have h2 := unhide LBS; omega))
    generalize crashS [u, u, u] 0 [snF A] = ssc at *
    have D11 := hide d11
    have W11 := hide ((unhide W7).trans a11.bel)
    have XW11 := hide (asdBlock a11 (unhide XW7) (unhide EC))
    have LC := hide (load_calls d11 ((unhide TZ).later (unhide UW _ (unhide W11))))
    rw [unhide LO] at LC
    clear d11 a11 CC
    go_wp2_with fail
    go_at_call 30
    refine (unhide LC).mono ?_
    rintro e Z2 ⟨hl, rfl, sl, z2⟩
    unfold snRow
    dsimp only [Option.getD_some, Option.isSome_some] at sl ⊢
    rw [if_pos rfl]
    have A12 := hide (show Below Z2.heap.size Z2 (Z2.alloc (.cells #[.int .i64 A.i, .int .i64 A.t, .slice hl.va A.v.length hl.vc, .slice hl.la A.l.length hl.lc, .slice hl.dp A.d.length hl.dc] 29)) from (Below.refl _ _).alloc (Nat.le_refl _) _)
    have X12 := hide (heap_new Z2 (.cells #[.int .i64 A.i, .int .i64 A.t, .slice hl.va A.v.length hl.vc, .slice hl.la A.l.length hl.lc, .slice hl.dp A.d.length hl.dc] 29))
    have XW12 := hide (later_block (unhide A12) (later_block z2 (unhide XW11)))
    have D12 := hide (((unhide D11).later z2).later (unhide A12))
    have W12 := hide ((unhide W11).trans ((z2.trans ((unhide A12).mono z2.size)).mono (unhide D11).le))
    have SM := hide (sameS_yes A hl qa _ (sl.later (unhide A12)) ((unhide HA).later (unhide UW _ (unhide W12))))
    unfold snRow at SM
    have x0 := box_cell (unhide X12) 0 _ rfl
    have x1 := box_cell (unhide X12) 1 _ rfl
    have x2 := box_cell (unhide X12) 2 _ rfl
    have x3 := box_cell (unhide X12) 3 _ rfl
    have x4 := box_cell (unhide X12) 4 _ rfl
    have y0 := box_cell (unhide XW12) 0 _ rfl
    have y1 := box_cell (unhide XW12) 1 _ rfl
    have y2 := box_cell (unhide XW12) 2 _ rfl
    have y3 := box_cell (unhide XW12) 3 _ rfl
    have y4 := box_cell (unhide XW12) 4 _ rfl
    clear z2 sl A12 LC
    go_wp2_with fail
    clear x0 x1 x2 x3 x4 y0 y1 y2 y3 y4
    generalize Z2.alloc _ = Z3 at *
    generalize Z2.heap.size = E12 at *
    go_at_call 18
    refine (unhide SM).mono ?_
    rintro e Z4 ⟨rfl, z4⟩
    have D13 := hide ((unhide D12).later z4)
    have W13 := hide ((unhide W12).trans (z4.mono (unhide D12).le))
    have SC := hide (save_calls (unhide D13) (by omega) (unhide TT _ (unhide W13)) B qb ((unhide HB).later (unhide UW _ (unhide W13))))
    unfold snRow at SC
    rw [unhide SV] at SC
    have bx := hide (unhide BX _ (unhide W13)).2.1
    have b0 := box_cell (unhide bx) 0 _ rfl
    have b1 := box_cell (unhide bx) 1 _ rfl
    have b2 := box_cell (unhide bx) 2 _ rfl
    have b3 := box_cell (unhide bx) 3 _ rfl
    have b4 := box_cell (unhide bx) 4 _ rfl
    clear z4 SM X12 XW12
    go_wp2_with fail
    clear b0 b1 b2 b3 b4
    clear bx
    go_at_call 24
    refine (unhide SC).mono ?_
    rintro e Z5 ⟨rfl, d14, a14⟩
    dsimp only at d14 ⊢
    rw [show ((0 : Nat) : Int) = 0 from rfl]
    have D14 := hide d14
    have W14 := hide ((unhide W13).trans a14.bel)
    have LC := hide (load_calls d14 ((unhide TZ).later (unhide UW _ (unhide W14))))
    rw [(Wh.one (unhide HB0)).load (unhide HB0)] at LC
    clear d14 a14 SC
    go_wp2_with fail
    go_at_call 30
    refine (unhide LC).mono ?_
    rintro e Z6 ⟨hm, rfl, sm, z6⟩
    unfold snRow
    dsimp only [Option.getD_some, Option.isSome_some] at sm ⊢
    rw [if_pos rfl]
    have A15 := hide (show Below Z6.heap.size Z6 (Z6.alloc (.cells #[.int .i64 B.i, .int .i64 B.t, .slice hm.va B.v.length hm.vc, .slice hm.la B.l.length hm.lc, .slice hm.dp B.d.length hm.dc] 29)) from (Below.refl _ _).alloc (Nat.le_refl _) _)
    have X15 := hide (heap_new Z6 (.cells #[.int .i64 B.i, .int .i64 B.t, .slice hm.va B.v.length hm.vc, .slice hm.la B.l.length hm.lc, .slice hm.dp B.d.length hm.dc] 29))
    have D15 := hide (((unhide D14).later z6).later (unhide A15))
    have W15 := hide ((unhide W14).trans ((z6.trans ((unhide A15).mono z6.size)).mono (unhide D14).le))
    have S15 := hide (sm.later (unhide A15))
    clear z6 sm A15 LC
    go_wp2_with fail
    generalize Z6.alloc _ = Z7 at *
    generalize Z6.heap.size = E15 at *
    go_at_call 17
    refine (live7_calls _ ((unhide TZ).later (unhide UW _ (unhide W15)))).mono ?_
    rintro e Z8 ⟨rfl, z8⟩
    have D16 := hide ((unhide D15).later z8)
    have W16 := hide ((unhide W15).trans (z8.mono (unhide D15).le))
    have X16 := hide (later_block z8 (unhide X15))
    have SM := hide (sameS_yes B hm qb _ ((unhide S15).later z8) ((unhide HB).later (unhide UW _ (unhide W16))))
    unfold snRow at SM
    have bx := hide (unhide BX _ (unhide W16)).2.1
    have b0 := box_cell (unhide bx) 0 _ rfl
    have b1 := box_cell (unhide bx) 1 _ rfl
    have b2 := box_cell (unhide bx) 2 _ rfl
    have b3 := box_cell (unhide bx) 3 _ rfl
    have b4 := box_cell (unhide bx) 4 _ rfl
    have x0 := box_cell (unhide X16) 0 _ rfl
    have x1 := box_cell (unhide X16) 1 _ rfl
    have x2 := box_cell (unhide X16) 2 _ rfl
    have x3 := box_cell (unhide X16) 3 _ rfl
    have x4 := box_cell (unhide X16) 4 _ rfl
    clear z8 S15 X15
    go_wp2_with fail
    clear b0 b1 b2 b3 b4 x0 x1 x2 x3 x4
    clear bx
    go_at_call 18
    refine (unhide SM).mono ?_
    rintro e Z9 ⟨rfl, z9⟩
    have D17 := hide ((unhide D16).later z9)
    have W17 := hide ((unhide W16).trans (z9.mono (unhide D16).le))
    have NM := hide (anames_calls (unhide D17))
    clear z9 SM
    go_wp2_with fail
    go_at_call 33
    refine (unhide NM).mono ?_
    rintro e Z10 ⟨kp, kn, kc, rfl, hkn, _, z10⟩
    obtain rfl : kn = 1 := by rw [← hkn]; rfl
    have FF := hide (unhide UW _ ((unhide W17).trans (z10.mono (unhide D17).le)))
    clear z10 hkn NM
    go_wp2
    go_ret
    exact ⟨rfl, by first | exact unhide FF | (rw [← hK]; exact unhide FF)⟩
  rcases (show N = 1 ∨ 1 < N by omega) with rfl | hN1
  · as_aux_lemma =>
    rw [show ((1 : Nat) : Int) = 1 from rfl] at hN
    have WC := hide (awrite_calls (unhide D3) (by omega) (⟨#[115, 110, 97, 112, 46, 116, 109, 112]⟩ : ByteArray) (show (8 : Nat) ≤ maxLen by simp [maxLen]) 0 (by omega) (some ⟨g, 0, none⟩) nx nx (snB B) (unhide HGN) (Nat.le_refl _) (unhide BX3) (fun h => by cases h) (fun b off e _ => by cases e; exact .inr (unhide GAV)) (by omega))
    rw [show (⟨#[115, 110, 97, 112, 46, 116, 109, 112]⟩ : ByteArray).data.toList = spareS from rfl, tmp_write (unhide HA0) (unhide HB0) (by have h1 := unhide LAS; have h2 := unhide LBS; omega)] at WC
    go_wp2_with fail
    clear c0
    go_at_call 28
    refine (unhide WC).mono ?_
    rintro e V4 ⟨rfl, d4, a4⟩
    dsimp only at d4 ⊢
    rw [show ((0 : Nat) : Int) = 0 from rfl]
    have D4 := hide d4
    have W4 := hide ((unhide W3').trans a4.bel)
    clear d4 a4 WC
    have ax := hide (unhide BX V4 (unhide W4)).1
    have a0 := box_cell (unhide ax) 0 _ rfl
    have a1 := box_cell (unhide ax) 1 _ rfl
    have a2 := box_cell (unhide ax) 2 _ rfl
    have a3 := box_cell (unhide ax) 3 _ rfl
    have a4 := box_cell (unhide ax) 4 _ rfl
    have A6 := hide (show Below V4.heap.size V4 (V4.alloc (.cells #[.int .i64 A.i, .int .i64 A.t, .slice qa.va A.v.length qa.vc, .slice qa.la A.l.length qa.lc, .slice qa.dp A.d.length qa.dc] 29)) from (Below.refl _ _).alloc (Nat.le_refl _) _)
    have XW := hide (heap_new V4 (.cells #[.int .i64 A.i, .int .i64 A.t, .slice qa.va A.v.length qa.vc, .slice qa.la A.l.length qa.lc, .slice qa.dp A.d.length qa.dc] 29))
    obtain ⟨Bv, d6, hab, hbv⟩ := (unhide D4).moreE (unhide A6)
    have EV := hide (show Bv V4.heap.size from hbv _ (Nat.le_refl _) (by simp))
    have EWL := hide (show BS ≤ V4.heap.size from (unhide D4).le)
    have D6 := hide d6
    have W6 := hide ((unhide W4).trans ((unhide A6).mono (unhide D4).le))
    clear d6 hab hbv A6
    have cz := hide (unhide BX _ (unhide W6)).2.2
    have c1 := box_cell (unhide cz) 1 _ rfl
    have A7 := hide (show Below (V4.alloc (.cells #[.int .i64 A.i, .int .i64 A.t, .slice qa.va A.v.length qa.vc, .slice qa.la A.l.length qa.lc, .slice qa.dp A.d.length qa.dc] 29)).heap.size (V4.alloc (.cells #[.int .i64 A.i, .int .i64 A.t, .slice qa.va A.v.length qa.vc, .slice qa.la A.l.length qa.lc, .slice qa.dp A.d.length qa.dc] 29)) ((V4.alloc (.cells #[.int .i64 A.i, .int .i64 A.t, .slice qa.va A.v.length qa.vc, .slice qa.la A.l.length qa.lc, .slice qa.dp A.d.length qa.dc] 29)).alloc (.cells #[.int .i64 u, .int .i64 u, .int .i64 u] 3)) from (Below.refl _ _).alloc (Nat.le_refl _) _)
    have hz6 : (V4.alloc (.cells #[.int .i64 A.i, .int .i64 A.t, .slice qa.va A.v.length qa.vc, .slice qa.la A.l.length qa.lc, .slice qa.dp A.d.length qa.dc] 29)).heap.size = V4.heap.size + 1 := by simp
    have LI := lit_ints (V4.alloc (.cells #[.int .i64 A.i, .int .i64 A.t, .slice qa.va A.v.length qa.vc, .slice qa.la A.l.length qa.lc, .slice qa.dp A.d.length qa.dc] 29)) [u, u, u] (by intro n hn; simp at hn; omega)
    rw [hz6] at LI
    have LIT := hide LI
    have XW7 := hide (later_block (unhide A7) (unhide XW))
    obtain ⟨Cv, d7, hbc, hcv⟩ := (unhide D6).moreE (unhide A7)
    have EC := hide (hbc _ (unhide EV))
    have EI := hide (show Cv (V4.heap.size + 1) from hcv _ (by rw [hz6]; exact Nat.le_refl _) (by simp))
    have D7 := hide d7
    have W7 := hide ((unhide W6).trans ((unhide A7).mono (unhide D6).le))
    have RW := hide (show Wh A (putF spareS (wrote sp0 0 (snB B)) [snF A]) from (Wh.one (unhide HA0)).tmp (unhide HA0) _)
    have CC := hide (acrash_calls (unhide D7) (some ⟨V4.heap.size + 1, 0, none⟩) 3 3 [u, u, u] rfl (unhide LIT) (fun b off e _ => by cases e; exact .inr (unhide EI)))
    clear d7 hbc hcv LI hz6 A7 XW D6 LIT
    go_wp2_with fail
    clear c1
    clear a0 a1 a2 a3 a4
    generalize (V4.alloc _).alloc _ = W7w at *
    generalize V4.heap.size = EW at *
    go_at_call 26
    refine (unhide CC).mono ?_
    rintro e Z1 ⟨rfl, d11, a11⟩
    have RW2 := hide ((unhide RW).crash [u, u, u] d11.rise)
    have LO := hide ((unhide RW2).load (unhide HA0))
    have SV := hide ((unhide RW2).save (room := 65536) (unhide HA0) (unhide HB0) (unhide LT) (by have h1 := unhide LAS; have h2 := unhide LBS; omega))
    generalize crashS [u, u, u] 0 (putF spareS (wrote sp0 0 (snB B)) [snF A]) = ssc at *
    have D11 := hide d11
    have W11 := hide ((unhide W7).trans a11.bel)
    have XW11 := hide (asdBlock a11 (unhide XW7) (unhide EC))
    have LC := hide (load_calls d11 ((unhide TZ).later (unhide UW _ (unhide W11))))
    rw [unhide LO] at LC
    clear d11 a11 CC
    go_wp2_with fail
    go_at_call 30
    refine (unhide LC).mono ?_
    rintro e Z2 ⟨hl, rfl, sl, z2⟩
    unfold snRow
    dsimp only [Option.getD_some, Option.isSome_some] at sl ⊢
    rw [if_pos rfl]
    have A12 := hide (show Below Z2.heap.size Z2 (Z2.alloc (.cells #[.int .i64 A.i, .int .i64 A.t, .slice hl.va A.v.length hl.vc, .slice hl.la A.l.length hl.lc, .slice hl.dp A.d.length hl.dc] 29)) from (Below.refl _ _).alloc (Nat.le_refl _) _)
    have X12 := hide (heap_new Z2 (.cells #[.int .i64 A.i, .int .i64 A.t, .slice hl.va A.v.length hl.vc, .slice hl.la A.l.length hl.lc, .slice hl.dp A.d.length hl.dc] 29))
    have XW12 := hide (later_block (unhide A12) (later_block z2 (unhide XW11)))
    have D12 := hide (((unhide D11).later z2).later (unhide A12))
    have W12 := hide ((unhide W11).trans ((z2.trans ((unhide A12).mono z2.size)).mono (unhide D11).le))
    have SM := hide (sameS_yes A hl qa _ (sl.later (unhide A12)) ((unhide HA).later (unhide UW _ (unhide W12))))
    unfold snRow at SM
    have x0 := box_cell (unhide X12) 0 _ rfl
    have x1 := box_cell (unhide X12) 1 _ rfl
    have x2 := box_cell (unhide X12) 2 _ rfl
    have x3 := box_cell (unhide X12) 3 _ rfl
    have x4 := box_cell (unhide X12) 4 _ rfl
    have y0 := box_cell (unhide XW12) 0 _ rfl
    have y1 := box_cell (unhide XW12) 1 _ rfl
    have y2 := box_cell (unhide XW12) 2 _ rfl
    have y3 := box_cell (unhide XW12) 3 _ rfl
    have y4 := box_cell (unhide XW12) 4 _ rfl
    clear z2 sl A12 LC
    go_wp2_with fail
    clear x0 x1 x2 x3 x4 y0 y1 y2 y3 y4
    generalize Z2.alloc _ = Z3 at *
    generalize Z2.heap.size = E12 at *
    go_at_call 18
    refine (unhide SM).mono ?_
    rintro e Z4 ⟨rfl, z4⟩
    have D13 := hide ((unhide D12).later z4)
    have W13 := hide ((unhide W12).trans (z4.mono (unhide D12).le))
    have SC := hide (save_calls (unhide D13) (by omega) (unhide TT _ (unhide W13)) B qb ((unhide HB).later (unhide UW _ (unhide W13))))
    unfold snRow at SC
    rw [unhide SV] at SC
    have bx := hide (unhide BX _ (unhide W13)).2.1
    have b0 := box_cell (unhide bx) 0 _ rfl
    have b1 := box_cell (unhide bx) 1 _ rfl
    have b2 := box_cell (unhide bx) 2 _ rfl
    have b3 := box_cell (unhide bx) 3 _ rfl
    have b4 := box_cell (unhide bx) 4 _ rfl
    clear z4 SM X12 XW12
    go_wp2_with fail
    clear b0 b1 b2 b3 b4
    clear bx
    go_at_call 24
    refine (unhide SC).mono ?_
    rintro e Z5 ⟨rfl, d14, a14⟩
    dsimp only at d14 ⊢
    rw [show ((0 : Nat) : Int) = 0 from rfl]
    have D14 := hide d14
    have W14 := hide ((unhide W13).trans a14.bel)
    have LC := hide (load_calls d14 ((unhide TZ).later (unhide UW _ (unhide W14))))
    rw [(Wh.one (unhide HB0)).load (unhide HB0)] at LC
    clear d14 a14 SC
    go_wp2_with fail
    go_at_call 30
    refine (unhide LC).mono ?_
    rintro e Z6 ⟨hm, rfl, sm, z6⟩
    unfold snRow
    dsimp only [Option.getD_some, Option.isSome_some] at sm ⊢
    rw [if_pos rfl]
    have A15 := hide (show Below Z6.heap.size Z6 (Z6.alloc (.cells #[.int .i64 B.i, .int .i64 B.t, .slice hm.va B.v.length hm.vc, .slice hm.la B.l.length hm.lc, .slice hm.dp B.d.length hm.dc] 29)) from (Below.refl _ _).alloc (Nat.le_refl _) _)
    have X15 := hide (heap_new Z6 (.cells #[.int .i64 B.i, .int .i64 B.t, .slice hm.va B.v.length hm.vc, .slice hm.la B.l.length hm.lc, .slice hm.dp B.d.length hm.dc] 29))
    have D15 := hide (((unhide D14).later z6).later (unhide A15))
    have W15 := hide ((unhide W14).trans ((z6.trans ((unhide A15).mono z6.size)).mono (unhide D14).le))
    have S15 := hide (sm.later (unhide A15))
    clear z6 sm A15 LC
    go_wp2_with fail
    generalize Z6.alloc _ = Z7 at *
    generalize Z6.heap.size = E15 at *
    go_at_call 17
    refine (live7_calls _ ((unhide TZ).later (unhide UW _ (unhide W15)))).mono ?_
    rintro e Z8 ⟨rfl, z8⟩
    have D16 := hide ((unhide D15).later z8)
    have W16 := hide ((unhide W15).trans (z8.mono (unhide D15).le))
    have X16 := hide (later_block z8 (unhide X15))
    have SM := hide (sameS_yes B hm qb _ ((unhide S15).later z8) ((unhide HB).later (unhide UW _ (unhide W16))))
    unfold snRow at SM
    have bx := hide (unhide BX _ (unhide W16)).2.1
    have b0 := box_cell (unhide bx) 0 _ rfl
    have b1 := box_cell (unhide bx) 1 _ rfl
    have b2 := box_cell (unhide bx) 2 _ rfl
    have b3 := box_cell (unhide bx) 3 _ rfl
    have b4 := box_cell (unhide bx) 4 _ rfl
    have x0 := box_cell (unhide X16) 0 _ rfl
    have x1 := box_cell (unhide X16) 1 _ rfl
    have x2 := box_cell (unhide X16) 2 _ rfl
    have x3 := box_cell (unhide X16) 3 _ rfl
    have x4 := box_cell (unhide X16) 4 _ rfl
    clear z8 S15 X15
    go_wp2_with fail
    clear b0 b1 b2 b3 b4 x0 x1 x2 x3 x4
    clear bx
    go_at_call 18
    refine (unhide SM).mono ?_
    rintro e Z9 ⟨rfl, z9⟩
    have D17 := hide ((unhide D16).later z9)
    have W17 := hide ((unhide W16).trans (z9.mono (unhide D16).le))
    have NM := hide (anames_calls (unhide D17))
    clear z9 SM
    go_wp2_with fail
    go_at_call 33
    refine (unhide NM).mono ?_
    rintro e Z10 ⟨kp, kn, kc, rfl, hkn, _, z10⟩
    obtain rfl : kn = 1 := by rw [← hkn]; rfl
    have FF := hide (unhide UW _ ((unhide W17).trans (z10.mono (unhide D17).le)))
    clear z10 hkn NM
    go_wp2
    go_ret
    exact ⟨rfl, by first | exact unhide FF | (rw [← hK]; exact unhide FF)⟩
  rcases (show N = 2 ∨ 2 < N by omega) with rfl | hN2
  · as_aux_lemma =>
    rw [show ((2 : Nat) : Int) = 2 from rfl] at hN
    have WC := hide (awrite_calls (unhide D3) (by omega) (⟨#[115, 110, 97, 112, 46, 116, 109, 112]⟩ : ByteArray) (show (8 : Nat) ≤ maxLen by simp [maxLen]) 0 (by omega) (some ⟨g, 0, none⟩) nx nx (snB B) (unhide HGN) (Nat.le_refl _) (unhide BX3) (fun h => by cases h) (fun b off e _ => by cases e; exact .inr (unhide GAV)) (by omega))
    rw [show (⟨#[115, 110, 97, 112, 46, 116, 109, 112]⟩ : ByteArray).data.toList = spareS from rfl, tmp_write (unhide HA0) (unhide HB0) (by have h1 := unhide LAS; have h2 := unhide LBS; omega)] at WC
    go_wp2_with fail
    clear c0
    go_at_call 28
    refine (unhide WC).mono ?_
    rintro e V4 ⟨rfl, d4, a4⟩
    dsimp only at d4 ⊢
    rw [show ((0 : Nat) : Int) = 0 from rfl]
    have D4 := hide d4
    have W4 := hide ((unhide W3').trans a4.bel)
    clear d4 a4 WC
    have YC := hide (async_calls (unhide D4) (⟨#[115, 110, 97, 112, 46, 116, 109, 112]⟩ : ByteArray) (show (8 : Nat) ≤ maxLen by simp [maxLen]))
    rw [show (⟨#[115, 110, 97, 112, 46, 116, 109, 112]⟩ : ByteArray).data.toList = spareS from rfl, tmp_sync (unhide HA0)] at YC
    go_wp2_with fail
    go_at_call 38
    refine (unhide YC).mono ?_
    rintro e V5 ⟨rfl, d5, a5⟩
    dsimp only at d5 ⊢
    rw [show ((0 : Nat) : Int) = 0 from rfl]
    have D5 := hide d5
    have W5 := hide ((unhide W4).trans a5.bel)
    clear d5 a5 YC
    have ax := hide (unhide BX V5 (unhide W5)).1
    have a0 := box_cell (unhide ax) 0 _ rfl
    have a1 := box_cell (unhide ax) 1 _ rfl
    have a2 := box_cell (unhide ax) 2 _ rfl
    have a3 := box_cell (unhide ax) 3 _ rfl
    have a4 := box_cell (unhide ax) 4 _ rfl
    have A6 := hide (show Below V5.heap.size V5 (V5.alloc (.cells #[.int .i64 A.i, .int .i64 A.t, .slice qa.va A.v.length qa.vc, .slice qa.la A.l.length qa.lc, .slice qa.dp A.d.length qa.dc] 29)) from (Below.refl _ _).alloc (Nat.le_refl _) _)
    have XW := hide (heap_new V5 (.cells #[.int .i64 A.i, .int .i64 A.t, .slice qa.va A.v.length qa.vc, .slice qa.la A.l.length qa.lc, .slice qa.dp A.d.length qa.dc] 29))
    obtain ⟨Bv, d6, hab, hbv⟩ := (unhide D5).moreE (unhide A6)
    have EV := hide (show Bv V5.heap.size from hbv _ (Nat.le_refl _) (by simp))
    have EWL := hide (show BS ≤ V5.heap.size from (unhide D5).le)
    have D6 := hide d6
    have W6 := hide ((unhide W5).trans ((unhide A6).mono (unhide D5).le))
    clear d6 hab hbv A6
    have cz := hide (unhide BX _ (unhide W6)).2.2
    have c1 := box_cell (unhide cz) 1 _ rfl
    have A7 := hide (show Below (V5.alloc (.cells #[.int .i64 A.i, .int .i64 A.t, .slice qa.va A.v.length qa.vc, .slice qa.la A.l.length qa.lc, .slice qa.dp A.d.length qa.dc] 29)).heap.size (V5.alloc (.cells #[.int .i64 A.i, .int .i64 A.t, .slice qa.va A.v.length qa.vc, .slice qa.la A.l.length qa.lc, .slice qa.dp A.d.length qa.dc] 29)) ((V5.alloc (.cells #[.int .i64 A.i, .int .i64 A.t, .slice qa.va A.v.length qa.vc, .slice qa.la A.l.length qa.lc, .slice qa.dp A.d.length qa.dc] 29)).alloc (.cells #[.int .i64 u, .int .i64 u, .int .i64 u] 3)) from (Below.refl _ _).alloc (Nat.le_refl _) _)
    have hz6 : (V5.alloc (.cells #[.int .i64 A.i, .int .i64 A.t, .slice qa.va A.v.length qa.vc, .slice qa.la A.l.length qa.lc, .slice qa.dp A.d.length qa.dc] 29)).heap.size = V5.heap.size + 1 := by simp
    have LI := lit_ints (V5.alloc (.cells #[.int .i64 A.i, .int .i64 A.t, .slice qa.va A.v.length qa.vc, .slice qa.la A.l.length qa.lc, .slice qa.dp A.d.length qa.dc] 29)) [u, u, u] (by intro n hn; simp at hn; omega)
    rw [hz6] at LI
    have LIT := hide LI
    have XW7 := hide (later_block (unhide A7) (unhide XW))
    obtain ⟨Cv, d7, hbc, hcv⟩ := (unhide D6).moreE (unhide A7)
    have EC := hide (hbc _ (unhide EV))
    have EI := hide (show Cv (V5.heap.size + 1) from hcv _ (by rw [hz6]; exact Nat.le_refl _) (by simp))
    have D7 := hide d7
    have W7 := hide ((unhide W6).trans ((unhide A7).mono (unhide D6).le))
    have RW := hide (show Wh A (putF spareS ⟨true, snB B, []⟩ [snF A]) from (Wh.one (unhide HA0)).tmp (unhide HA0) _)
    have CC := hide (acrash_calls (unhide D7) (some ⟨V5.heap.size + 1, 0, none⟩) 3 3 [u, u, u] rfl (unhide LIT) (fun b off e _ => by cases e; exact .inr (unhide EI)))
    clear d7 hbc hcv LI hz6 A7 XW D6 LIT
    go_wp2_with fail
    clear c1
    clear a0 a1 a2 a3 a4
    generalize (V5.alloc _).alloc _ = W7w at *
    generalize V5.heap.size = EW at *
    go_at_call 26
    refine (unhide CC).mono ?_
    rintro e Z1 ⟨rfl, d11, a11⟩
    have RW2 := hide ((unhide RW).crash [u, u, u] d11.rise)
    have LO := hide ((unhide RW2).load (unhide HA0))
    have SV := hide ((unhide RW2).save (room := 65536) (unhide HA0) (unhide HB0) (unhide LT) (by have h1 := unhide LAS; have h2 := unhide LBS; omega))
    generalize crashS [u, u, u] 0 (putF spareS ⟨true, snB B, []⟩ [snF A]) = ssc at *
    have D11 := hide d11
    have W11 := hide ((unhide W7).trans a11.bel)
    have XW11 := hide (asdBlock a11 (unhide XW7) (unhide EC))
    have LC := hide (load_calls d11 ((unhide TZ).later (unhide UW _ (unhide W11))))
    rw [unhide LO] at LC
    clear d11 a11 CC
    go_wp2_with fail
    go_at_call 30
    refine (unhide LC).mono ?_
    rintro e Z2 ⟨hl, rfl, sl, z2⟩
    unfold snRow
    dsimp only [Option.getD_some, Option.isSome_some] at sl ⊢
    rw [if_pos rfl]
    have A12 := hide (show Below Z2.heap.size Z2 (Z2.alloc (.cells #[.int .i64 A.i, .int .i64 A.t, .slice hl.va A.v.length hl.vc, .slice hl.la A.l.length hl.lc, .slice hl.dp A.d.length hl.dc] 29)) from (Below.refl _ _).alloc (Nat.le_refl _) _)
    have X12 := hide (heap_new Z2 (.cells #[.int .i64 A.i, .int .i64 A.t, .slice hl.va A.v.length hl.vc, .slice hl.la A.l.length hl.lc, .slice hl.dp A.d.length hl.dc] 29))
    have XW12 := hide (later_block (unhide A12) (later_block z2 (unhide XW11)))
    have D12 := hide (((unhide D11).later z2).later (unhide A12))
    have W12 := hide ((unhide W11).trans ((z2.trans ((unhide A12).mono z2.size)).mono (unhide D11).le))
    have SM := hide (sameS_yes A hl qa _ (sl.later (unhide A12)) ((unhide HA).later (unhide UW _ (unhide W12))))
    unfold snRow at SM
    have x0 := box_cell (unhide X12) 0 _ rfl
    have x1 := box_cell (unhide X12) 1 _ rfl
    have x2 := box_cell (unhide X12) 2 _ rfl
    have x3 := box_cell (unhide X12) 3 _ rfl
    have x4 := box_cell (unhide X12) 4 _ rfl
    have y0 := box_cell (unhide XW12) 0 _ rfl
    have y1 := box_cell (unhide XW12) 1 _ rfl
    have y2 := box_cell (unhide XW12) 2 _ rfl
    have y3 := box_cell (unhide XW12) 3 _ rfl
    have y4 := box_cell (unhide XW12) 4 _ rfl
    clear z2 sl A12 LC
    go_wp2_with fail
    clear x0 x1 x2 x3 x4 y0 y1 y2 y3 y4
    generalize Z2.alloc _ = Z3 at *
    generalize Z2.heap.size = E12 at *
    go_at_call 18
    refine (unhide SM).mono ?_
    rintro e Z4 ⟨rfl, z4⟩
    have D13 := hide ((unhide D12).later z4)
    have W13 := hide ((unhide W12).trans (z4.mono (unhide D12).le))
    have SC := hide (save_calls (unhide D13) (by omega) (unhide TT _ (unhide W13)) B qb ((unhide HB).later (unhide UW _ (unhide W13))))
    unfold snRow at SC
    rw [unhide SV] at SC
    have bx := hide (unhide BX _ (unhide W13)).2.1
    have b0 := box_cell (unhide bx) 0 _ rfl
    have b1 := box_cell (unhide bx) 1 _ rfl
    have b2 := box_cell (unhide bx) 2 _ rfl
    have b3 := box_cell (unhide bx) 3 _ rfl
    have b4 := box_cell (unhide bx) 4 _ rfl
    clear z4 SM X12 XW12
    go_wp2_with fail
    clear b0 b1 b2 b3 b4
    clear bx
    go_at_call 24
    refine (unhide SC).mono ?_
    rintro e Z5 ⟨rfl, d14, a14⟩
    dsimp only at d14 ⊢
    rw [show ((0 : Nat) : Int) = 0 from rfl]
    have D14 := hide d14
    have W14 := hide ((unhide W13).trans a14.bel)
    have LC := hide (load_calls d14 ((unhide TZ).later (unhide UW _ (unhide W14))))
    rw [(Wh.one (unhide HB0)).load (unhide HB0)] at LC
    clear d14 a14 SC
    go_wp2_with fail
    go_at_call 30
    refine (unhide LC).mono ?_
    rintro e Z6 ⟨hm, rfl, sm, z6⟩
    unfold snRow
    dsimp only [Option.getD_some, Option.isSome_some] at sm ⊢
    rw [if_pos rfl]
    have A15 := hide (show Below Z6.heap.size Z6 (Z6.alloc (.cells #[.int .i64 B.i, .int .i64 B.t, .slice hm.va B.v.length hm.vc, .slice hm.la B.l.length hm.lc, .slice hm.dp B.d.length hm.dc] 29)) from (Below.refl _ _).alloc (Nat.le_refl _) _)
    have X15 := hide (heap_new Z6 (.cells #[.int .i64 B.i, .int .i64 B.t, .slice hm.va B.v.length hm.vc, .slice hm.la B.l.length hm.lc, .slice hm.dp B.d.length hm.dc] 29))
    have D15 := hide (((unhide D14).later z6).later (unhide A15))
    have W15 := hide ((unhide W14).trans ((z6.trans ((unhide A15).mono z6.size)).mono (unhide D14).le))
    have S15 := hide (sm.later (unhide A15))
    clear z6 sm A15 LC
    go_wp2_with fail
    generalize Z6.alloc _ = Z7 at *
    generalize Z6.heap.size = E15 at *
    go_at_call 17
    refine (live7_calls _ ((unhide TZ).later (unhide UW _ (unhide W15)))).mono ?_
    rintro e Z8 ⟨rfl, z8⟩
    have D16 := hide ((unhide D15).later z8)
    have W16 := hide ((unhide W15).trans (z8.mono (unhide D15).le))
    have X16 := hide (later_block z8 (unhide X15))
    have SM := hide (sameS_yes B hm qb _ ((unhide S15).later z8) ((unhide HB).later (unhide UW _ (unhide W16))))
    unfold snRow at SM
    have bx := hide (unhide BX _ (unhide W16)).2.1
    have b0 := box_cell (unhide bx) 0 _ rfl
    have b1 := box_cell (unhide bx) 1 _ rfl
    have b2 := box_cell (unhide bx) 2 _ rfl
    have b3 := box_cell (unhide bx) 3 _ rfl
    have b4 := box_cell (unhide bx) 4 _ rfl
    have x0 := box_cell (unhide X16) 0 _ rfl
    have x1 := box_cell (unhide X16) 1 _ rfl
    have x2 := box_cell (unhide X16) 2 _ rfl
    have x3 := box_cell (unhide X16) 3 _ rfl
    have x4 := box_cell (unhide X16) 4 _ rfl
    clear z8 S15 X15
    go_wp2_with fail
    clear b0 b1 b2 b3 b4 x0 x1 x2 x3 x4
    clear bx
    go_at_call 18
    refine (unhide SM).mono ?_
    rintro e Z9 ⟨rfl, z9⟩
    have D17 := hide ((unhide D16).later z9)
    have W17 := hide ((unhide W16).trans (z9.mono (unhide D16).le))
    have NM := hide (anames_calls (unhide D17))
    clear z9 SM
    go_wp2_with fail
    go_at_call 33
    refine (unhide NM).mono ?_
    rintro e Z10 ⟨kp, kn, kc, rfl, hkn, _, z10⟩
    obtain rfl : kn = 1 := by rw [← hkn]; rfl
    have FF := hide (unhide UW _ ((unhide W17).trans (z10.mono (unhide D17).le)))
    clear z10 hkn NM
    go_wp2
    go_ret
    exact ⟨rfl, by first | exact unhide FF | (rw [← hK]; exact unhide FF)⟩
  obtain rfl : N = 3 := by omega
  rw [show ((3 : Nat) : Int) = 3 from rfl] at hN
  have WC := hide (awrite_calls (unhide D3) (by omega) (⟨#[115, 110, 97, 112, 46, 116, 109, 112]⟩ : ByteArray) (show (8 : Nat) ≤ maxLen by simp [maxLen]) 0 (by omega) (some ⟨g, 0, none⟩) nx nx (snB B) (unhide HGN) (Nat.le_refl _) (unhide BX3) (fun h => by cases h) (fun b off e _ => by cases e; exact .inr (unhide GAV)) (by omega))
  rw [show (⟨#[115, 110, 97, 112, 46, 116, 109, 112]⟩ : ByteArray).data.toList = spareS from rfl, tmp_write (unhide HA0) (unhide HB0) (by have h1 := unhide LAS; have h2 := unhide LBS; omega)] at WC
  go_wp2_with fail
  clear c0
  go_at_call 28
  refine (unhide WC).mono ?_
  rintro e V4 ⟨rfl, d4, a4⟩
  dsimp only at d4 ⊢
  rw [show ((0 : Nat) : Int) = 0 from rfl]
  have D4 := hide d4
  have W4 := hide ((unhide W3').trans a4.bel)
  clear d4 a4 WC
  have YC := hide (async_calls (unhide D4) (⟨#[115, 110, 97, 112, 46, 116, 109, 112]⟩ : ByteArray) (show (8 : Nat) ≤ maxLen by simp [maxLen]))
  rw [show (⟨#[115, 110, 97, 112, 46, 116, 109, 112]⟩ : ByteArray).data.toList = spareS from rfl, tmp_sync (unhide HA0)] at YC
  go_wp2_with fail
  go_at_call 38
  refine (unhide YC).mono ?_
  rintro e V5 ⟨rfl, d5, a5⟩
  dsimp only at d5 ⊢
  rw [show ((0 : Nat) : Int) = 0 from rfl]
  have D5 := hide d5
  have W5 := hide ((unhide W4).trans a5.bel)
  clear d5 a5 YC
  have ax := hide (unhide BX V5 (unhide W5)).1
  have a0 := box_cell (unhide ax) 0 _ rfl
  have a1 := box_cell (unhide ax) 1 _ rfl
  have a2 := box_cell (unhide ax) 2 _ rfl
  have a3 := box_cell (unhide ax) 3 _ rfl
  have a4 := box_cell (unhide ax) 4 _ rfl
  have A6 := hide (show Below V5.heap.size V5 (V5.alloc (.cells #[.int .i64 A.i, .int .i64 A.t, .slice qa.va A.v.length qa.vc, .slice qa.la A.l.length qa.lc, .slice qa.dp A.d.length qa.dc] 29)) from (Below.refl _ _).alloc (Nat.le_refl _) _)
  have XW := hide (heap_new V5 (.cells #[.int .i64 A.i, .int .i64 A.t, .slice qa.va A.v.length qa.vc, .slice qa.la A.l.length qa.lc, .slice qa.dp A.d.length qa.dc] 29))
  obtain ⟨Bv, d6, hab, hbv⟩ := (unhide D5).moreE (unhide A6)
  have EV := hide (show Bv V5.heap.size from hbv _ (Nat.le_refl _) (by simp))
  have EWL := hide (show BS ≤ V5.heap.size from (unhide D5).le)
  have D6 := hide d6
  have W6 := hide ((unhide W5).trans ((unhide A6).mono (unhide D5).le))
  clear d6 hab hbv A6
  go_wp2_with fail
  clear a0 a1 a2 a3 a4
  generalize V5.alloc _ = W6w at *
  generalize V5.heap.size = EW at *
  have NC := hide (anew_calls W6w 65536)
  rw [show ((65536 : Int).toNat) = 65536 from rfl] at NC
  go_at_call 22
  refine (unhide NC).mono ?_
  rintro e Y1 ⟨f, Mf, rfl, f1, y1⟩
  have UY := hide (show ∀ Y, Below W6w.heap.size W6w Y → Below BS W3 Y from fun Y u => (unhide W6).trans (u.mono (unhide D6).le))
  have SF := hide (save_calls f1 (by omega) ⟨W6w, rfl, (unhide TZ).later (unhide UW _ (unhide W6)), y1⟩ B qb ((unhide HB).later (unhide UW _ (unhide UY _ y1))))
  unfold snRow at SF
  rw [save_first (unhide HB0) (by have := unhide LBS; omega)] at SF
  have bx := hide (unhide BX Y1 (unhide UY _ y1)).2.1
  have b0 := box_cell (unhide bx) 0 _ rfl
  have b1 := box_cell (unhide bx) 1 _ rfl
  have b2 := box_cell (unhide bx) 2 _ rfl
  have b3 := box_cell (unhide bx) 3 _ rfl
  have b4 := box_cell (unhide bx) 4 _ rfl
  have Y1B := hide y1
  clear f1 y1 NC
  go_wp2_with fail
  clear b0 b1 b2 b3 b4
  clear bx
  go_at_call 24
  refine (unhide SF).mono ?_
  rintro e Y2 ⟨rfl, f2, af2⟩
  dsimp only at f2 ⊢
  rw [show ((0 : Nat) : Int) = 0 from rfl]
  have F2 := hide f2
  have Y2B := hide ((unhide Y1B).trans af2.bel)
  have NM := hide (anames_calls f2)
  clear f2 af2 SF Y1B
  go_wp2_with fail
  go_at_call 33
  refine (unhide NM).mono ?_
  rintro e Y3 ⟨np, nn, nc, rfl, hnn, hno, y3⟩
  obtain rfl : nn = 1 := by rw [← hnn]; rfl
  have F3 := hide ((unhide F2).later y3)
  have Y3B := hide ((unhide Y2B).trans (y3.mono (unhide F2).le))
  have NM2 := hide (anames_calls (unhide F3))
  clear y3 hno hnn NM F2 Y2B
  go_wp2_with fail
  go_at_call 33
  refine (unhide NM2).mono ?_
  rintro e Y4 ⟨mp, mn, mc, rfl, hmn, hmo, y4⟩
  obtain rfl : mn = 1 := by rw [← hmn]; rfl
  rw [show [snF B].map (·.1) = [snNm B.i.toNat] from rfl] at hmo
  obtain ⟨gm, rfl, cm⟩ := one_name hmo
  have Y4B := hide ((unhide Y3B).trans (y4.mono (unhide F3).le))
  have D8 := hide ((unhide D6).later (unhide Y4B))
  have W8 := hide (unhide UY _ (unhide Y4B))
  have iB := (snE_may (unhide HB0)).1
  have RC := hide (arename_calls (unhide D8) (⟨#[115, 110, 97, 112, 46, 116, 109, 112]⟩ : ByteArray) (str (snNm B.i.toNat)) (show (8 : Nat) ≤ maxLen by simp [maxLen]) (snm_size _ (by omega)))
  rw [show (⟨#[115, 110, 97, 112, 46, 116, 109, 112]⟩ : ByteArray).data.toList = spareS from rfl, show (str (snNm B.i.toNat)).data.toList = snNm B.i.toNat from str_list _, tmp_rename (unhide HA0) (unhide HB0)] at RC
  have XW8 := hide (later_block (unhide Y4B) (unhide XW))
  generalize str (snNm B.i.toNat) = sB at *
  clear y4 hmo hmn NM2 F3 Y3B XW
  go_wp2_with fail
  clear cm
  go_at_call 39
  refine (unhide RC).mono ?_
  rintro e Y5 ⟨rfl, d9, a9⟩
  dsimp only at d9 ⊢
  rw [show ((0 : Nat) : Int) = 0 from rfl]
  have W9 := hide ((unhide W8).trans a9.bel)
  have XW9 := hide (asdBlock a9 (unhide XW8) (unhide EV))
  have D9 := hide d9
  clear d9 a9 RC XW8 iB
  obtain ⟨Wb, hrb, gWb, hWb⟩ := five_sets (unhide XW9) (.int .i64 B.i) (.int .i64 B.t) (.slice qb.va B.v.length qb.vc) (.slice qb.la B.l.length qb.lc) (.slice qb.dp B.d.length qb.dc)
  have HWb := hide hWb
  have XWb := hide hrb
  have bx := hide (unhide BX Y5 (unhide W9)).2.1
  have b0 := box_cell (unhide bx) 0 _ rfl
  have b1 := box_cell (unhide bx) 1 _ rfl
  have b2 := box_cell (unhide bx) 2 _ rfl
  have b3 := box_cell (unhide bx) 3 _ rfl
  have b4 := box_cell (unhide bx) 4 _ rfl
  have z0 := box_cell (unhide XW9) 0 _ rfl
  have z1 := box_cell (unhide XW9) 1 _ rfl
  have z2 := box_cell (unhide XW9) 2 _ rfl
  have z3 := box_cell (unhide XW9) 3 _ rfl
  have z4 := box_cell (unhide XW9) 4 _ rfl
  have f0 := mbox_free (unhide XW9) 0
  have f1 := mbox_free (unhide XW9) 1
  have f2 := mbox_free (unhide XW9) 2
  have f3 := mbox_free (unhide XW9) 3
  have f4 := mbox_free (unhide XW9) 4
  have D10 := hide ((unhide D9).aside (w' := Wb) (fun g hg hn => gWb.block g hg (fun e => hn (by cases e; exact unhide EV))) gWb.size)
  have W10 := hide (below_grown (unhide W9) gWb (unhide EWL) (unhide D9).le)
  have cz := hide (unhide BX Y5 (unhide W9)).2.2
  have c1 := box_cell (unhide cz) 1 _ rfl
  have rd1 : ¬ K + 2 = EW := by have h1 := unhide KB; have h2 := unhide EWL; omega
  have rd2 : ¬ EW = K + 2 := fun e => rd1 e.symm
  have hzb : Wb.heap.size = Y5.heap.size := by rw [← hWb]; simp
  have A7 := hide (show Below Wb.heap.size Wb (Wb.alloc (.cells #[.int .i64 u, .int .i64 u, .int .i64 u] 3)) from (Below.refl _ _).alloc (Nat.le_refl _) _)
  have LI := lit_ints Wb [u, u, u] (by intro n hn; simp at hn; omega)
  rw [hzb] at LI
  have LIT := hide LI
  have XW7 := hide (later_block (unhide A7) (unhide XWb))
  obtain ⟨Cv, d7, hbc, hcv⟩ := (unhide D10).moreE (unhide A7)
  have EC := hide (hbc _ (unhide EV))
  have EI := hide (show Cv Y5.heap.size from hcv _ (by rw [hzb]; exact Nat.le_refl _) (by simp [hzb]))
  have D7 := hide d7
  have W7 := hide ((unhide W10).trans ((unhide A7).mono (unhide D10).le))
  have CC := hide (acrash_calls (unhide D7) (some ⟨Y5.heap.size, 0, none⟩) 3 3 [u, u, u] rfl (unhide LIT) (fun b off e _ => by cases e; exact .inr (unhide EI)))
  clear d7 hbc hcv A7 D10 LIT LI hrb gWb hWb hzb
  go_wp2_with fail
  rw [unhide HWb]
  clear b0 b1 b2 b3 b4
  clear z0 z1 z2 z3 z4
  clear f0 f1 f2 f3 f4
  clear c1 rd1 rd2 HWb
  generalize Wb.alloc _ = W7w at *
  generalize Y5.heap.size = EI7 at *
  go_at_call 26
  refine (unhide CC).mono ?_
  rintro e Z1 ⟨rfl, d11, a11⟩
  have RW := hide (two_there (a := A) (b := B))
  rw [(unhide RW).crash] at d11
  have LO := hide ((unhide RW).load (unhide HA0) (unhide HB0) (unhide LT))
  have SV := hide ((unhide RW).save (room := 65536) (unhide HA0) (unhide HB0) (unhide LT) two_len (by have h1 := unhide LAS; have h2 := unhide LBS; have h3 := two_used (a := A) (b := B); omega))
  generalize (putF (snNm B.i.toNat) ⟨true, snB B, []⟩ [snF A]) = ssc at *
  have D11 := hide d11
  have W11 := hide ((unhide W7).trans a11.bel)
  have XW11 := hide (asdBlock a11 (unhide XW7) (unhide EC))
  have LC := hide (load_calls d11 ((unhide TZ).later (unhide UW _ (unhide W11))))
  rw [unhide LO] at LC
  clear d11 a11 CC
  go_wp2_with fail
  go_at_call 30
  refine (unhide LC).mono ?_
  rintro e Z2 ⟨hl, rfl, sl, z2⟩
  unfold snRow
  dsimp only [Option.getD_some, Option.isSome_some] at sl ⊢
  rw [if_pos rfl]
  have A12 := hide (show Below Z2.heap.size Z2 (Z2.alloc (.cells #[.int .i64 B.i, .int .i64 B.t, .slice hl.va B.v.length hl.vc, .slice hl.la B.l.length hl.lc, .slice hl.dp B.d.length hl.dc] 29)) from (Below.refl _ _).alloc (Nat.le_refl _) _)
  have X12 := hide (heap_new Z2 (.cells #[.int .i64 B.i, .int .i64 B.t, .slice hl.va B.v.length hl.vc, .slice hl.la B.l.length hl.lc, .slice hl.dp B.d.length hl.dc] 29))
  have XW12 := hide (later_block (unhide A12) (later_block z2 (unhide XW11)))
  have D12 := hide (((unhide D11).later z2).later (unhide A12))
  have W12 := hide ((unhide W11).trans ((z2.trans ((unhide A12).mono z2.size)).mono (unhide D11).le))
  have SM := hide (sameS_yes B hl qb _ (sl.later (unhide A12)) ((unhide HB).later (unhide UW _ (unhide W12))))
  unfold snRow at SM
  have x0 := box_cell (unhide X12) 0 _ rfl
  have x1 := box_cell (unhide X12) 1 _ rfl
  have x2 := box_cell (unhide X12) 2 _ rfl
  have x3 := box_cell (unhide X12) 3 _ rfl
  have x4 := box_cell (unhide X12) 4 _ rfl
  have y0 := box_cell (unhide XW12) 0 _ rfl
  have y1 := box_cell (unhide XW12) 1 _ rfl
  have y2 := box_cell (unhide XW12) 2 _ rfl
  have y3 := box_cell (unhide XW12) 3 _ rfl
  have y4 := box_cell (unhide XW12) 4 _ rfl
  clear z2 sl A12 LC
  go_wp2_with fail
  clear x0 x1 x2 x3 x4 y0 y1 y2 y3 y4
  generalize Z2.alloc _ = Z3 at *
  generalize Z2.heap.size = E12 at *
  go_at_call 18
  refine (unhide SM).mono ?_
  rintro e Z4 ⟨rfl, z4⟩
  have D13 := hide ((unhide D12).later z4)
  have W13 := hide ((unhide W12).trans (z4.mono (unhide D12).le))
  have SC := hide (save_calls (unhide D13) (by omega) (unhide TT _ (unhide W13)) B qb ((unhide HB).later (unhide UW _ (unhide W13))))
  unfold snRow at SC
  rw [unhide SV] at SC
  have bx := hide (unhide BX _ (unhide W13)).2.1
  have b0 := box_cell (unhide bx) 0 _ rfl
  have b1 := box_cell (unhide bx) 1 _ rfl
  have b2 := box_cell (unhide bx) 2 _ rfl
  have b3 := box_cell (unhide bx) 3 _ rfl
  have b4 := box_cell (unhide bx) 4 _ rfl
  clear z4 SM X12 XW12
  go_wp2_with fail
  clear b0 b1 b2 b3 b4
  clear bx
  go_at_call 24
  refine (unhide SC).mono ?_
  rintro e Z5 ⟨rfl, d14, a14⟩
  dsimp only at d14 ⊢
  rw [show ((0 : Nat) : Int) = 0 from rfl]
  have D14 := hide d14
  have W14 := hide ((unhide W13).trans a14.bel)
  have LC := hide (load_calls d14 ((unhide TZ).later (unhide UW _ (unhide W14))))
  rw [(Wh.one (unhide HB0)).load (unhide HB0)] at LC
  clear d14 a14 SC
  go_wp2_with fail
  go_at_call 30
  refine (unhide LC).mono ?_
  rintro e Z6 ⟨hm, rfl, sm, z6⟩
  unfold snRow
  dsimp only [Option.getD_some, Option.isSome_some] at sm ⊢
  rw [if_pos rfl]
  have A15 := hide (show Below Z6.heap.size Z6 (Z6.alloc (.cells #[.int .i64 B.i, .int .i64 B.t, .slice hm.va B.v.length hm.vc, .slice hm.la B.l.length hm.lc, .slice hm.dp B.d.length hm.dc] 29)) from (Below.refl _ _).alloc (Nat.le_refl _) _)
  have X15 := hide (heap_new Z6 (.cells #[.int .i64 B.i, .int .i64 B.t, .slice hm.va B.v.length hm.vc, .slice hm.la B.l.length hm.lc, .slice hm.dp B.d.length hm.dc] 29))
  have D15 := hide (((unhide D14).later z6).later (unhide A15))
  have W15 := hide ((unhide W14).trans ((z6.trans ((unhide A15).mono z6.size)).mono (unhide D14).le))
  have S15 := hide (sm.later (unhide A15))
  clear z6 sm A15 LC
  go_wp2_with fail
  generalize Z6.alloc _ = Z7 at *
  generalize Z6.heap.size = E15 at *
  go_at_call 17
  refine (live7_calls _ ((unhide TZ).later (unhide UW _ (unhide W15)))).mono ?_
  rintro e Z8 ⟨rfl, z8⟩
  have D16 := hide ((unhide D15).later z8)
  have W16 := hide ((unhide W15).trans (z8.mono (unhide D15).le))
  have X16 := hide (later_block z8 (unhide X15))
  have SM := hide (sameS_yes B hm qb _ ((unhide S15).later z8) ((unhide HB).later (unhide UW _ (unhide W16))))
  unfold snRow at SM
  have bx := hide (unhide BX _ (unhide W16)).2.1
  have b0 := box_cell (unhide bx) 0 _ rfl
  have b1 := box_cell (unhide bx) 1 _ rfl
  have b2 := box_cell (unhide bx) 2 _ rfl
  have b3 := box_cell (unhide bx) 3 _ rfl
  have b4 := box_cell (unhide bx) 4 _ rfl
  have x0 := box_cell (unhide X16) 0 _ rfl
  have x1 := box_cell (unhide X16) 1 _ rfl
  have x2 := box_cell (unhide X16) 2 _ rfl
  have x3 := box_cell (unhide X16) 3 _ rfl
  have x4 := box_cell (unhide X16) 4 _ rfl
  clear z8 S15 X15
  go_wp2_with fail
  clear b0 b1 b2 b3 b4 x0 x1 x2 x3 x4
  clear bx
  go_at_call 18
  refine (unhide SM).mono ?_
  rintro e Z9 ⟨rfl, z9⟩
  have D17 := hide ((unhide D16).later z9)
  have W17 := hide ((unhide W16).trans (z9.mono (unhide D16).le))
  have NM := hide (anames_calls (unhide D17))
  clear z9 SM
  go_wp2_with fail
  go_at_call 33
  refine (unhide NM).mono ?_
  rintro e Z10 ⟨kp, kn, kc, rfl, hkn, _, z10⟩
  obtain rfl : kn = 1 := by rw [← hkn]; rfl
  have FF := hide (unhide UW _ ((unhide W17).trans (z10.mono (unhide D17).le)))
  clear z10 hkn NM
  go_wp2
  go_ret
  exact ⟨rfl, by first | exact unhide FF | (rw [← hK]; exact unhide FF)⟩
end Go.Proofs.YtagncghpfdjkmaaGreatDoor.snapWhole
