/- A snapshot that came in, opened. -/
import Derived.Test.YtconglhapjcofaaGreatDoorB16
import Derived.Test.YtconglhapjcofaaGreatDoorB07
import Derived.Lib.SmallJoins
import Derived.Test.YtconglhapjcofaaGreatDoorB11
import Derived.Test.YtconglhapjcofaaGreatDoorB25
section
namespace Go.Proofs.YtconglhapjcofaaGreatDoor
open Go.ChangeShapes Go.WideShapes Go.ChangeAt Go.RowKit
set_option linter.unusedVariables false

theorem list2s {α : Type} {l : List α} (h : l.length = 2) : ∃ c0 c1, l = [c0, c1] := by
  match l, h with
  | [c0, c1], _ => exact ⟨c0, c1, rfl⟩
theorem list3s {α : Type} {l : List α} (h : l.length = 3) : ∃ c0 c1 c2, l = [c0, c1, c2] := by
  match l, h with
  | [c0, c1, c2], _ => exact ⟨c0, c1, c2, rfl⟩
theorem list5s {α : Type} {l : Array α} (h : l.size = 5) : ∃ c0 c1 c2 c3 c4, l = #[c0, c1, c2, c3, c4] := by
  match l, h with
  | ⟨[c0, c1, c2, c3, c4]⟩, _ => exact ⟨c0, c1, c2, c3, c4, rfl⟩
set_option maxRecDepth 20000 in
theorem snap_open {H : Type} {enc : TypeId × Value → H} {W : World} {n : Nat} {v0 v1 v2 v3 v4 : Value} {y : DataW H × List MemPlace}
    (h2 : DataW.trod enc Tryz.prog W 0 (fun _ => true) true n 29 [v0, v1, v2, v3, v4] = some y) :
    ∃ (s : Sn) (h : SnH), v0 = .int .i64 s.i ∧ v1 = .int .i64 s.t ∧ v2 = .slice h.va s.v.length h.vc ∧ v3 = .slice h.la s.l.length h.lc ∧ v4 = .slice h.dp s.d.length h.dc ∧ SnAt W s h := by
  obtain ⟨xs, n', _, _, _, hx, hfs⟩ := DataW.trod_struct Tryz.underlying29 h2
  obtain ⟨y0, y1, y2, rfl⟩ := list3s (show xs.length = 3 from hx)
  have tm : DataW.trod enc Tryz.prog W 0 (fun _ => true) true n' 23 [v0, v1] = some y0 := hfs 0 _ rfl
  have tb : DataW.trod enc Tryz.prog W 0 (fun _ => true) true n' 26 [v2, v3] = some y1 := hfs 1 _ rfl
  have t4 : DataW.trod enc Tryz.prog W 0 (fun _ => true) true n' 27 [v4] = some y2 := hfs 2 _ rfl
  obtain ⟨xs, n1, _, _, _, hx, hfm⟩ := DataW.trod_struct Tryz.underlying23 tm
  obtain ⟨z0, z1, rfl⟩ := list2s (show xs.length = 2 from hx)
  obtain ⟨k, e0, _, w0⟩ := DataW.trod_int Tryz.underlying3 (show DataW.trod enc Tryz.prog W 0 (fun _ => true) true n1 3 [v0] = some z0 from hfm 0 _ rfl)
  obtain ⟨j, e1, _, w1⟩ := DataW.trod_int Tryz.underlying3 (show DataW.trod enc Tryz.prog W 0 (fun _ => true) true n1 3 [v1] = some z1 from hfm 1 _ rfl)
  obtain ⟨xs, n2, _, _, _, hx, hfb⟩ := DataW.trod_struct Tryz.underlying26 tb
  obtain ⟨b0, b1, rfl⟩ := list2s (show xs.length = 2 from hx)
  have t2 : DataW.trod enc Tryz.prog W 0 (fun _ => true) true n2 24 [v2] = some b0 := hfb 0 _ rfl
  have t3 : DataW.trod enc Tryz.prog W 0 (fun _ => true) true n2 24 [v3] = some b1 := hfb 1 _ rfl
  obtain ⟨va, vl, vc, e2⟩ := Joins.slice_form Tryz.underlying24 t2
  obtain ⟨la, ll, lc, e3⟩ := Joins.slice_form Tryz.underlying24 t3
  obtain ⟨dp, dl, dc, e4⟩ := Joins.slice_form Tryz.underlying27 t4
  simp only [List.cons.injEq, and_true] at e0 e1 e2 e3 e4
  subst e0 e1 e2 e3 e4
  obtain ⟨vs, rfl, hv1, hv2⟩ := row64 (show DataW.Trod enc Tryz.prog W 0 (fun _ => true) true 24 (.slice va vl vc) b0.1 b0.2 from ⟨n2, t2⟩)
  obtain ⟨ls, rfl, hl1, hl2⟩ := row64 (show DataW.Trod enc Tryz.prog W 0 (fun _ => true) true 24 (.slice la ll lc) b1.1 b1.2 from ⟨n2, t3⟩)
  obtain ⟨ds, rfl, hc4, hx4, hb, hz, _⟩ := row8 (show DataW.Trod enc Tryz.prog W 0 (fun _ => true) true 27 (.slice dp dl dc) y2.1 y2.2 from ⟨n', t4⟩)
  exact ⟨⟨k, j, vs, ls, ds⟩, ⟨va, vc, la, lc, dp, dc⟩, rfl, rfl, rfl, rfl, rfl, i64_bounds w0, i64_bounds w1, hv2, hl2, hb, hv1, hl1, hc4, hx4, hz⟩
set_option maxRecDepth 20000 in
theorem open_snap {H : Type} {enc : TypeId × Value → H} {W : World} {r : Reach} {b0 : Nat} {v : Value} {d : DataW H} {p : List MemPlace} (hv : Value.okWide Tryz.prog W r b0 29 v)
    (h : DataW.Trod enc Tryz.prog W 0 (fun _ => true) true 29 v d p) : ∃ (e : Sn) (q : SnH), v = .agg (snRow e q) ∧ SnAt W e q := by
  obtain ⟨cs, rfl, hsz⟩ := okWide_struct Tryz.underlying29 hv
  have c5 : Tryz.prog.cellsOf 29 = 5 := by kernel_rfl
  obtain ⟨v0, v1, v2, v3, v4, rfl⟩ := list5s (hsz.trans c5)
  obtain ⟨fuel, hf⟩ := h
  obtain ⟨e, q, rfl, rfl, rfl, rfl, rfl, hd⟩ := snap_open (show DataW.trod enc Tryz.prog W 0 (fun _ => true) true fuel 29 [v0, v1, v2, v3, v4] = some (d, p) from hf)
  exact ⟨e, q, rfl, hd⟩
end Go.Proofs.YtconglhapjcofaaGreatDoor
end
/- Snapshots that are the same. -/
section
namespace Go.Proofs.YtconglhapjcofaaGreatDoor
open Go.ChangeShapes Go.WideShapes Go.ChangeAt Go.RowKit
set_option linter.unusedVariables false

set_option maxRecDepth 20000 in
set_option maxHeartbeats 8000000 in
theorem sameS_yes (s : Sn) (h h' : SnH) (w : World) (z : SnAt w s h) (z' : SnAt w s h') : Calls Tryz.prog 19 #[.agg (snRow s h), .agg (snRow s h')] w fun e w' => e = .returned (.bool true) ∧ Below w.heap.size w w' := by
  unfold snRow
  have A1 : Below w.heap.size w (w.alloc (.cells #[.int .i64 s.i, .int .i64 s.t, .slice h.va s.v.length h.vc, .slice h.la s.l.length h.lc, .slice h.dp s.d.length h.dc] 29)) := (Below.refl _ _).alloc (Nat.le_refl _) _
  have A2 : Below (w.alloc (.cells #[.int .i64 s.i, .int .i64 s.t, .slice h.va s.v.length h.vc, .slice h.la s.l.length h.lc, .slice h.dp s.d.length h.dc] 29)).heap.size (w.alloc (.cells #[.int .i64 s.i, .int .i64 s.t, .slice h.va s.v.length h.vc, .slice h.la s.l.length h.lc, .slice h.dp s.d.length h.dc] 29)) ((w.alloc (.cells #[.int .i64 s.i, .int .i64 s.t, .slice h.va s.v.length h.vc, .slice h.la s.l.length h.lc, .slice h.dp s.d.length h.dc] 29)).alloc (.cells #[.int .i64 s.i, .int .i64 s.t, .slice h'.va s.v.length h'.vc, .slice h'.la s.l.length h'.lc, .slice h'.dp s.d.length h'.dc] 29)) := (Below.refl _ _).alloc (Nat.le_refl _) _
  have hs1 : (w.alloc (.cells #[.int .i64 s.i, .int .i64 s.t, .slice h.va s.v.length h.vc, .slice h.la s.l.length h.lc, .slice h.dp s.d.length h.dc] 29)).heap.size = w.heap.size + 1 := by simp
  have X1 := hide (later_block A2 (heap_new w (.cells #[.int .i64 s.i, .int .i64 s.t, .slice h.va s.v.length h.vc, .slice h.la s.l.length h.lc, .slice h.dp s.d.length h.dc] 29)))
  have X2 := hide (heap_new (w.alloc (.cells #[.int .i64 s.i, .int .i64 s.t, .slice h.va s.v.length h.vc, .slice h.la s.l.length h.lc, .slice h.dp s.d.length h.dc] 29)) (.cells #[.int .i64 s.i, .int .i64 s.t, .slice h'.va s.v.length h'.vc, .slice h'.la s.l.length h'.lc, .slice h'.dp s.d.length h'.dc] 29))
  rw [hs1] at X2
  have B2 := hide (A1.trans (A2.mono A1.size))
  have Z := hide (z.later (unhide B2))
  have Z' := hide (z'.later (unhide B2))
  clear A1 A2 hs1 z z'
  have x0 := box_cell (unhide X1) 0 _ rfl
  have x1 := box_cell (unhide X1) 1 _ rfl
  have x2 := box_cell (unhide X1) 2 _ rfl
  have x3 := box_cell (unhide X1) 3 _ rfl
  have y0 := box_cell (unhide X2) 0 _ rfl
  have y1 := box_cell (unhide X2) 1 _ rfl
  have y2 := box_cell (unhide X2) 2 _ rfl
  have y3 := box_cell (unhide X2) 3 _ rfl
  have q0 : (s.i == s.i) = true := by simp
  have q1 : (s.t == s.t) = true := by simp
  have SC := hide (same_calls (vc := h.vc) (lc := h.lc) (vc' := h'.vc) (lc' := h'.lc) (unhide Z).v (unhide Z).l (unhide Z').v (unhide Z').l s.v.length s.l.length s.v.length s.l.length rfl rfl rfl rfl (unhide Z).vn (unhide Z).ln (unhide Z').vn (unhide Z').ln)
  rw [show (decide (s.v = s.v) && decide (s.l = s.l)) = true by simp] at SC
  go_enter Tryz.func19, Tryz.ntmps19
  go_wp2_with fail
  clear x0 x1 x2 x3 y0 y1 y2 y3
  generalize (w.alloc (.cells #[.int .i64 s.i, .int .i64 s.t, .slice h.va s.v.length h.vc, .slice h.la s.l.length h.lc, .slice h.dp s.d.length h.dc] 29)).alloc (.cells #[.int .i64 s.i, .int .i64 s.t, .slice h'.va s.v.length h'.vc, .slice h'.la s.l.length h'.lc, .slice h'.dp s.d.length h'.dc] 29) = W2 at *
  go_at_call 63
  refine (unhide SC).mono ?_
  rintro e V ⟨rfl, v1⟩
  have x4 : V.cell? ⟨w.heap.size, 4, none⟩ = some (.slice h.dp s.d.length h.dc) := box_cell (later_block v1 (unhide X1)) 4 _ rfl
  have y4 : V.cell? ⟨w.heap.size + 1, 4, none⟩ = some (.slice h'.dp s.d.length h'.dc) := box_cell (later_block v1 (unhide X2)) 4 _ rfl
  have k1 := run_string8 s.d.length h.dc rfl ((unhide Z).later v1).d
  have k2 := run_string8 s.d.length h'.dc rfl ((unhide Z').later v1).d
  have q2 : ((strOf s.d).toList == (strOf s.d).toList) = true := by simp
  have FF := hide ((unhide B2).trans (v1.mono (unhide B2).size))
  clear v1 SC Z Z' X1 X2
  generalize strOf s.d = sd at *
  go_wp2
  go_ret
  exact ⟨by first | rfl | simp, unhide FF⟩
end Go.Proofs.YtconglhapjcofaaGreatDoor
end
/- Snapshots: the walk of SnapBack. -/
section
namespace Go.Proofs.YtconglhapjcofaaGreatDoor.snapBack
open Go.ChangeShapes Go.WideShapes Go.ChangeAt Go.RowKit
set_option linter.unusedVariables false

set_option maxRecDepth 20000 in
set_option maxHeartbeats 16000000 in
theorem walk0 (e0 : Sn) (q0 : SnH) (a1 : Option Addr) (c1 : Nat) (l1 : List Nat) (w : World) (hb0 : SnAt w e0 q0) (hc1 : l1.length ≤ c1) (hm1 : c1 ≤ 140737488355328) (hb1 : BytesAt w a1 l1) (hz1 : a1 = none → c1 = 0) (hTz : Tz w) :
    Calls Tryz.prog 6 #[.agg (snRow e0 q0), .slice a1 l1.length c1] w fun e w' => e = .returned (.bool true) ∧ Below w.heap.size w w' := by
  have U1 := hide ((Below.refl w.heap.size w).alloc (Nat.le_refl _) (.cells (snRow e0 q0) 29))
  have X1 := hide (heap_new w (.cells (snRow e0 q0) 29))
  have PC := hide (sput_calls e0 q0 (w.alloc (.cells (snRow e0 q0) 29)) (hb0.later (unhide U1)))
  have TZ := hide hTz
  have Z0 := hide hb0
  have HB1 := hide hb1
  have HX := hide (show l1.length ≤ maxLen by simp only [maxLen]; omega)
  have GC := hide (fun W (u : Below w.heap.size w W) => sget_calls a1 l1.length c1 l1 W rfl hc1 (unhide HX) (hb1.later u))
  generalize hn1 : l1.length = n1 at *
  have N1 := hide hn1
  unfold snRow at U1 X1 PC ⊢
  clear hb0 hb1 hTz hn1 hz1
  have x0 := box_cell (unhide X1) 0 _ rfl
  have x1 := box_cell (unhide X1) 1 _ rfl
  have x2 := box_cell (unhide X1) 2 _ rfl
  have x3 := box_cell (unhide X1) 3 _ rfl
  have x4 := box_cell (unhide X1) 4 _ rfl
  go_enter Tryz.func6, Tryz.ntmps6
  go_wp2_with fail
  clear x0 x1 x2 x3 x4
  generalize w.alloc _ = W1 at *
  generalize hK : w.heap.size = K at *
  go_at_call 16
  refine (unhide PC).mono ?_
  rintro e V1 ⟨v1, hcase⟩
  have U2 := hide ((unhide U1).trans (v1.mono (by rw [← hK]; exact (unhide U1).size)))
  have X2 := hide (later_block v1 (unhide X1))
  clear v1 PC X1 U1
  rcases hcase with ⟨h0, rfl⟩ | ⟨h0, g, n, rfl, hgn, hgo⟩
  · have y1 : ¬ ((snE e0 : Nat) : Int) = 0 := by omega
    have y2 : (((snE e0 : Nat) : Int) == 0) = false := by simp [h0]
    generalize ((snE e0 : Nat) : Int) = ei at *

    have GV := hide (unhide GC V1 (unhide U2))
    go_wp2_with fail
    go_at_call 20
    refine (unhide GV).mono ?_
    rintro e V6 ⟨sh, rfl, hs6, _, v6⟩
    have U6 := hide ((unhide U2).trans (v6.mono (by rw [← hK]; exact (unhide U2).size)))
    cases hr6 : snL l1 with
    | error x =>
      have hx := snL_pos hr6
      dsimp only [snX, snOf]
      unfold snRow
      have y3 : ¬ (x : Int) = 0 := by omega
      have y4 : ((x : Int) == 0) = false := by simp [hx]
      generalize (x : Int) = xi at *
      have U7 := hide ((Below.refl V6.heap.size V6).alloc (Nat.le_refl _) (.cells #[.int .i64 sn0.i, .int .i64 sn0.t, .slice sh.va sn0.v.length sh.vc, .slice sh.la sn0.l.length sh.lc, .slice sh.dp sn0.d.length sh.dc] 29))
      have U8 := hide ((unhide U6).trans ((unhide U7).mono (by rw [← hK]; exact (unhide U6).size)))
      clear v6 hs6 GV GC hr6 hx U7
      go_wp2_with fail
      generalize V6.alloc _ = W7 at *
      go_at_call 18
      refine (live7_calls _ ((unhide TZ).later (by rw [hK]; exact unhide U8))).mono ?_
      rintro e V8 ⟨rfl, v8⟩
      have FF := hide (show Below w.heap.size w V8 by rw [hK]; exact (unhide U8).trans (v8.mono (by rw [← hK]; exact (unhide U8).size)))
      clear v8
      go_wp2
      go_ret
      exact ⟨rfl, by first | exact unhide FF | (rw [← hK]; exact unhide FF)⟩
    | ok t =>
      obtain ⟨may, hbt⟩ := snL_back (unhide HB1).lt hr6
      rw [hr6] at hs6
      dsimp only [snX, snOf] at hs6 ⊢
      have U7 := hide ((Below.refl V6.heap.size V6).alloc (Nat.le_refl _) (.cells #[.int .i64 t.i, .int .i64 t.t, .slice sh.va t.v.length sh.vc, .slice sh.la t.l.length sh.lc, .slice sh.dp t.d.length sh.dc] 29))
      have X7 := hide (heap_new V6 (.cells #[.int .i64 t.i, .int .i64 t.t, .slice sh.va t.v.length sh.vc, .slice sh.la t.l.length sh.lc, .slice sh.dp t.d.length sh.dc] 29))
      have U8 := hide ((unhide U6).trans ((unhide U7).mono (by rw [← hK]; exact (unhide U6).size)))
      have PC := hide (sput_calls t sh (V6.alloc (.cells #[.int .i64 t.i, .int .i64 t.t, .slice sh.va t.v.length sh.vc, .slice sh.la t.l.length sh.lc, .slice sh.dp t.d.length sh.dc] 29)) (hs6.later (unhide U7)))
      have MAY := hide may
      have BT := hide hbt
      unfold snRow at PC ⊢
      rw [show ((0 : Nat) : Int) = 0 from rfl]
      have x0 := box_cell (unhide X7) 0 _ rfl
      have x1 := box_cell (unhide X7) 1 _ rfl
      have x2 := box_cell (unhide X7) 2 _ rfl
      have x3 := box_cell (unhide X7) 3 _ rfl
      have x4 := box_cell (unhide X7) 4 _ rfl
      clear v6 hs6 GV GC hr6 may hbt U7 X7
      go_wp2_with fail
      clear x0 x1 x2 x3 x4
      generalize V6.alloc _ = W7 at *
      generalize V6.heap.size = E7 at *
      go_at_call 16
      refine (unhide PC).mono ?_
      rintro e V8 ⟨v8, hcase⟩
      rcases hcase with ⟨h0, _⟩ | ⟨_, g, n, rfl, hgn, hgo⟩
      · exact absurd (unhide MAY) h0
      rw [unhide BT] at hgn hgo
      have U9 := hide ((unhide U8).trans (v8.mono (by rw [← hK]; exact (unhide U8).size)))
      have OG := hide hgo
      have NG := hide hgn
      clear v8 PC hgn hgo
      go_wp2_with fail
      go_at_call 18
      refine (live7_calls _ ((unhide TZ).later (by rw [hK]; exact unhide U9))).mono ?_
      rintro e V10 ⟨rfl, v10⟩
      have U10 := hide ((unhide U9).trans (v10.mono (by rw [← hK]; exact (unhide U9).size)))
      have k1 := run_string8 n n (unhide NG) ((unhide OG).later v10).bytes
      have k2 := run_string8 n1 c1 (unhide N1) ((unhide HB1).later (show Below w.heap.size w V10 by rw [hK]; exact unhide U10))
      have q2 : ((strOf l1).toList == (strOf l1).toList) = true := by simp
      have FF := hide (show Below w.heap.size w V10 by rw [hK]; exact unhide U10)
      clear v10 OG
      generalize strOf l1 = sl at *
      go_wp2
      go_ret
      exact ⟨by first | rfl | simp, by first | exact unhide FF | (rw [← hK]; exact unhide FF)⟩
  · have SB := hide (show snL (snB e0) = .ok e0 from by unfold snB; rw [if_pos h0]; exact snL_at h0)
    have G2 := hide (sget_calls (some ⟨g, 0, none⟩) n n (snB e0) V1 hgn (Nat.le_refl _) (by rw [← hgn]; exact Nat.le_trans hgo.cap.1 hgo.cap.2) hgo.bytes)
    clear hgn hgo h0
    go_wp2_with fail
    go_at_call 20
    refine (unhide G2).mono ?_
    rintro e V2 ⟨sh2, rfl, hs2, _, v2⟩
    rw [unhide SB] at hs2 ⊢
    dsimp only [snX, snOf] at hs2 ⊢
    have U3 := hide ((Below.refl V2.heap.size V2).alloc (Nat.le_refl _) (.cells #[.int .i64 e0.i, .int .i64 e0.t, .slice sh2.va e0.v.length sh2.vc, .slice sh2.la e0.l.length sh2.lc, .slice sh2.dp e0.d.length sh2.dc] 29))
    have X3 := hide (heap_new V2 (.cells #[.int .i64 e0.i, .int .i64 e0.t, .slice sh2.va e0.v.length sh2.vc, .slice sh2.la e0.l.length sh2.lc, .slice sh2.dp e0.d.length sh2.dc] 29))
    have X4 := hide (later_block (unhide U3) (later_block v2 (unhide X2)))
    have U4 := hide ((unhide U2).trans ((v2.trans ((unhide U3).mono v2.size)).mono (by rw [← hK]; exact (unhide U2).size)))
    have SC := hide (sameS_yes e0 q0 sh2 (V2.alloc (.cells #[.int .i64 e0.i, .int .i64 e0.t, .slice sh2.va e0.v.length sh2.vc, .slice sh2.la e0.l.length sh2.lc, .slice sh2.dp e0.d.length sh2.dc] 29)) ((unhide Z0).later (by rw [hK]; exact unhide U4)) (hs2.later (unhide U3)))
    unfold snRow at SC ⊢
    rw [show ((0 : Nat) : Int) = 0 from rfl]
    have x0 := box_cell (unhide X4) 0 _ rfl
    have x1 := box_cell (unhide X4) 1 _ rfl
    have x2 := box_cell (unhide X4) 2 _ rfl
    have x3 := box_cell (unhide X4) 3 _ rfl
    have x4 := box_cell (unhide X4) 4 _ rfl
    have y0 := box_cell (unhide X3) 0 _ rfl
    have y1 := box_cell (unhide X3) 1 _ rfl
    have y2 := box_cell (unhide X3) 2 _ rfl
    have y3 := box_cell (unhide X3) 3 _ rfl
    have y4 := box_cell (unhide X3) 4 _ rfl
    clear v2 hs2 G2 SB U3 U2
    go_wp2_with fail
    clear x0 x1 x2 x3 x4 y0 y1 y2 y3 y4
    generalize V2.alloc _ = W3 at *
    generalize V2.heap.size = E3 at *
    go_at_call 19
    refine (unhide SC).mono ?_
    rintro e V5 ⟨rfl, v5⟩
    have U5 := hide ((unhide U4).trans (v5.mono (by rw [← hK]; exact (unhide U4).size)))
    clear v5 SC U4 X3 X4

    have GV := hide (unhide GC V5 (unhide U5))
    go_wp2_with fail
    go_at_call 20
    refine (unhide GV).mono ?_
    rintro e V6 ⟨sh, rfl, hs6, _, v6⟩
    have U6 := hide ((unhide U5).trans (v6.mono (by rw [← hK]; exact (unhide U5).size)))
    cases hr6 : snL l1 with
    | error x =>
      have hx := snL_pos hr6
      dsimp only [snX, snOf]
      unfold snRow
      have y3 : ¬ (x : Int) = 0 := by omega
      have y4 : ((x : Int) == 0) = false := by simp [hx]
      generalize (x : Int) = xi at *
      have U7 := hide ((Below.refl V6.heap.size V6).alloc (Nat.le_refl _) (.cells #[.int .i64 sn0.i, .int .i64 sn0.t, .slice sh.va sn0.v.length sh.vc, .slice sh.la sn0.l.length sh.lc, .slice sh.dp sn0.d.length sh.dc] 29))
      have U8 := hide ((unhide U6).trans ((unhide U7).mono (by rw [← hK]; exact (unhide U6).size)))
      clear v6 hs6 GV GC hr6 hx U7
      go_wp2_with fail
      generalize V6.alloc _ = W7 at *
      go_at_call 18
      refine (live7_calls _ ((unhide TZ).later (by rw [hK]; exact unhide U8))).mono ?_
      rintro e V8 ⟨rfl, v8⟩
      have FF := hide (show Below w.heap.size w V8 by rw [hK]; exact (unhide U8).trans (v8.mono (by rw [← hK]; exact (unhide U8).size)))
      clear v8
      go_wp2
      go_ret
      exact ⟨rfl, by first | exact unhide FF | (rw [← hK]; exact unhide FF)⟩
    | ok t =>
      obtain ⟨may, hbt⟩ := snL_back (unhide HB1).lt hr6
      rw [hr6] at hs6
      dsimp only [snX, snOf] at hs6 ⊢
      have U7 := hide ((Below.refl V6.heap.size V6).alloc (Nat.le_refl _) (.cells #[.int .i64 t.i, .int .i64 t.t, .slice sh.va t.v.length sh.vc, .slice sh.la t.l.length sh.lc, .slice sh.dp t.d.length sh.dc] 29))
      have X7 := hide (heap_new V6 (.cells #[.int .i64 t.i, .int .i64 t.t, .slice sh.va t.v.length sh.vc, .slice sh.la t.l.length sh.lc, .slice sh.dp t.d.length sh.dc] 29))
      have U8 := hide ((unhide U6).trans ((unhide U7).mono (by rw [← hK]; exact (unhide U6).size)))
      have PC := hide (sput_calls t sh (V6.alloc (.cells #[.int .i64 t.i, .int .i64 t.t, .slice sh.va t.v.length sh.vc, .slice sh.la t.l.length sh.lc, .slice sh.dp t.d.length sh.dc] 29)) (hs6.later (unhide U7)))
      have MAY := hide may
      have BT := hide hbt
      unfold snRow at PC ⊢
      rw [show ((0 : Nat) : Int) = 0 from rfl]
      have x0 := box_cell (unhide X7) 0 _ rfl
      have x1 := box_cell (unhide X7) 1 _ rfl
      have x2 := box_cell (unhide X7) 2 _ rfl
      have x3 := box_cell (unhide X7) 3 _ rfl
      have x4 := box_cell (unhide X7) 4 _ rfl
      clear v6 hs6 GV GC hr6 may hbt U7 X7
      go_wp2_with fail
      clear x0 x1 x2 x3 x4
      generalize V6.alloc _ = W7 at *
      generalize V6.heap.size = E7 at *
      go_at_call 16
      refine (unhide PC).mono ?_
      rintro e V8 ⟨v8, hcase⟩
      rcases hcase with ⟨h0, _⟩ | ⟨_, g, n, rfl, hgn, hgo⟩
      · exact absurd (unhide MAY) h0
      rw [unhide BT] at hgn hgo
      have U9 := hide ((unhide U8).trans (v8.mono (by rw [← hK]; exact (unhide U8).size)))
      have OG := hide hgo
      have NG := hide hgn
      clear v8 PC hgn hgo
      go_wp2_with fail
      go_at_call 18
      refine (live7_calls _ ((unhide TZ).later (by rw [hK]; exact unhide U9))).mono ?_
      rintro e V10 ⟨rfl, v10⟩
      have U10 := hide ((unhide U9).trans (v10.mono (by rw [← hK]; exact (unhide U9).size)))
      have k1 := run_string8 n n (unhide NG) ((unhide OG).later v10).bytes
      have k2 := run_string8 n1 c1 (unhide N1) ((unhide HB1).later (show Below w.heap.size w V10 by rw [hK]; exact unhide U10))
      have q2 : ((strOf l1).toList == (strOf l1).toList) = true := by simp
      have FF := hide (show Below w.heap.size w V10 by rw [hK]; exact unhide U10)
      clear v10 OG
      generalize strOf l1 = sl at *
      go_wp2
      go_ret
      exact ⟨by first | rfl | simp, by first | exact unhide FF | (rw [← hK]; exact unhide FF)⟩
end Go.Proofs.YtconglhapjcofaaGreatDoor.snapBack
end
