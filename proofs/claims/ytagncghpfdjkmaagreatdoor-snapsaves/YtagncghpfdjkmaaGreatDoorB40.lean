/- Snapshots: live. -/
import Derived.Test.YtagncghpfdjkmaaGreatDoorB39
import Derived.Test.YtagncghpfdjkmaaGreatDoorB38
import Derived.Test.YtagncghpfdjkmaaGreatDoorB11
section
namespace Go.Proofs.YtagncghpfdjkmaaGreatDoor
open Go.ChangeShapes Go.WideShapes Go.ChangeAt Go.RowKit
set_option linter.unusedVariables false

def L7a : Ds := (sSave 1000 (ofS 3) []).2
def L7b : Ds := (sSave 1000 (ofS 12) L7a).2
theorem save_1 : sSave 1000 (ofS 3) [] = (0, L7a) := Prod.ext live_1 rfl
theorem save_2 : sSave 1000 (ofS 12) L7a = (0, L7b) := Prod.ext live_2 rfl
theorem load_2 : ∃ t, sLoad L7b = some t ∧ t.i = 12 := by
  have h := live_4
  have e : sLoad L7b = sLoad (sSave 1000 (ofS 12) (sSave 1000 (ofS 3) []).2).2 := rfl
  cases hq : sLoad L7b with
  | none => rw [← e, hq] at h; cases h
  | some t =>
    rw [← e, hq] at h
    exact ⟨t, rfl, by simpa using h⟩
theorem ownN_one {W : World} {E : Nat} {s : Nm} (h : W.heap[E]? = some (.cells #[.string (str s)] 9 (0, 0))) : OwnN E W (some ⟨E, 0, none⟩) 1 [s] :=
  ⟨rfl, .inr ⟨E, 1, _, rfl, Nat.le_refl _, h, by simp, by simp [maxLen], rfl, rfl⟩⟩
theorem str_132 : (strOf [3, 2, 99]).toList = [3, 2, 99] := by decide +kernel
set_option maxRecDepth 20000 in
set_option maxHeartbeats 16000000 in
theorem live7_calls (w : World) (ht : Tz w) : Calls Tryz.prog 17 #[] w fun e w' => e = .returned (.bool true) ∧ Below w.heap.size w w' := by
  have kc := fun (w : World) (C : Array Value) (n c : Nat) => Lib.run_convert_bytes_const (P := Tryz.prog) w 27 5 C n c Tryz.underlying27 Tryz.underlying5
  have TT := hide ht
  have NC := hide (anew_calls w 1000)
  rw [show ((1000 : Int).toNat) = 1000 from rfl] at NC
  clear ht
  go_enter Tryz.func17, Tryz.ntmps17
  go_wp2_with fail
  go_at_call 22
  refine (unhide NC).mono ?_
  rintro e V1 ⟨d, M, rfl, h1, v1⟩
  have H1 := hide h1
  have B1 := hide v1
  have OC := hide (of_calls 3 (by omega) V1)
  clear h1 v1 NC
  go_wp2_with fail
  go_at_call 37
  refine (unhide OC).mono ?_
  rintro e V2 ⟨sh2, rfl, hs2, v2⟩
  have B2 := hide ((unhide B1).trans (v2.mono (unhide B1).size))
  have SC := hide (save_calls ((unhide H1).later v2) (by omega) ⟨w, rfl, unhide TT, unhide B2⟩ (ofS 3) sh2 hs2)
  rw [save_1] at SC
  clear v2 hs2 OC H1 B1
  go_wp2_with fail
  go_at_call 24
  refine (unhide SC).mono ?_
  rintro e V3 ⟨rfl, h3, a3⟩
  dsimp only at h3 ⊢
  rw [show ((0 : Nat) : Int) = 0 from rfl]
  have H3 := hide h3
  have B3 := hide ((unhide B2).trans a3.bel)
  have OC := hide (of_calls 12 (by omega) V3)
  clear h3 a3 SC B2
  go_wp2_with fail
  go_at_call 37
  refine (unhide OC).mono ?_
  rintro e V4 ⟨sh4, rfl, hs4, v4⟩
  have B4 := hide ((unhide B3).trans (v4.mono (unhide B3).size))
  have SC := hide (save_calls ((unhide H3).later v4) (by omega) ⟨w, rfl, unhide TT, unhide B4⟩ (ofS 12) sh4 hs4)
  rw [save_2] at SC
  clear v4 hs4 OC H3 B3
  go_wp2_with fail
  go_at_call 24
  refine (unhide SC).mono ?_
  rintro e V5 ⟨rfl, h5, a5⟩
  dsimp only at h5 ⊢
  rw [show ((0 : Nat) : Int) = 0 from rfl]
  have H5 := hide h5
  have B5 := hide ((unhide B4).trans a5.bel)
  have LC := hide (load_calls h5 ((unhide TT).later (unhide B5)))
  obtain ⟨t, ht, hti⟩ := load_2
  rw [ht] at LC
  clear h5 a5 SC B4 ht
  go_wp2_with fail
  go_at_call 30
  refine (unhide LC).mono ?_
  rintro e V6 ⟨sh6, rfl, _, v6⟩
  dsimp only [Option.getD_some, Option.isSome_some]
  unfold snRow
  rw [hti, if_pos rfl]
  have U7 := hide ((Below.refl V6.heap.size V6).alloc (Nat.le_refl _) (.cells #[.int .i64 12, .int .i64 t.t, .slice sh6.va t.v.length sh6.vc, .slice sh6.la t.l.length sh6.lc, .slice sh6.dp t.d.length sh6.dc] 29))
  have X7 := hide (heap_new V6 (.cells #[.int .i64 12, .int .i64 t.t, .slice sh6.va t.v.length sh6.vc, .slice sh6.la t.l.length sh6.lc, .slice sh6.dp t.d.length sh6.dc] 29))
  have H7 := hide (((unhide H5).later v6).later (unhide U7))
  have B7 := hide (((unhide B5).trans (v6.mono (unhide B5).size)).trans ((unhide U7).mono ((unhide B5).trans (v6.mono (unhide B5).size)).size))
  clear v6 LC H5 B5 hti
  have kc2 := kc (V6.alloc (.cells #[.int .i64 12, .int .i64 t.t, .slice sh6.va t.v.length sh6.vc, .slice sh6.la t.l.length sh6.lc, .slice sh6.dp t.d.length sh6.dc] 29)) #[.int .u8 97, .int .u8 98, .int .u8 99] 3 3
  have hz7 : (V6.alloc (.cells #[.int .i64 12, .int .i64 t.t, .slice sh6.va t.v.length sh6.vc, .slice sh6.la t.l.length sh6.lc, .slice sh6.dp t.d.length sh6.dc] 29)).heap.size = V6.heap.size + 1 := by simp
  have U8 := hide ((Below.refl (V6.alloc (.cells #[.int .i64 12, .int .i64 t.t, .slice sh6.va t.v.length sh6.vc, .slice sh6.la t.l.length sh6.lc, .slice sh6.dp t.d.length sh6.dc] 29)).heap.size (V6.alloc (.cells #[.int .i64 12, .int .i64 t.t, .slice sh6.va t.v.length sh6.vc, .slice sh6.la t.l.length sh6.lc, .slice sh6.dp t.d.length sh6.dc] 29))).alloc (Nat.le_refl _) (.cells #[.int .u8 97, .int .u8 98, .int .u8 99] 5 (3, 4)))
  have HB8 := hide (lit_bytes (V6.alloc (.cells #[.int .i64 12, .int .i64 t.t, .slice sh6.va t.v.length sh6.vc, .slice sh6.la t.l.length sh6.lc, .slice sh6.dp t.d.length sh6.dc] 29)) [97, 98, 99] (3, 4) (by decide))
  rw [hz7] at kc2 HB8
  rw [show ((#[.int .u8 97, .int .u8 98, .int .u8 99] : Array Value).size, (#[.int .u8 97, .int .u8 98, .int .u8 99] : Array Value).size + 1) = (3, 4) from rfl] at kc2
  have X8 := hide (later_block (unhide U8) (unhide X7))
  have H8 := hide ((unhide H7).later (unhide U8))
  have B8 := hide ((unhide B7).trans ((unhide U8).mono (unhide B7).size))
  have PC := hide (pieces_calls (some ⟨V6.heap.size + 1, 0, none⟩) 3 3 [97, 98, 99] 2 ((V6.alloc (.cells #[.int .i64 12, .int .i64 t.t, .slice sh6.va t.v.length sh6.vc, .slice sh6.la t.l.length sh6.lc, .slice sh6.dp t.d.length sh6.dc] 29)).alloc (.cells #[.int .u8 97, .int .u8 98, .int .u8 99] 5 (3, 4))) rfl (Nat.le_refl _) (by omega) (unhide HB8) (fun e => by cases e) (by omega))
  clear kc hz7 U7 U8 X7 H7 B7 HB8
  go_wp2_with fail
  generalize (V6.alloc (.cells #[.int .i64 12, .int .i64 t.t, .slice sh6.va t.v.length sh6.vc, .slice sh6.la t.l.length sh6.lc, .slice sh6.dp t.d.length sh6.dc] 29)).alloc (.cells #[.int .u8 97, .int .u8 98, .int .u8 99] 5 (3, 4)) = W8 at *
  generalize V6.heap.size = E at *
  clear kc2
  go_at_call 40
  refine (unhide PC).mono ?_
  rintro e V9 ⟨v9, hcase⟩
  rcases hcase with ⟨h0, _⟩ | ⟨_, h0, _⟩ | ⟨_, _, vv, rfl, hos⟩
  · exact absurd h0 (by decide)
  · exact absurd h0 (by decide)
  rw [show piecesL [97, 98, 99] (2 : Int).toNat = [[3, 0, 97, 98], [3, 2, 99]] from live_5] at hos
  obtain ⟨sp9, c9, rfl⟩ := hos.form
  rw [show ([[3, 0, 97, 98], [3, 2, 99]] : List (List Nat)).length = 2 from rfl] at hos ⊢
  have OS9 := hide hos
  have H9 := hide ((unhide H8).later v9)
  have X9 := hide (later_block v9 (unhide X8))
  have B9 := hide ((unhide B8).trans (v9.mono (unhide B8).size))
  have NM := hide (anames_calls (unhide H9))
  have x0 := box_cell (unhide X9) 0 _ rfl
  clear v9 PC hos H8 X8 B8
  go_wp2_with fail
  clear x0
  go_at_call 33
  refine (unhide NM).mono ?_
  rintro e V10 ⟨np, nn, nc, rfl, hnn, hno, v10⟩
  rw [show L7b.map (·.1) = [snNm 12] from live_3] at hno
  obtain rfl : nn = 1 := by
    rw [← hnn]
    have := congrArg List.length (show L7b.map (·.1) = [snNm 12] from live_3)
    simpa using this
  have U11 := hide ((Below.refl V10.heap.size V10).alloc (Nat.le_refl _) (.cells #[.string ⟨#[115, 110, 97, 112, 45, 49, 50]⟩] 9))
  have X11 := hide (heap_new V10 (.cells #[.string ⟨#[115, 110, 97, 112, 45, 49, 50]⟩] 9))
  have ST := hide (sameTexts_yes _ _ (V10.alloc (.cells #[.string ⟨#[115, 110, 97, 112, 45, 49, 50]⟩] 9)) [snNm 12] 1 rfl (by omega) np (some ⟨V10.heap.size, 0, none⟩) nc 1 (hno.later (unhide U11)) (ownN_one (by rw [show str (snNm 12) = ⟨#[115, 110, 97, 112, 45, 49, 50]⟩ from by kernel_rfl]; exact unhide X11)))
  have B11 := hide (((unhide B9).trans (v10.mono (unhide B9).size)).trans ((unhide U11).mono ((unhide B9).trans (v10.mono (unhide B9).size)).size))
  have OS11 := hide (((unhide OS9).later v10).later (unhide U11))
  clear v10 hno hnn NM U11 X11 OS9 B9
  go_wp2_with fail
  generalize V10.alloc _ = W11 at *
  generalize V10.heap.size = E11 at *
  go_at_call 32
  refine (unhide ST).mono ?_
  rintro e V12 ⟨rfl, v12⟩
  have B12 := hide ((unhide B11).trans (v12.mono (unhide B11).size))
  have OS12 := hide ((unhide OS11).later v12)
  obtain ⟨g, p, pc, rfl, hc1, hob⟩ := (unhide OS12).at 1 (by decide)
  have c1 : V12.cell? ⟨g, 1, none⟩ = some (.slice p 3 pc) := hc1
  have hcv : (convert 27 9 (.slice p 3 pc)).run Tryz.prog V12 = .ok (.string (strOf [3, 2, 99])) V12 := run_string8 3 pc rfl hob.bytes
  have hst : ((strOf [3, 2, 99]).toList == [3, 2, 99]) = true := by rw [str_132]; rfl
  have HST := hide hst
  clear hc1 hob v12 ST
  go_wp2
  first | rw [unhide HST] | skip
  go_ret
  exact ⟨by first | rfl | (rw [unhide HST]; rfl), unhide B12⟩
end Go.Proofs.YtagncghpfdjkmaaGreatDoor
end
/- Snapshots that are the same. -/
section
namespace Go.Proofs.YtagncghpfdjkmaaGreatDoor
open Go.ChangeShapes Go.WideShapes Go.ChangeAt Go.RowKit
set_option linter.unusedVariables false

set_option maxRecDepth 20000 in
set_option maxHeartbeats 8000000 in
theorem sameS_yes (s : Sn) (h h' : SnH) (w : World) (z : SnAt w s h) (z' : SnAt w s h') : Calls Tryz.prog 18 #[.agg (snRow s h), .agg (snRow s h')] w fun e w' => e = .returned (.bool true) ∧ Below w.heap.size w w' := by
  unfold snRow
  have A1 : Below w.heap.size w (w.alloc (.cells #[.int .i64 s.i, .int .i64 s.t, .slice h.va s.v.length h.vc, .slice h.la s.l.length h.lc, .slice h.dp s.d.length h.dc] 29)) := (Below.refl _ _).alloc (Nat.le_refl _) _
  have A2 : Below (w.alloc (.cells #[.int .i64 s.i, .int .i64 s.t, .slice h.va s.v.length h.vc, .slice h.la s.l.length h.lc, .slice h.dp s.d.length h.dc] 29)).heap.size (w.alloc (.cells #[.int .i64 s.i, .int .i64 s.t, .slice h.va s.v.length h.vc, .slice h.la s.l.length h.lc, .slice h.dp s.d.length h.dc] 29)) ((w.alloc (.cells #[.int .i64 s.i, .int .i64 s.t, .slice h.va s.v.length h.vc, .slice h.la s.l.length h.lc, .slice h.dp s.d.length h.dc] 29)).alloc (.cells #[.int .i64 s.i, .int .i64 s.t, .slice h'.va s.v.length h'.vc, .slice h'.la s.l.length h'.lc, .slice h'.dp s.d.length h'.dc] 29)) := (Below.refl _ _).alloc (Nat.le_refl _) _
  have hs1 : (w.alloc (.cells #[.int .i64 s.i, .int .i64 s.t, .slice h.va s.v.length h.vc, .slice h.la s.l.length h.lc, .slice h.dp s.d.length h.dc] 29)).heap.size = w.heap.size + 1 := by simp
  have X1 := hide (later_block A2 (heap_new w (.cells #[.int .i64 s.i, .int .i64 s.t, .slice h.va s.v.length h.vc, .slice h.la s.l.length h.lc, .slice h.dp s.d.length h.dc] 29)))
  have X2 := hide (heap_new (w.alloc (.cells #[.int .i64 s.i, .int .i64 s.t, .slice h.va s.v.length h.vc, .slice h.la s.l.length h.lc, .slice h.dp s.d.length h.dc] 29)) (.cells #[.int .i64 s.i, .int .i64 s.t, .slice h'.va s.v.length h'.vc, .slice h'.la s.l.length h'.lc, .slice h'.dp s.d.length h'.dc] 29))
  rw [hs1] at X2
  have B2 := hide (A1.trans (A2.mono A1.size))
  have Z := hide (z.later (unhide B2))
  have Z' := hide (z'.later (unhide B2))
  clear A1 A2 hs1 z z'
  have x0 := box_cell (unhide X1) 0 _ rfl
  have x1 := box_cell (unhide X1) 1 _ rfl
  have x2 := box_cell (unhide X1) 2 _ rfl
  have x3 := box_cell (unhide X1) 3 _ rfl
  have y0 := box_cell (unhide X2) 0 _ rfl
  have y1 := box_cell (unhide X2) 1 _ rfl
  have y2 := box_cell (unhide X2) 2 _ rfl
  have y3 := box_cell (unhide X2) 3 _ rfl
  have q0 : (s.i == s.i) = true := by simp
  have q1 : (s.t == s.t) = true := by simp
  have SC := hide (same_calls (vc := h.vc) (lc := h.lc) (vc' := h'.vc) (lc' := h'.lc) (unhide Z).v (unhide Z).l (unhide Z').v (unhide Z').l s.v.length s.l.length s.v.length s.l.length rfl rfl rfl rfl (unhide Z).vn (unhide Z).ln (unhide Z').vn (unhide Z').ln)
  rw [show (decide (s.v = s.v) && decide (s.l = s.l)) = true by simp] at SC
  go_enter Tryz.func18, Tryz.ntmps18
  go_wp2_with fail
  clear x0 x1 x2 x3 y0 y1 y2 y3
  generalize (w.alloc (.cells #[.int .i64 s.i, .int .i64 s.t, .slice h.va s.v.length h.vc, .slice h.la s.l.length h.lc, .slice h.dp s.d.length h.dc] 29)).alloc (.cells #[.int .i64 s.i, .int .i64 s.t, .slice h'.va s.v.length h'.vc, .slice h'.la s.l.length h'.lc, .slice h'.dp s.d.length h'.dc] 29) = W2 at *
  go_at_call 57
  refine (unhide SC).mono ?_
  rintro e V ⟨rfl, v1⟩
  have x4 : V.cell? ⟨w.heap.size, 4, none⟩ = some (.slice h.dp s.d.length h.dc) := box_cell (later_block v1 (unhide X1)) 4 _ rfl
  have y4 : V.cell? ⟨w.heap.size + 1, 4, none⟩ = some (.slice h'.dp s.d.length h'.dc) := box_cell (later_block v1 (unhide X2)) 4 _ rfl
  have k1 := run_string8 s.d.length h.dc rfl ((unhide Z).later v1).d
  have k2 := run_string8 s.d.length h'.dc rfl ((unhide Z').later v1).d
  have q2 : ((strOf s.d).toList == (strOf s.d).toList) = true := by simp
  have FF := hide ((unhide B2).trans (v1.mono (unhide B2).size))
  clear v1 SC Z Z' X1 X2
  generalize strOf s.d = sd at *
  go_wp2
  go_ret
  exact ⟨by first | rfl | simp, unhide FF⟩
end Go.Proofs.YtagncghpfdjkmaaGreatDoor
end
