/- Snapshots: SnapGets' walk, for every bytes. -/
import Derived.Test.YtagncghpfdjkmaaGreatDoorB27
import Derived.Test.YtagncghpfdjkmaaGreatDoorB28
import Derived.Test.YtagncghpfdjkmaaGreatDoorB31
import Derived.Test.YtagncghpfdjkmaaGreatDoorB29
import Derived.Test.YtagncghpfdjkmaaGreatDoorB01
import Derived.Test.YtagncghpfdjkmaaGreatDoorB08
import Derived.Deep.Slices
section
namespace Go.Proofs.YtagncghpfdjkmaaGreatDoor
open Go.ChangeShapes Go.WideShapes Go.ChangeAt Go.RowKit
set_option linter.unusedVariables false

set_option maxRecDepth 20000 in
set_option maxHeartbeats 8000000 in
theorem gets_calls (a : Option Addr) (n c : Nat) (l : List Nat) (w : World) (hn : l.length = n) (hc : n ≤ c) (hx : n ≤ 140737488355328) (hz : a = none → c = 0) (hb : BytesAt w a l) (hTz : Tz w) :
    Calls Tryz.prog 4 #[.slice a n c] w fun e w' => e = .returned (.bool true) ∧ Below w.heap.size w w' := by
  obtain ⟨s, hs⟩ : ∃ s, snOf (snL l) = s := ⟨_, rfl⟩
  obtain ⟨x, hxx⟩ : ∃ x : Nat, snX (snL l) = x := ⟨_, rfl⟩
  have G1 := hide (show Calls Tryz.prog 19 #[.slice a n c] w (fun e w' => ∃ h, e = .returned (.tuple #[.agg (snRow s h), .int .i64 (x : Int)]) ∧ SnAt w' s h ∧ Below w.heap.size w w') from (sget_calls a n c l w hn hc (by simp only [maxLen]; omega) hb).mono (by
    rintro e W ⟨h, h1, h2, _, h4⟩
    rw [hs, hxx] at h1
    rw [hs] at h2
    exact ⟨h, h1, h2, h4⟩))
  have G2 := hide (show ∀ V, Below w.heap.size w V → Calls Tryz.prog 20 #[.slice a n c] V (fun e w' => ∃ h, e = .returned (.tuple #[.agg (snRow s h), .int .i64 (x : Int)]) ∧ SnAt w' s h ∧ Below V.heap.size V w') from fun V u => (rgetS_calls a n c l V hn hc hx hz (hb.later u)).mono (by
    rintro e W ⟨h, h1, h2, h4⟩
    rw [hs, hxx] at h1
    rw [hs] at h2
    exact ⟨h, h1, h2, h4⟩))
  have TZ := hide hTz
  clear hs hxx hb hn hTz
  go_enter Tryz.func4, Tryz.ntmps4
  go_wp2_with fail
  go_at_call 19
  refine (unhide G1).mono ?_
  rintro e V1 ⟨h1, rfl, s1, v1⟩
  unfold snRow
  have A1 := hide (show Below V1.heap.size V1 (V1.alloc (.cells #[.int .i64 s.i, .int .i64 s.t, .slice h1.va s.v.length h1.vc, .slice h1.la s.l.length h1.lc, .slice h1.dp s.d.length h1.dc] 29)) from (Below.refl _ _).alloc (Nat.le_refl _) _)
  have X1 := hide (heap_new V1 (.cells #[.int .i64 s.i, .int .i64 s.t, .slice h1.va s.v.length h1.vc, .slice h1.la s.l.length h1.lc, .slice h1.dp s.d.length h1.dc] 29))
  have S1 := hide (s1.later (unhide A1))
  have U1 := hide (v1.trans ((unhide A1).mono v1.size))
  clear s1 v1 G1 A1
  go_wp2_with fail
  generalize V1.alloc _ = W1 at *
  generalize V1.heap.size = E1 at *
  go_at_call 20
  refine (unhide G2 _ (unhide U1)).mono ?_
  rintro e V2 ⟨h2, rfl, s2, v2⟩
  unfold snRow
  have A2 := hide (show Below V2.heap.size V2 (V2.alloc (.cells #[.int .i64 s.i, .int .i64 s.t, .slice h2.va s.v.length h2.vc, .slice h2.la s.l.length h2.lc, .slice h2.dp s.d.length h2.dc] 29)) from (Below.refl _ _).alloc (Nat.le_refl _) _)
  have X3 := hide (heap_new V2 (.cells #[.int .i64 s.i, .int .i64 s.t, .slice h2.va s.v.length h2.vc, .slice h2.la s.l.length h2.lc, .slice h2.dp s.d.length h2.dc] 29))
  have X2 := hide (later_block (unhide A2) (later_block v2 (unhide X1)))
  have S2 := hide (((unhide S1).later v2).later (unhide A2))
  have S3 := hide (s2.later (unhide A2))
  have U2 := hide ((unhide U1).trans ((v2.trans ((unhide A2).mono v2.size)).mono (unhide U1).size))
  clear s2 v2 G2 A2 X1 S1
  go_wp2_with fail
  generalize V2.alloc _ = W3 at *
  generalize V2.heap.size = E3 at *
  go_at_call 17
  refine (live7_calls _ ((unhide TZ).later (unhide U2))).mono ?_
  rintro e V4 ⟨rfl, v4⟩
  have X4 := hide (later_block v4 (unhide X2))
  have X5 := hide (later_block v4 (unhide X3))
  have SC := hide (sameS_yes s h1 h2 V4 ((unhide S2).later v4) ((unhide S3).later v4))
  have U4 := hide ((unhide U2).trans (v4.mono (unhide U2).size))
  unfold snRow at SC
  have x0 := box_cell (unhide X4) 0 _ rfl
  have x1 := box_cell (unhide X4) 1 _ rfl
  have x2 := box_cell (unhide X4) 2 _ rfl
  have x3 := box_cell (unhide X4) 3 _ rfl
  have x4 := box_cell (unhide X4) 4 _ rfl
  have y0 := box_cell (unhide X5) 0 _ rfl
  have y1 := box_cell (unhide X5) 1 _ rfl
  have y2 := box_cell (unhide X5) 2 _ rfl
  have y3 := box_cell (unhide X5) 3 _ rfl
  have y4 := box_cell (unhide X5) 4 _ rfl
  clear v4 X2 X3 S2 S3
  go_wp2_with fail
  clear x0 x1 x2 x3 x4 y0 y1 y2 y3 y4
  go_at_call 18
  refine (unhide SC).mono ?_
  rintro e V5 ⟨rfl, v5⟩
  have FF := hide ((unhide U4).trans (v5.mono (unhide U4).size))
  have q : ((x : Int) == (x : Int)) = true := by simp
  generalize (x : Int) = xi at *
  clear v5
  go_wp2
  go_ret
  exact ⟨by first | rfl | simp, unhide FF⟩
end Go.Proofs.YtagncghpfdjkmaaGreatDoor
end
/- The contracts of tollgateref01.four and Frame: the same bytes as frame's. -/
section
namespace Go.Proofs.YtagncghpfdjkmaaGreatDoor
open Go.ChangeShapes Go.WideShapes Go.ChangeAt Go.RowKit

set_option maxHeartbeats 400000 in
theorem four_calls (n : Nat) (w : World) (hn : n < 4294967296) :
    Calls Tryz.prog 66 #[.int .u32 (n : Int)] w fun e w' => ∃ g, e = .returned (.slice (some ⟨g, 0, none⟩) 4 4) ∧ Below w.heap.size w w' ∧ w.heap.size ≤ g ∧ w'.heap[g]? = some (.cells ((word4 n).map byteV).toArray 5 (0, 0)) := by
  go_enter Tryz.func66, Tryz.ntmps66
  go_wp2
  go_ret
  refine ⟨w.heap.size, rfl, (Below.refl _ _).alloc (Nat.le_refl _) _, Nat.le_refl _, ?_⟩
  rw [heap_new]
  rfl

theorem refFrame_long (a : Option Addr) (c : Nat) (l : List Nat) (w : World) (hl : l.length ≤ maxLen) (h : 65536 < l.length) :
    Calls Tryz.prog 21 #[.slice a l.length c] w fun e w' => e = .returned (.tuple #[.slice none 0 0, .int .i64 6]) ∧ w' = w := by
  unfold maxLen at hl
  go_enter Tryz.func21, Tryz.ntmps21
  go_wp2
  go_ret2
  exact ⟨rfl, rfl⟩

set_option maxHeartbeats 1000000 in
theorem refFrame_ok (a : Option Addr) (c : Nat) (l : List Nat) (w : World) (hb : BytesAt w a l) (hz : a = none → c = 0) (h : l.length ≤ 65536) :
    Calls Tryz.prog 21 #[.slice a l.length c] w fun e w' => ∃ sp c', e = .returned (.tuple #[.slice sp (frameB l).length c', .int .i64 0]) ∧ Below w.heap.size w w' ∧ OwnB w.heap.size w' sp c' (frameB l) := by
  have HB := hide hb
  have Hz := hide hz
  clear hb hz
  go_enter Tryz.func21, Tryz.ntmps21
  go_wp2_with fail
  refine (four_calls l.length _ (by omega)).mono ?_
  rintro e w1 ⟨g1, rfl, hb1, hg1, hc1⟩
  have B1 := hide (bytesAt_block hc1 (word4_lt _ (by omega)))
  have HBa := hide ((unhide HB).later hb1)
  have o1 := hide (OwnB.empty w1 w1.heap.size (Nat.le_refl _))
  have b1 := hide (show Below w1.heap.size w1 (w1.alloc (.cells #[] 5)) from (Below.refl _ _).alloc (Nat.le_refl _) _)
  clear hc1
  go_wp2_with (at_builtin; refine wpList_append8 rfl (.tmp 13) (.tmp 14) rfl w1.heap.size (some ⟨w1.heap.size, 0, none⟩) 0 0 [] rfl rfl (by exact unhide o1) (some ⟨g1, 0, none⟩) 4 4 rfl (word4 l.length) rfl (by exact (unhide B1).later (unhide b1)) (fun h => by cases h) (by simp) ?b1 ?_; rotate_right; intro sp1 n1 k1 W1 hn1 ho1 hgr1 hbl1)
  case b1 => simp
  have bW1 := (unhide b1).trans hbl1
  have B1W := hide ((unhide B1).later bW1)
  have HBW := hide ((unhide HBa).later bW1)
  rw [List.nil_append] at ho1 hn1
  have HO1 := hide ho1
  have BW1 := hide bW1
  clear hgr1 hbl1 ho1 bW1
  refine (refSum_calls' _ 4 _ (word4 l.length) _ rfl (by rw [word4_length]; simp [maxLen]) (unhide B1W)).mono ?_
  rintro e W2 ⟨rfl, rfl⟩
  go_wp2_with fail
  refine (refExtend_calls _ _ _ l _ (Crc.ext_lt _ _) (by simp only [maxLen]; omega) (unhide HBW)).mono ?_
  rintro e W3 ⟨rfl, rfl⟩
  have HS := hide (show Crc.ext (Crc.ext 0 (word4 l.length)) l = fsum l.length l from rfl)
  rw [unhide HS]
  have hslt := fsum_lt l.length l
  generalize hs : fsum l.length l = s at *
  have Hs := hide hs
  clear hs HS
  go_wp2_with fail
  refine (four_calls s _ hslt).mono ?_
  rintro e W4 ⟨g4, rfl, hb4, hg4, hc4⟩
  have hsz4 := Nat.le_trans (unhide BW1).size hb4.size
  have B4 := hide (bytesAt_block hc4 (word4_lt _ hslt))
  have HO4 := hide ((unhide HO1).later hb4)
  have BW4 := hide ((unhide BW1).trans (hb4.mono (unhide BW1).size))
  clear hc4
  go_wp2_with (first
    | (at_builtin; refine wpList_append8 rfl (.tmp 16) (.tmp 21) rfl w1.heap.size sp1 n1 k1 (word4 l.length) rfl (unhide hn1) (by exact unhide HO4) (some ⟨g4, 0, none⟩) 4 4 rfl (word4 s) rfl (by exact unhide B4) (fun h => by cases h) (by rw [word4_length]; omega) hsz4 ?_; intro sp5 n5 k5 W5 hn5 ho5 hgr5 hbl5)
    | (at_builtin; refine wpList_append8 rfl (.tmp 23) (.tmp 24) rfl w1.heap.size sp5 n5 k5 (word4 l.length ++ word4 s) rfl (unhide hn5) (by exact ho5) a l.length c rfl l rfl ?B6 (unhide Hz) ?s6 ?b6 ?_; rotate_right; intro sp6 n6 k6 W6 hn6 ho6 hgr6 hbl6))
  case B6 => exact (unhide HBa).later ((unhide BW4).trans hbl5)
  case s6 => rw [List.length_append, word4_length, word4_length]; omega
  case b6 => exact ((unhide BW4).trans hbl5).size
  have hF : word4 l.length ++ word4 s ++ l = frameB l := by rw [frameB, unhide Hs, List.append_assoc]
  rw [hF] at ho6 hn6
  rw [← unhide hn6]
  go_ret2
  refine ⟨sp6, k6, rfl, hb1.trans ((((unhide BW4).trans hbl5).trans hbl6).mono hb1.size), ho6.mono hb1.size⟩
end Go.Proofs.YtagncghpfdjkmaaGreatDoor
end
/- A snapshot that came in, opened, with what its rows may weigh (open_snapS). -/
section
namespace Go.Proofs.YtagncghpfdjkmaaGreatDoor
open Go.ChangeShapes Go.WideShapes Go.ChangeAt Go.RowKit
set_option linter.unusedVariables false

theorem bytes64s : Tryz.prog.bytesOf 3 = 8 := by kernel_rfl
theorem row64SS {H : Type} {enc : TypeId × Value → H} {W : World} {a : Option Addr} {len cap : Nat} {d : DataW H} {p : List MemPlace}
    (h : DataW.Trod enc Tryz.prog W 0 (fun _ => true) true 24 (.slice a len cap) d p) (hw : ∀ n ∈ d.weights Tryz.prog 24, n ≤ reachBytes) :
    ∃ l : List Int, l.length = len ∧ len * 8 ≤ 140737488351232 ∧ IntsAt W a l ∧ (a = none → cap = 0) := by
  obtain ⟨l, h1, _, h3⟩ := row64 h
  obtain ⟨fuel, hf⟩ := h
  rcases open_ints Tryz.underlying24 Tryz.underlying3 (by kernel_rfl) hf with ⟨hcs, hx⟩ | ⟨x, l', c, zs, hcs, _, hl, hm, hz, hx, hcell, hwz⟩
  · simp [Value.cells] at hcs
    obtain ⟨rfl, rfl, rfl⟩ := hcs
    exact ⟨l, h1, by omega, h3, fun _ => rfl⟩
  · simp [Value.cells] at hcs
    obtain ⟨rfl, rfl, rfl⟩ := hcs
    have hz' : zs.length = cap := by simpa using hz
    refine ⟨l, h1, ?_, h3, fun h => by cases h⟩
    obtain ⟨es, sp, rfl, he⟩ : ∃ es sp, d = .slice es sp ∧ es.length + sp.length = cap := ⟨_, _, (Prod.mk.inj hx).1, by simp [lits]; omega⟩
    have h4 := hw ((es.length + sp.length) * Tryz.prog.bytesOf 3) (by simp [DataW.weights, Tryz.underlying24])
    rw [bytes64s] at h4
    simp only [reachBytes] at h4
    omega
/-- What its rows may weigh. -/
structure SnS (s : Sn) (h : SnH) : Prop where
  v : s.v.length * 8 ≤ 140737488351232
  l : s.l.length * 8 ≤ 140737488351232
  d : h.dc ≤ 140737488355328
  vz : h.va = none → h.vc = 0
  lz : h.la = none → h.lc = 0
set_option maxRecDepth 20000 in
theorem snap_openS {H : Type} {enc : TypeId × Value → H} {W : World} {n : Nat} {v0 v1 v2 v3 v4 : Value} {y : DataW H × List MemPlace}
    (h2 : DataW.trod enc Tryz.prog W 0 (fun _ => true) true n 29 [v0, v1, v2, v3, v4] = some y) (hw : ∀ n ∈ y.1.weights Tryz.prog 29, n ≤ reachBytes) :
    ∃ (s : Sn) (h : SnH), v0 = .int .i64 s.i ∧ v1 = .int .i64 s.t ∧ v2 = .slice h.va s.v.length h.vc ∧ v3 = .slice h.la s.l.length h.lc ∧ v4 = .slice h.dp s.d.length h.dc ∧ SnAt W s h ∧ SnS s h := by
  obtain ⟨xs, n', _, ey, _, hx, hfs⟩ := DataW.trod_struct Tryz.underlying29 h2
  obtain ⟨y0, y1, y2, rfl⟩ := list3s (show xs.length = 3 from hx)
  have tm : DataW.trod enc Tryz.prog W 0 (fun _ => true) true n' 23 [v0, v1] = some y0 := hfs 0 _ rfl
  have tb : DataW.trod enc Tryz.prog W 0 (fun _ => true) true n' 26 [v2, v3] = some y1 := hfs 1 _ rfl
  have t4 : DataW.trod enc Tryz.prog W 0 (fun _ => true) true n' 27 [v4] = some y2 := hfs 2 _ rfl
  have hw1 : ∀ n ∈ y1.1.weights Tryz.prog 26, n ≤ reachBytes := fun n hn => hw n (by rw [ey]; simp [DataW.weights, DataW.weightsEach, Tryz.underlying29, hn])
  have hw2 : ∀ n ∈ y2.1.weights Tryz.prog 27, n ≤ reachBytes := fun n hn => hw n (by rw [ey]; simp [DataW.weights, DataW.weightsEach, Tryz.underlying29, hn])
  obtain ⟨xs, n1, _, _, _, hx, hfm⟩ := DataW.trod_struct Tryz.underlying23 tm
  obtain ⟨z0, z1, rfl⟩ := list2s (show xs.length = 2 from hx)
  obtain ⟨k, e0, _, w0⟩ := DataW.trod_int Tryz.underlying3 (show DataW.trod enc Tryz.prog W 0 (fun _ => true) true n1 3 [v0] = some z0 from hfm 0 _ rfl)
  obtain ⟨j, e1, _, w1⟩ := DataW.trod_int Tryz.underlying3 (show DataW.trod enc Tryz.prog W 0 (fun _ => true) true n1 3 [v1] = some z1 from hfm 1 _ rfl)
  obtain ⟨xs, n2, _, eb, _, hx, hfb⟩ := DataW.trod_struct Tryz.underlying26 tb
  obtain ⟨b0, b1, rfl⟩ := list2s (show xs.length = 2 from hx)
  have t2 : DataW.trod enc Tryz.prog W 0 (fun _ => true) true n2 24 [v2] = some b0 := hfb 0 _ rfl
  have t3 : DataW.trod enc Tryz.prog W 0 (fun _ => true) true n2 24 [v3] = some b1 := hfb 1 _ rfl
  have hv0 : ∀ n ∈ b0.1.weights Tryz.prog 24, n ≤ reachBytes := fun n hn => hw1 n (by rw [eb]; simp [DataW.weights, DataW.weightsEach, Tryz.underlying26, hn])
  have hv1 : ∀ n ∈ b1.1.weights Tryz.prog 24, n ≤ reachBytes := fun n hn => hw1 n (by rw [eb]; simp [DataW.weights, DataW.weightsEach, Tryz.underlying26, hn])
  obtain ⟨va, vl, vc, e2⟩ := Joins.slice_form Tryz.underlying24 t2
  obtain ⟨la, ll, lc, e3⟩ := Joins.slice_form Tryz.underlying24 t3
  obtain ⟨dp, dl, dc, e4⟩ := Joins.slice_form Tryz.underlying27 t4
  simp only [List.cons.injEq, and_true] at e0 e1 e2 e3 e4
  subst e0 e1 e2 e3 e4
  obtain ⟨vs, rfl, hs1, hv2, hz1⟩ := row64SS (show DataW.Trod enc Tryz.prog W 0 (fun _ => true) true 24 (.slice va vl vc) b0.1 b0.2 from ⟨n2, t2⟩) hv0
  obtain ⟨ls, rfl, hs2, hl2, hz2⟩ := row64SS (show DataW.Trod enc Tryz.prog W 0 (fun _ => true) true 24 (.slice la ll lc) b1.1 b1.2 from ⟨n2, t3⟩) hv1
  obtain ⟨ds, rfl, hc4, hx4, hb, hz, hr⟩ := row8 (show DataW.Trod enc Tryz.prog W 0 (fun _ => true) true 27 (.slice dp dl dc) y2.1 y2.2 from ⟨n', t4⟩)
  have hdc : dc ≤ 140737488355328 := by
    rcases hr with ⟨_, rfl⟩ | ⟨es, sp, ed, rfl⟩
    · omega
    · have h4 := hw2 ((es.length + sp.length) * Tryz.prog.bytesOf 5) (by rw [ed]; simp [DataW.weights, Tryz.underlying27])
      rw [bytes8] at h4
      have := reachBytes_lt
      omega
  exact ⟨⟨k, j, vs, ls, ds⟩, ⟨va, vc, la, lc, dp, dc⟩, rfl, rfl, rfl, rfl, rfl, ⟨i64_bounds w0, i64_bounds w1, hv2, hl2, hb, by simp only [maxLen]; omega, by simp only [maxLen]; omega, hc4, hx4, hz⟩, ⟨hs1, hs2, hdc, hz1, hz2⟩⟩
set_option maxRecDepth 20000 in
theorem open_snapS {H : Type} {enc : TypeId × Value → H} {W : World} {r : Reach} {b0 : Nat} {v : Value} {d : DataW H} {p : List MemPlace} (hv : Value.okWide Tryz.prog W r b0 29 v)
    (h : DataW.Trod enc Tryz.prog W 0 (fun _ => true) true 29 v d p) (hw : ∀ n ∈ d.weights Tryz.prog 29, n ≤ reachBytes) : ∃ (e : Sn) (q : SnH), v = .agg (snRow e q) ∧ SnAt W e q ∧ SnS e q := by
  obtain ⟨cs, rfl, hsz⟩ := okWide_struct Tryz.underlying29 hv
  have c5 : Tryz.prog.cellsOf 29 = 5 := by kernel_rfl
  obtain ⟨v0, v1, v2, v3, v4, rfl⟩ := list5s (hsz.trans c5)
  obtain ⟨fuel, hf⟩ := h
  obtain ⟨e, q, rfl, rfl, rfl, rfl, rfl, hd⟩ := snap_openS (show DataW.trod enc Tryz.prog W 0 (fun _ => true) true fuel 29 [v0, v1, v2, v3, v4] = some (d, p) from hf) hw
  exact ⟨e, q, rfl, hd⟩
end Go.Proofs.YtagncghpfdjkmaaGreatDoor
end
