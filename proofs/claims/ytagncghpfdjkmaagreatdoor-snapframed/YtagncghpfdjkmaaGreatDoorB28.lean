/- A snapshot that came in, opened. -/
import Derived.Test.YtagncghpfdjkmaaGreatDoorB18
import Derived.Test.YtagncghpfdjkmaaGreatDoorB07
import Derived.Lib.SmallJoins
import Derived.Test.YtagncghpfdjkmaaGreatDoorB20
import Derived.Test.YtagncghpfdjkmaaGreatDoorB27
import Derived.Test.YtagncghpfdjkmaaGreatDoorB11
section
namespace Go.Proofs.YtagncghpfdjkmaaGreatDoor
open Go.ChangeShapes Go.WideShapes Go.ChangeAt Go.RowKit
set_option linter.unusedVariables false

theorem list2s {α : Type} {l : List α} (h : l.length = 2) : ∃ c0 c1, l = [c0, c1] := by
  match l, h with
  | [c0, c1], _ => exact ⟨c0, c1, rfl⟩
theorem list3s {α : Type} {l : List α} (h : l.length = 3) : ∃ c0 c1 c2, l = [c0, c1, c2] := by
  match l, h with
  | [c0, c1, c2], _ => exact ⟨c0, c1, c2, rfl⟩
theorem list5s {α : Type} {l : Array α} (h : l.size = 5) : ∃ c0 c1 c2 c3 c4, l = #[c0, c1, c2, c3, c4] := by
  match l, h with
  | ⟨[c0, c1, c2, c3, c4]⟩, _ => exact ⟨c0, c1, c2, c3, c4, rfl⟩
set_option maxRecDepth 20000 in
theorem snap_open {H : Type} {enc : TypeId × Value → H} {W : World} {n : Nat} {v0 v1 v2 v3 v4 : Value} {y : DataW H × List MemPlace}
    (h2 : DataW.trod enc Tryz.prog W 0 (fun _ => true) true n 29 [v0, v1, v2, v3, v4] = some y) :
    ∃ (s : Sn) (h : SnH), v0 = .int .i64 s.i ∧ v1 = .int .i64 s.t ∧ v2 = .slice h.va s.v.length h.vc ∧ v3 = .slice h.la s.l.length h.lc ∧ v4 = .slice h.dp s.d.length h.dc ∧ SnAt W s h := by
  obtain ⟨xs, n', _, _, _, hx, hfs⟩ := DataW.trod_struct Tryz.underlying29 h2
  obtain ⟨y0, y1, y2, rfl⟩ := list3s (show xs.length = 3 from hx)
  have tm : DataW.trod enc Tryz.prog W 0 (fun _ => true) true n' 23 [v0, v1] = some y0 := hfs 0 _ rfl
  have tb : DataW.trod enc Tryz.prog W 0 (fun _ => true) true n' 26 [v2, v3] = some y1 := hfs 1 _ rfl
  have t4 : DataW.trod enc Tryz.prog W 0 (fun _ => true) true n' 27 [v4] = some y2 := hfs 2 _ rfl
  obtain ⟨xs, n1, _, _, _, hx, hfm⟩ := DataW.trod_struct Tryz.underlying23 tm
  obtain ⟨z0, z1, rfl⟩ := list2s (show xs.length = 2 from hx)
  obtain ⟨k, e0, _, w0⟩ := DataW.trod_int Tryz.underlying3 (show DataW.trod enc Tryz.prog W 0 (fun _ => true) true n1 3 [v0] = some z0 from hfm 0 _ rfl)
  obtain ⟨j, e1, _, w1⟩ := DataW.trod_int Tryz.underlying3 (show DataW.trod enc Tryz.prog W 0 (fun _ => true) true n1 3 [v1] = some z1 from hfm 1 _ rfl)
  obtain ⟨xs, n2, _, _, _, hx, hfb⟩ := DataW.trod_struct Tryz.underlying26 tb
  obtain ⟨b0, b1, rfl⟩ := list2s (show xs.length = 2 from hx)
  have t2 : DataW.trod enc Tryz.prog W 0 (fun _ => true) true n2 24 [v2] = some b0 := hfb 0 _ rfl
  have t3 : DataW.trod enc Tryz.prog W 0 (fun _ => true) true n2 24 [v3] = some b1 := hfb 1 _ rfl
  obtain ⟨va, vl, vc, e2⟩ := Joins.slice_form Tryz.underlying24 t2
  obtain ⟨la, ll, lc, e3⟩ := Joins.slice_form Tryz.underlying24 t3
  obtain ⟨dp, dl, dc, e4⟩ := Joins.slice_form Tryz.underlying27 t4
  simp only [List.cons.injEq, and_true] at e0 e1 e2 e3 e4
  subst e0 e1 e2 e3 e4
  obtain ⟨vs, rfl, hv1, hv2⟩ := row64 (show DataW.Trod enc Tryz.prog W 0 (fun _ => true) true 24 (.slice va vl vc) b0.1 b0.2 from ⟨n2, t2⟩)
  obtain ⟨ls, rfl, hl1, hl2⟩ := row64 (show DataW.Trod enc Tryz.prog W 0 (fun _ => true) true 24 (.slice la ll lc) b1.1 b1.2 from ⟨n2, t3⟩)
  obtain ⟨ds, rfl, hc4, hx4, hb, hz, _⟩ := row8 (show DataW.Trod enc Tryz.prog W 0 (fun _ => true) true 27 (.slice dp dl dc) y2.1 y2.2 from ⟨n', t4⟩)
  exact ⟨⟨k, j, vs, ls, ds⟩, ⟨va, vc, la, lc, dp, dc⟩, rfl, rfl, rfl, rfl, rfl, i64_bounds w0, i64_bounds w1, hv2, hl2, hb, hv1, hl1, hc4, hx4, hz⟩
set_option maxRecDepth 20000 in
theorem open_snap {H : Type} {enc : TypeId × Value → H} {W : World} {r : Reach} {b0 : Nat} {v : Value} {d : DataW H} {p : List MemPlace} (hv : Value.okWide Tryz.prog W r b0 29 v)
    (h : DataW.Trod enc Tryz.prog W 0 (fun _ => true) true 29 v d p) : ∃ (e : Sn) (q : SnH), v = .agg (snRow e q) ∧ SnAt W e q := by
  obtain ⟨cs, rfl, hsz⟩ := okWide_struct Tryz.underlying29 hv
  have c5 : Tryz.prog.cellsOf 29 = 5 := by kernel_rfl
  obtain ⟨v0, v1, v2, v3, v4, rfl⟩ := list5s (hsz.trans c5)
  obtain ⟨fuel, hf⟩ := h
  obtain ⟨e, q, rfl, rfl, rfl, rfl, rfl, hd⟩ := snap_open (show DataW.trod enc Tryz.prog W 0 (fun _ => true) true fuel 29 [v0, v1, v2, v3, v4] = some (d, p) from hf)
  exact ⟨e, q, rfl, hd⟩
end Go.Proofs.YtagncghpfdjkmaaGreatDoor
end
/- Bytes of one's own, one bit turned. -/
section
namespace Go.Proofs.YtagncghpfdjkmaaGreatDoor
open Go.ChangeShapes Go.WideShapes Go.ChangeAt Go.RowKit
set_option linter.unusedVariables false

theorem row_set {w : World} {g : Nat} {T : TypeId} {cur : List Value} (h : w.heap[g]? = some (.cells cur.toArray T (0, 0))) (k : Nat) (v : Value) : (w.setCell ⟨g, k, none⟩ v).heap[g]? = some (.cells (cur.set k v).toArray T (0, 0)) := by
  have := heap_setCell_same w g k _ T v h
  rw [this]
  simp
theorem OwnB.setAt {base : Nat} {w : World} {sp : Option Addr} {c : Nat} {l : List Nat} (h : OwnB base w sp c l) (j : Nat) (hj : j < l.length) (y : Nat) (hy : y < 256) : ∃ g, sp = some ⟨g, 0, none⟩ ∧ base ≤ g ∧ w.cell? ⟨g, j, none⟩ = some (.int .u8 ((l.getD j 0 : Nat) : Int)) ∧ w.frozen? ⟨g, j, none⟩ = false ∧ OwnB base (w.setCell ⟨g, j, none⟩ (.int .u8 (y : Int))) sp c (l.set j y) ∧ w.grownBy (w.setCell ⟨g, j, none⟩ (.int .u8 (y : Int))) (some g) ∧ (w.setCell ⟨g, j, none⟩ (.int .u8 (y : Int))).heap.size = w.heap.size := by
  obtain ⟨b, off, hsp, hcell⟩ := h.bytes.cell j hj
  obtain ⟨g1, cap, cur, hv, hbg, hh, hle, hmx, hsz, htk⟩ := h.owns.2.resolve_left (fun e => by have := e.2; omega)
  simp only [Value.slice.injEq] at hv
  obtain ⟨rfl, _, rfl⟩ := hv
  simp only [Option.some.injEq, Addr.mk.injEq, and_true] at hsp
  obtain ⟨rfl, rfl⟩ := hsp
  rw [Nat.zero_add] at hcell
  obtain ⟨cl⟩ := cur
  have htk1 : cl.take (l.length * 1) = l.map byteV := htk
  rw [Nat.mul_one] at htk1
  have hsz1 : cl.length = c * 1 := hsz
  refine ⟨g1, rfl, hbg, hcell, mbox_free hh j, ⟨⟨by rw [List.length_map, Nat.mul_one], .inr ⟨g1, c, (cl.set j (.int .u8 (y : Int))).toArray, by rw [List.length_set], hbg, row_set hh _ _, by rw [List.length_set]; exact hle, hmx, by simpa using hsz, ?_⟩⟩, ?_⟩, grown_set _ _ _ _, by simp⟩
  · rw [List.length_set, Nat.mul_one, List.toList_toArray, List.take_set, htk1, List.map_set]
    rfl
  · intro x hx
    rcases List.mem_or_eq_of_mem_set hx with h1 | h1
    · exact h.lt x h1
    · rw [h1]; exact hy
theorem OwnB.getLt {base : Nat} {w : World} {sp : Option Addr} {c : Nat} {l : List Nat} (h : OwnB base w sp c l) (j : Nat) (hj : j < l.length) : l.getD j 0 < 256 := by
  rw [List.getD_eq_getElem?_getD, List.getElem?_eq_getElem hj]
  exact h.lt _ (List.getElem_mem hj)
theorem rem_natS (k : Int) (M : Nat) (h0 : 0 < M) (h1 : M ≤ 4611686018427387904) : ∃ N : Nat, wrap64 ((IntKind.u64.wrap k).tmod (M : Int)) = (N : Int) ∧ N < M := by
  have hw : 0 ≤ IntKind.u64.wrap k := wrap_u64_nonneg k
  obtain ⟨u, hu⟩ := Int.eq_ofNat_of_zero_le hw
  rw [hu]
  refine ⟨u % M, ?_, Nat.mod_lt _ h0⟩
  have e : ((u : Int).tmod (M : Int)) = ((u % M : Nat) : Int) := by rw [← Int.ofNat_tmod]
  have := Nat.mod_lt u h0
  rw [e]
  unfold wrap64
  omega

theorem turn_byte2 (x r : Nat) (hx : x < 256) (hr : r < 8) : ∃ y : Nat, bits .xor .u8 (x : Int) (2 ^ r % 256) = (y : Int) ∧ y < 256 ∧ y ≠ x ∧ bits .xor .u8 (y : Int) (2 ^ r % 256) = (x : Int) := by
  have h1 : (2 : Nat) ^ r < 256 := by
    have : (2 : Nat) ^ r ≤ 2 ^ 7 := Nat.pow_le_pow_right (by omega) (by omega)
    omega
  have h2 : 0 < (2 : Nat) ^ r := Nat.pow_pos (by omega)
  have e : ((2 : Int) ^ r % 256) = ((2 ^ r : Nat) : Int) := by
    rw [Int.natCast_pow]
    have : ((2 ^ r : Nat) : Int) < 256 := by omega
    rw [Int.natCast_pow] at this
    have h3 : (0 : Int) ≤ ((2 : Nat) : Int) ^ r := by rw [← Int.natCast_pow]; omega
    exact Int.emod_eq_of_lt h3 this
  have hy : x ^^^ 2 ^ r < 256 := Nat.xor_lt_two_pow (n := 8) hx h1
  refine ⟨x ^^^ 2 ^ r, ?_, hy, ?_, ?_⟩
  · rw [e, u8_xor_nat x _ hx h1]
  · intro h
    have h4 : (x ^^^ 2 ^ r) = (x ^^^ 0) := by rw [Nat.xor_zero]; exact h
    have := Crc.xor_inj' h4
    omega
  · rw [e, u8_xor_nat _ _ hy h1, Nat.xor_assoc, Nat.xor_self, Nat.xor_zero]
end Go.Proofs.YtagncghpfdjkmaaGreatDoor
end
/- Snapshots: the walk of SnapTurned. -/
section
namespace Go.Proofs.YtagncghpfdjkmaaGreatDoor.snapTurned
open Go.ChangeShapes Go.WideShapes Go.ChangeAt Go.RowKit
set_option linter.unusedVariables false

theorem snL_err {l : List Nat} {x : Nat} (h : nextE l 0 = x) (hx : x ≠ 0) : snL l = .error x := by
  unfold snL
  rw [if_pos (by rw [h]; exact hx), h]
theorem getD_set_same {l : List Nat} {j y : Nat} (hj : j < l.length) : (l.set j y).getD j 0 = y := by
  rw [List.getD_eq_getElem?_getD, List.getElem?_set, if_pos rfl, if_pos hj]
  rfl
theorem set_back {l : List Nat} {j y : Nat} (hj : j < l.length) : (l.set j y).set j (l.getD j 0) = l := by
  rw [List.set_set, List.getD_eq_getElem?_getD, List.getElem?_eq_getElem hj]
  exact List.set_getElem_self hj
theorem inB_pos (s : Sn) : 1 ≤ (snI s).length := by
  have := (numB_length s.i.toNat).1
  unfold snI inB
  rw [List.length_append]
  omega
set_option maxRecDepth 20000 in
set_option maxHeartbeats 16000000 in
theorem walk0 (e0 : Sn) (q0 : SnH) (k : Int) (w : World) (hb0 : SnAt w e0 q0) (hk : -9223372036854775808 ≤ k ∧ k ≤ 9223372036854775807) (hTz : Tz w) :
    Calls Tryz.prog 7 #[.agg (snRow e0 q0), .int .i64 k] w fun e w' => e = .returned (.bool true) ∧ Below w.heap.size w w' := by
  have U1 := hide ((Below.refl w.heap.size w).alloc (Nat.le_refl _) (.cells (snRow e0 q0) 29))
  have X1 := hide (heap_new w (.cells (snRow e0 q0) 29))
  have PC := hide (sput_calls e0 q0 (w.alloc (.cells (snRow e0 q0) 29)) (hb0.later (unhide U1)))
  have TZ := hide hTz
  have Z0 := hide hb0.d.lt
  have HK := hide hk
  unfold snRow at U1 X1 PC ⊢
  clear hb0 hTz hk
  have x0 := box_cell (unhide X1) 0 _ rfl
  have x1 := box_cell (unhide X1) 1 _ rfl
  have x2 := box_cell (unhide X1) 2 _ rfl
  have x3 := box_cell (unhide X1) 3 _ rfl
  have x4 := box_cell (unhide X1) 4 _ rfl
  go_enter Tryz.func7, Tryz.ntmps7
  go_wp2_with fail
  clear x0 x1 x2 x3 x4
  have W1S := hide (show w.heap.size ≤ (w.alloc (.cells #[.int .i64 e0.i, .int .i64 e0.t, .slice q0.va e0.v.length q0.vc, .slice q0.la e0.l.length q0.lc, .slice q0.dp e0.d.length q0.dc] 29)).heap.size by simp)
  generalize w.alloc _ = W1 at *
  go_at_call 15
  refine (unhide PC).mono ?_
  rintro e V1 ⟨v1, hcase⟩
  have U2 := hide ((unhide U1).trans (v1.mono (unhide U1).size))
  clear v1 PC X1 U1
  rcases hcase with ⟨h0, rfl⟩ | ⟨h0, g, n, rfl, hgn, hgo⟩
  · have y1 : ¬ ((snE e0 : Nat) : Int) = 0 := by omega
    have y2 : (((snE e0 : Nat) : Int) == 0) = false := by simp [h0]
    generalize ((snE e0 : Nat) : Int) = ei at *
    go_wp2_with fail
    go_at_call 17
    refine (live7_calls _ ((unhide TZ).later (unhide U2))).mono ?_
    rintro e V8 ⟨rfl, v8⟩
    have FF := hide ((unhide U2).trans (v8.mono (unhide U2).size))
    clear v8
    go_wp2
    go_ret
    exact ⟨by first | rfl | simp [y1], unhide FF⟩
  · have SBE := hide (show snB e0 = frameB (snI e0) by unfold snB; rw [if_pos h0])
    have hl6 := snI_len h0
    have hl1 := inB_pos e0
    have HLT := hide (snI_lt h0 (unhide Z0))
    have hnn : n = 8 + (snI e0).length := by rw [← hgn, unhide SBE, frameB_length]
    have OG := hide (hgo.mono (unhide W1S))
    rw [unhide SBE] at OG
    subst hnn
    clear hgn hgo h0 SBE
    generalize snI e0 = l0 at *
    have y9 : ¬ (8 + (l0.length : Int)) < 9 := by omega
    obtain ⟨N, hN, hNl⟩ := rem_natS k (32 + 8 * l0.length) (by omega) (by omega)
    have eM : ((32 + 8 * l0.length : Nat) : Int) = 8 * (8 + (l0.length : Int) - 4) := by omega
    rw [eM] at hN
    have HNN := hide hN
    clear hN eM
    go_wp2_with fail
    rw [unhide HNN]
    clear HNN
    obtain ⟨q, hq⟩ : ∃ q : Nat, (N : Int) / 8 = (q : Int) := ⟨N / 8, by omega⟩
    obtain ⟨r, hr⟩ : ∃ r : Nat, (N : Int) % 8 = (r : Int) := ⟨N % 8, by omega⟩
    have hq1 : 4 + q < 8 + l0.length := by omega
    have hr1 : r < 8 := by omega
    have hjl : 4 + q < (frameB l0).length := by rw [frameB_length]; omega
    have hx256 := (unhide OG).getLt (4 + q) hjl
    generalize hxx : (frameB l0).getD (4 + q) 0 = x at *
    have HXX := hide hxx
    obtain ⟨y, hy, hylt, hyne, hyb⟩ := turn_byte2 x r hx256 hr1
    obtain ⟨g', hge, hgb, hc1, hf1, hset, hgr, _⟩ := (unhide OG).setAt (4 + q) hjl y hylt
    cases hge
    rw [hxx] at hc1
    have hx : V1.cell? ⟨g, 4 + q, none⟩ = some (.int .u8 (x : Int)) := hc1
    have hfz : V1.frozen? ⟨g, 4 + q, none⟩ = false := hf1
    have qi : (4 : Int) + (q : Int) < 8 + (l0.length : Int) := by omega
    have qi0 : (0 : Int) ≤ 4 + (q : Int) := by omega
    have qn : ((4 : Int) + (q : Int)).toNat = 4 + q := by omega
    have O2 := hide (hset.later ((Below.refl _ _).drew))
    have U3 := hide ((below_grown (unhide U2) hgr hgb (unhide U2).size).trans ((Below.refl _ _).drew))
    have HYB := hide hyb
    have HYY := hide hy
    clear hxx hset hgr hc1 hf1 hgb hyb
    go_region
    first | rw [unhide HYY] | skip
    clear hx hfz
    have HE5 := hide (snL_err (turned_next l0 q y (by omega) (unhide HLT) hq1 hylt (by rw [unhide HXX]; exact hyne)) (by decide))
    generalize (V1.setCell ⟨g, 4 + q, none⟩ (.int .u8 (y : Int))).drew = W2 at *
    have hLen : ((frameB l0).set (4 + q) y).length = 8 + l0.length := by rw [List.length_set, frameB_length]
    have G2 := hide (sget_calls (some ⟨g, 0, none⟩) (8 + l0.length) (8 + l0.length) ((frameB l0).set (4 + q) y) W2 hLen (Nat.le_refl _) (by simp only [maxLen]; omega) (unhide O2).bytes)
    go_wp2_with fail
    go_at_call 19
    refine (unhide G2).mono ?_
    rintro e V3 ⟨sh3, rfl, _, _, v3⟩
    rw [unhide HE5]
    dsimp only [snX, snOf]
    unfold snRow
    have U4 := hide ((Below.refl V3.heap.size V3).alloc (Nat.le_refl _) (.cells #[.int .i64 sn0.i, .int .i64 sn0.t, .slice sh3.va sn0.v.length sh3.vc, .slice sh3.la sn0.l.length sh3.lc, .slice sh3.dp sn0.d.length sh3.dc] 29))
    have O4 := hide (((unhide O2).later v3).later (unhide U4))
    have U5 := hide ((unhide U3).trans ((v3.trans ((unhide U4).mono v3.size)).mono (unhide U3).size))
    have hjl2 : 4 + q < ((frameB l0).set (4 + q) y).length := by rw [hLen]; omega
    obtain ⟨g', hge, hgb, hc1, hf1, hset, hgr, _⟩ := (unhide O4).setAt (4 + q) hjl2 x hx256
    cases hge
    rw [getD_set_same hjl] at hc1
    rw [← unhide HXX, set_back hjl] at hset
    have hx : (V3.alloc (.cells #[.int .i64 sn0.i, .int .i64 sn0.t, .slice sh3.va sn0.v.length sh3.vc, .slice sh3.la sn0.l.length sh3.lc, .slice sh3.dp sn0.d.length sh3.dc] 29)).cell? ⟨g, 4 + q, none⟩ = some (.int .u8 (y : Int)) := hc1
    have hfz : (V3.alloc (.cells #[.int .i64 sn0.i, .int .i64 sn0.t, .slice sh3.va sn0.v.length sh3.vc, .slice sh3.la sn0.l.length sh3.lc, .slice sh3.dp sn0.d.length sh3.dc] 29)).frozen? ⟨g, 4 + q, none⟩ = false := hf1
    rw [unhide HXX] at hset
    have O6 := hide (hset.later ((Below.refl _ _).drew))
    have U6 := hide ((below_grown (unhide U5) hgr hgb (unhide U5).size).trans ((Below.refl _ _).drew))
    have hyb := unhide HYB
    rw [show ((5 : Nat) : Int) = 5 from rfl]
    clear hset hgr hc1 hf1 hgb v3 G2 O4 O2 U4 hy
    go_wp2_with fail
    generalize V3.alloc _ = W4 at *
    go_region
    clear hx hfz
    first | rw [unhide HYB] | skip
    generalize (W4.setCell ⟨g, 4 + q, none⟩ (.int .u8 (x : Int))).drew = W6 at *
    have HE3 := hide (snL_err (cut_next l0 (4 + q) (by omega) hq1) (by decide))
    have hsl : ∀ u, (Instr.slice 27 (.slice (some ⟨g, 0, none⟩) (8 + l0.length) (8 + l0.length)) none (some (.int .i64 (4 + (q : Int)))) none).run Tryz.prog u = .ok (.slice (slp (some ⟨g, 0, none⟩) 0 (8 + l0.length)) (4 + q) (8 + l0.length)) u := fun u => by
      have := run_slice_h8 (some ⟨g, 0, none⟩) (8 + l0.length) (8 + l0.length) (4 + q) (by omega) u
      rw [← this, Int.natCast_add]
      rfl
    have hB6 := hide (BytesAt.head (unhide O6).bytes (8 + l0.length) (4 + q) (by rw [frameB_length]; exact Nat.le_refl _))
    have hL6 : ((frameB l0).take (4 + q)).length = 4 + q := by rw [List.length_take, frameB_length]; omega
    have G3 := hide (sget_calls (slp (some ⟨g, 0, none⟩) 0 (8 + l0.length)) (4 + q) (8 + l0.length) ((frameB l0).take (4 + q)) W6 hL6 (by omega) (by simp only [maxLen]; omega) (unhide hB6))
    generalize slp (some ⟨g, 0, none⟩) 0 (8 + l0.length) = ps at *
    have qa : IntKind.i64.wrap (4 + (q : Int)) = 4 + (q : Int) := by rw [IntKind.wrap_i64]; omega
    have q4 : 4 + (q : Int) ≤ 8 + (l0.length : Int) := by omega
    clear hyb O6 hB6
    go_wp2_with fail
    go_at_call 19
    refine (unhide G3).mono ?_
    rintro e V7 ⟨sh7, rfl, _, _, v7⟩
    rw [unhide HE3]
    dsimp only [snX, snOf]
    unfold snRow
    have U8 := hide ((Below.refl V7.heap.size V7).alloc (Nat.le_refl _) (.cells #[.int .i64 sn0.i, .int .i64 sn0.t, .slice sh7.va sn0.v.length sh7.vc, .slice sh7.la sn0.l.length sh7.lc, .slice sh7.dp sn0.d.length sh7.dc] 29))
    have U9 := hide ((unhide U6).trans ((v7.trans ((unhide U8).mono v7.size)).mono (unhide U6).size))
    rw [show ((3 : Nat) : Int) = 3 from rfl]
    clear v7 G3 U8
    go_wp2_with fail
    generalize V7.alloc _ = W8 at *
    go_at_call 17
    refine (live7_calls _ ((unhide TZ).later (unhide U9))).mono ?_
    rintro e V10 ⟨rfl, v10⟩
    have FF := hide ((unhide U9).trans (v10.mono (unhide U9).size))
    clear v10
    go_wp2
    go_ret
    exact ⟨rfl, unhide FF⟩
end Go.Proofs.YtagncghpfdjkmaaGreatDoor.snapTurned
end
/- Snapshots that are the same. -/
section
namespace Go.Proofs.YtagncghpfdjkmaaGreatDoor
open Go.ChangeShapes Go.WideShapes Go.ChangeAt Go.RowKit
set_option linter.unusedVariables false

set_option maxRecDepth 20000 in
set_option maxHeartbeats 8000000 in
theorem sameS_yes (s : Sn) (h h' : SnH) (w : World) (z : SnAt w s h) (z' : SnAt w s h') : Calls Tryz.prog 18 #[.agg (snRow s h), .agg (snRow s h')] w fun e w' => e = .returned (.bool true) ∧ Below w.heap.size w w' := by
  unfold snRow
  have A1 : Below w.heap.size w (w.alloc (.cells #[.int .i64 s.i, .int .i64 s.t, .slice h.va s.v.length h.vc, .slice h.la s.l.length h.lc, .slice h.dp s.d.length h.dc] 29)) := (Below.refl _ _).alloc (Nat.le_refl _) _
  have A2 : Below (w.alloc (.cells #[.int .i64 s.i, .int .i64 s.t, .slice h.va s.v.length h.vc, .slice h.la s.l.length h.lc, .slice h.dp s.d.length h.dc] 29)).heap.size (w.alloc (.cells #[.int .i64 s.i, .int .i64 s.t, .slice h.va s.v.length h.vc, .slice h.la s.l.length h.lc, .slice h.dp s.d.length h.dc] 29)) ((w.alloc (.cells #[.int .i64 s.i, .int .i64 s.t, .slice h.va s.v.length h.vc, .slice h.la s.l.length h.lc, .slice h.dp s.d.length h.dc] 29)).alloc (.cells #[.int .i64 s.i, .int .i64 s.t, .slice h'.va s.v.length h'.vc, .slice h'.la s.l.length h'.lc, .slice h'.dp s.d.length h'.dc] 29)) := (Below.refl _ _).alloc (Nat.le_refl _) _
  have hs1 : (w.alloc (.cells #[.int .i64 s.i, .int .i64 s.t, .slice h.va s.v.length h.vc, .slice h.la s.l.length h.lc, .slice h.dp s.d.length h.dc] 29)).heap.size = w.heap.size + 1 := by simp
  have X1 := hide (later_block A2 (heap_new w (.cells #[.int .i64 s.i, .int .i64 s.t, .slice h.va s.v.length h.vc, .slice h.la s.l.length h.lc, .slice h.dp s.d.length h.dc] 29)))
  have X2 := hide (heap_new (w.alloc (.cells #[.int .i64 s.i, .int .i64 s.t, .slice h.va s.v.length h.vc, .slice h.la s.l.length h.lc, .slice h.dp s.d.length h.dc] 29)) (.cells #[.int .i64 s.i, .int .i64 s.t, .slice h'.va s.v.length h'.vc, .slice h'.la s.l.length h'.lc, .slice h'.dp s.d.length h'.dc] 29))
  rw [hs1] at X2
  have B2 := hide (A1.trans (A2.mono A1.size))
  have Z := hide (z.later (unhide B2))
  have Z' := hide (z'.later (unhide B2))
  clear A1 A2 hs1 z z'
  have x0 := box_cell (unhide X1) 0 _ rfl
  have x1 := box_cell (unhide X1) 1 _ rfl
  have x2 := box_cell (unhide X1) 2 _ rfl
  have x3 := box_cell (unhide X1) 3 _ rfl
  have y0 := box_cell (unhide X2) 0 _ rfl
  have y1 := box_cell (unhide X2) 1 _ rfl
  have y2 := box_cell (unhide X2) 2 _ rfl
  have y3 := box_cell (unhide X2) 3 _ rfl
  have q0 : (s.i == s.i) = true := by simp
  have q1 : (s.t == s.t) = true := by simp
  have SC := hide (same_calls (vc := h.vc) (lc := h.lc) (vc' := h'.vc) (lc' := h'.lc) (unhide Z).v (unhide Z).l (unhide Z').v (unhide Z').l s.v.length s.l.length s.v.length s.l.length rfl rfl rfl rfl (unhide Z).vn (unhide Z).ln (unhide Z').vn (unhide Z').ln)
  rw [show (decide (s.v = s.v) && decide (s.l = s.l)) = true by simp] at SC
  go_enter Tryz.func18, Tryz.ntmps18
  go_wp2_with fail
  clear x0 x1 x2 x3 y0 y1 y2 y3
  generalize (w.alloc (.cells #[.int .i64 s.i, .int .i64 s.t, .slice h.va s.v.length h.vc, .slice h.la s.l.length h.lc, .slice h.dp s.d.length h.dc] 29)).alloc (.cells #[.int .i64 s.i, .int .i64 s.t, .slice h'.va s.v.length h'.vc, .slice h'.la s.l.length h'.lc, .slice h'.dp s.d.length h'.dc] 29) = W2 at *
  go_at_call 57
  refine (unhide SC).mono ?_
  rintro e V ⟨rfl, v1⟩
  have x4 : V.cell? ⟨w.heap.size, 4, none⟩ = some (.slice h.dp s.d.length h.dc) := box_cell (later_block v1 (unhide X1)) 4 _ rfl
  have y4 : V.cell? ⟨w.heap.size + 1, 4, none⟩ = some (.slice h'.dp s.d.length h'.dc) := box_cell (later_block v1 (unhide X2)) 4 _ rfl
  have k1 := run_string8 s.d.length h.dc rfl ((unhide Z).later v1).d
  have k2 := run_string8 s.d.length h'.dc rfl ((unhide Z').later v1).d
  have q2 : ((strOf s.d).toList == (strOf s.d).toList) = true := by simp
  have FF := hide ((unhide B2).trans (v1.mono (unhide B2).size))
  clear v1 SC Z Z' X1 X2
  generalize strOf s.d = sd at *
  go_wp2
  go_ret
  exact ⟨by first | rfl | simp, unhide FF⟩
end Go.Proofs.YtagncghpfdjkmaaGreatDoor
end
