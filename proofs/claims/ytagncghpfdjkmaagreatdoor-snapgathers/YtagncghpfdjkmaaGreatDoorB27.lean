/- Snapshots that are the same. -/
import Derived.Test.YtagncghpfdjkmaaGreatDoorB26
import Derived.Test.YtagncghpfdjkmaaGreatDoorB11
import Derived.Test.YtagncghpfdjkmaaGreatDoorB19
import Derived.Test.YtagncghpfdjkmaaGreatDoorB16
import Derived.Test.YtagncghpfdjkmaaGreatDoorB13
import Derived.Test.YtagncghpfdjkmaaGreatDoorB15
import Derived.Test.YtagncghpfdjkmaaGreatDoorB07
import Derived.Deep.Slices
section
namespace Go.Proofs.YtagncghpfdjkmaaGreatDoor
open Go.ChangeShapes Go.WideShapes Go.ChangeAt Go.RowKit
set_option linter.unusedVariables false

set_option maxRecDepth 20000 in
set_option maxHeartbeats 8000000 in
theorem sameS_yes (s : Sn) (h h' : SnH) (w : World) (z : SnAt w s h) (z' : SnAt w s h') : Calls Tryz.prog 18 #[.agg (snRow s h), .agg (snRow s h')] w fun e w' => e = .returned (.bool true) ∧ Below w.heap.size w w' := by
  unfold snRow
  have A1 : Below w.heap.size w (w.alloc (.cells #[.int .i64 s.i, .int .i64 s.t, .slice h.va s.v.length h.vc, .slice h.la s.l.length h.lc, .slice h.dp s.d.length h.dc] 29)) := (Below.refl _ _).alloc (Nat.le_refl _) _
  have A2 : Below (w.alloc (.cells #[.int .i64 s.i, .int .i64 s.t, .slice h.va s.v.length h.vc, .slice h.la s.l.length h.lc, .slice h.dp s.d.length h.dc] 29)).heap.size (w.alloc (.cells #[.int .i64 s.i, .int .i64 s.t, .slice h.va s.v.length h.vc, .slice h.la s.l.length h.lc, .slice h.dp s.d.length h.dc] 29)) ((w.alloc (.cells #[.int .i64 s.i, .int .i64 s.t, .slice h.va s.v.length h.vc, .slice h.la s.l.length h.lc, .slice h.dp s.d.length h.dc] 29)).alloc (.cells #[.int .i64 s.i, .int .i64 s.t, .slice h'.va s.v.length h'.vc, .slice h'.la s.l.length h'.lc, .slice h'.dp s.d.length h'.dc] 29)) := (Below.refl _ _).alloc (Nat.le_refl _) _
  have hs1 : (w.alloc (.cells #[.int .i64 s.i, .int .i64 s.t, .slice h.va s.v.length h.vc, .slice h.la s.l.length h.lc, .slice h.dp s.d.length h.dc] 29)).heap.size = w.heap.size + 1 := by simp
  have X1 := hide (later_block A2 (heap_new w (.cells #[.int .i64 s.i, .int .i64 s.t, .slice h.va s.v.length h.vc, .slice h.la s.l.length h.lc, .slice h.dp s.d.length h.dc] 29)))
  have X2 := hide (heap_new (w.alloc (.cells #[.int .i64 s.i, .int .i64 s.t, .slice h.va s.v.length h.vc, .slice h.la s.l.length h.lc, .slice h.dp s.d.length h.dc] 29)) (.cells #[.int .i64 s.i, .int .i64 s.t, .slice h'.va s.v.length h'.vc, .slice h'.la s.l.length h'.lc, .slice h'.dp s.d.length h'.dc] 29))
  rw [hs1] at X2
  have B2 := hide (A1.trans (A2.mono A1.size))
  have Z := hide (z.later (unhide B2))
  have Z' := hide (z'.later (unhide B2))
  clear A1 A2 hs1 z z'
  have x0 := box_cell (unhide X1) 0 _ rfl
  have x1 := box_cell (unhide X1) 1 _ rfl
  have x2 := box_cell (unhide X1) 2 _ rfl
  have x3 := box_cell (unhide X1) 3 _ rfl
  have y0 := box_cell (unhide X2) 0 _ rfl
  have y1 := box_cell (unhide X2) 1 _ rfl
  have y2 := box_cell (unhide X2) 2 _ rfl
  have y3 := box_cell (unhide X2) 3 _ rfl
  have q0 : (s.i == s.i) = true := by simp
  have q1 : (s.t == s.t) = true := by simp
  have SC := hide (same_calls (vc := h.vc) (lc := h.lc) (vc' := h'.vc) (lc' := h'.lc) (unhide Z).v (unhide Z).l (unhide Z').v (unhide Z').l s.v.length s.l.length s.v.length s.l.length rfl rfl rfl rfl (unhide Z).vn (unhide Z).ln (unhide Z').vn (unhide Z').ln)
  rw [show (decide (s.v = s.v) && decide (s.l = s.l)) = true by simp] at SC
  go_enter Tryz.func18, Tryz.ntmps18
  go_wp2_with fail
  clear x0 x1 x2 x3 y0 y1 y2 y3
  generalize (w.alloc (.cells #[.int .i64 s.i, .int .i64 s.t, .slice h.va s.v.length h.vc, .slice h.la s.l.length h.lc, .slice h.dp s.d.length h.dc] 29)).alloc (.cells #[.int .i64 s.i, .int .i64 s.t, .slice h'.va s.v.length h'.vc, .slice h'.la s.l.length h'.lc, .slice h'.dp s.d.length h'.dc] 29) = W2 at *
  go_at_call 57
  refine (unhide SC).mono ?_
  rintro e V ⟨rfl, v1⟩
  have x4 : V.cell? ⟨w.heap.size, 4, none⟩ = some (.slice h.dp s.d.length h.dc) := box_cell (later_block v1 (unhide X1)) 4 _ rfl
  have y4 : V.cell? ⟨w.heap.size + 1, 4, none⟩ = some (.slice h'.dp s.d.length h'.dc) := box_cell (later_block v1 (unhide X2)) 4 _ rfl
  have k1 := run_string8 s.d.length h.dc rfl ((unhide Z).later v1).d
  have k2 := run_string8 s.d.length h'.dc rfl ((unhide Z').later v1).d
  have q2 : ((strOf s.d).toList == (strOf s.d).toList) = true := by simp
  have FF := hide ((unhide B2).trans (v1.mono (unhide B2).size))
  clear v1 SC Z Z' X1 X2
  generalize strOf s.d = sd at *
  go_wp2
  go_ret
  exact ⟨by first | rfl | simp, unhide FF⟩
end Go.Proofs.YtagncghpfdjkmaaGreatDoor
end
/- Bytes of one's own, one bit turned. -/
section
namespace Go.Proofs.YtagncghpfdjkmaaGreatDoor
open Go.ChangeShapes Go.WideShapes Go.ChangeAt Go.RowKit
set_option linter.unusedVariables false

theorem row_set {w : World} {g : Nat} {T : TypeId} {cur : List Value} (h : w.heap[g]? = some (.cells cur.toArray T (0, 0))) (k : Nat) (v : Value) : (w.setCell ⟨g, k, none⟩ v).heap[g]? = some (.cells (cur.set k v).toArray T (0, 0)) := by
  have := heap_setCell_same w g k _ T v h
  rw [this]
  simp
theorem OwnB.setAt {base : Nat} {w : World} {sp : Option Addr} {c : Nat} {l : List Nat} (h : OwnB base w sp c l) (j : Nat) (hj : j < l.length) (y : Nat) (hy : y < 256) : ∃ g, sp = some ⟨g, 0, none⟩ ∧ base ≤ g ∧ w.cell? ⟨g, j, none⟩ = some (.int .u8 ((l.getD j 0 : Nat) : Int)) ∧ w.frozen? ⟨g, j, none⟩ = false ∧ OwnB base (w.setCell ⟨g, j, none⟩ (.int .u8 (y : Int))) sp c (l.set j y) ∧ w.grownBy (w.setCell ⟨g, j, none⟩ (.int .u8 (y : Int))) (some g) ∧ (w.setCell ⟨g, j, none⟩ (.int .u8 (y : Int))).heap.size = w.heap.size := by
  obtain ⟨b, off, hsp, hcell⟩ := h.bytes.cell j hj
  obtain ⟨g1, cap, cur, hv, hbg, hh, hle, hmx, hsz, htk⟩ := h.owns.2.resolve_left (fun e => by have := e.2; omega)
  simp only [Value.slice.injEq] at hv
  obtain ⟨rfl, _, rfl⟩ := hv
  simp only [Option.some.injEq, Addr.mk.injEq, and_true] at hsp
  obtain ⟨rfl, rfl⟩ := hsp
  rw [Nat.zero_add] at hcell
  obtain ⟨cl⟩ := cur
  have htk1 : cl.take (l.length * 1) = l.map byteV := htk
  rw [Nat.mul_one] at htk1
  have hsz1 : cl.length = c * 1 := hsz
  refine ⟨g1, rfl, hbg, hcell, mbox_free hh j, ⟨⟨by rw [List.length_map, Nat.mul_one], .inr ⟨g1, c, (cl.set j (.int .u8 (y : Int))).toArray, by rw [List.length_set], hbg, row_set hh _ _, by rw [List.length_set]; exact hle, hmx, by simpa using hsz, ?_⟩⟩, ?_⟩, grown_set _ _ _ _, by simp⟩
  · rw [List.length_set, Nat.mul_one, List.toList_toArray, List.take_set, htk1, List.map_set]
    rfl
  · intro x hx
    rcases List.mem_or_eq_of_mem_set hx with h1 | h1
    · exact h.lt x h1
    · rw [h1]; exact hy
theorem OwnB.getLt {base : Nat} {w : World} {sp : Option Addr} {c : Nat} {l : List Nat} (h : OwnB base w sp c l) (j : Nat) (hj : j < l.length) : l.getD j 0 < 256 := by
  rw [List.getD_eq_getElem?_getD, List.getElem?_eq_getElem hj]
  exact h.lt _ (List.getElem_mem hj)
theorem rem_natS (k : Int) (M : Nat) (h0 : 0 < M) (h1 : M ≤ 4611686018427387904) : ∃ N : Nat, wrap64 ((IntKind.u64.wrap k).tmod (M : Int)) = (N : Int) ∧ N < M := by
  have hw : 0 ≤ IntKind.u64.wrap k := wrap_u64_nonneg k
  obtain ⟨u, hu⟩ := Int.eq_ofNat_of_zero_le hw
  rw [hu]
  refine ⟨u % M, ?_, Nat.mod_lt _ h0⟩
  have e : ((u : Int).tmod (M : Int)) = ((u % M : Nat) : Int) := by rw [← Int.ofNat_tmod]
  have := Nat.mod_lt u h0
  rw [e]
  unfold wrap64
  omega

end Go.Proofs.YtagncghpfdjkmaaGreatDoor
end
/- Pieces that come, plainly: what is gathered; the pieces of a snapshot's bytes one behind the other. -/
section
namespace Go.Proofs.YtagncghpfdjkmaaGreatDoor
open Go.ChangeShapes Go.WideShapes Go.ChangeAt Go.RowKit
set_option linter.unusedVariables false

/-- What a piece says: of how many bytes it is, its place, where its bytes stand. -/
def rdP (p : List Nat) : Except Nat (Nat × Nat × Nat) := match takeE p 0 with
  | .error x => .error x
  | .ok (t, k1) => match takeE p k1 with
    | .error x => .error x
    | .ok (pl, k2) => if 32768 < t then .error 6 else if t < pl + (p.length - k2) ∨ (p.length - k2 = 0 ∧ 0 < t) then .error 4 else .ok (t, pl, k2)
/-- How an Add ends: the snapshot, whether it is whole, the error; what is gathered. -/
structure Ga where
  s : Sn
  d : Bool
  e : Nat
  t : Nat
  b : List Nat
def gAdd (t : Nat) (bs : List Nat) (p : List Nat) : Ga := match rdP p with
  | .error x => ⟨sn0, false, x, t, bs⟩
  | .ok (tt, pl, k) => if pl ≠ 0 ∧ (tt ≠ t ∨ pl ≠ bs.length) then ⟨sn0, false, 12, t, bs⟩ else
    let all := (if pl = 0 then [] else bs) ++ p.drop k
    if all.length < tt then ⟨sn0, false, 0, tt, all⟩ else ⟨snOf (snL all), decide (snX (snL all) = 0), snX (snL all), 0, []⟩
theorem gAdd_err {t : Nat} {bs p : List Nat} {x : Nat} (h : rdP p = .error x) : gAdd t bs p = ⟨sn0, false, x, t, bs⟩ := by
  unfold gAdd
  rw [h]
theorem gAdd_stale {t : Nat} {bs p : List Nat} {tt pl k : Nat} (h : rdP p = .ok (tt, pl, k)) (hs : pl ≠ 0 ∧ (tt ≠ t ∨ pl ≠ bs.length)) : gAdd t bs p = ⟨sn0, false, 12, t, bs⟩ := by
  unfold gAdd
  rw [h]
  dsimp only
  rw [if_pos hs]
theorem gAdd_more {t : Nat} {bs p : List Nat} {tt pl k : Nat} (h : rdP p = .ok (tt, pl, k)) (hs : ¬ (pl ≠ 0 ∧ (tt ≠ t ∨ pl ≠ bs.length))) (all : List Nat) (ha : (if pl = 0 then [] else bs) ++ p.drop k = all) (hl : all.length < tt) : gAdd t bs p = ⟨sn0, false, 0, tt, all⟩ := by
  unfold gAdd
  rw [h]
  dsimp only
  rw [if_neg hs, ha, if_pos hl]
theorem gAdd_all {t : Nat} {bs p : List Nat} {tt pl k : Nat} (h : rdP p = .ok (tt, pl, k)) (hs : ¬ (pl ≠ 0 ∧ (tt ≠ t ∨ pl ≠ bs.length))) (all : List Nat) (ha : (if pl = 0 then [] else bs) ++ p.drop k = all) (hl : ¬ all.length < tt) : gAdd t bs p = ⟨snOf (snL all), decide (snX (snL all) = 0), snX (snL all), 0, []⟩ := by
  unfold gAdd
  rw [h]
  dsimp only
  rw [if_neg hs, ha, if_neg hl]
theorem rdP_pos {p : List Nat} {x : Nat} (h : rdP p = .error x) : x ≠ 0 := by
  unfold rdP at h
  cases h1 : takeE p 0 with
  | error y => rw [h1] at h; cases h; exact takeE_pos h1
  | ok q =>
    obtain ⟨t, k1⟩ := q
    rw [h1] at h
    dsimp only at h
    cases h2 : takeE p k1 with
    | error y => rw [h2] at h; cases h; exact takeE_pos h2
    | ok q =>
      obtain ⟨pl, k2⟩ := q
      rw [h2] at h
      dsimp only at h
      split at h
      · cases h; decide
      · split at h
        · cases h; decide
        · cases h
theorem rdP_ok {p : List Nat} {t pl k : Nat} (hp : ∀ c ∈ p, c < 256) (h : rdP p = .ok (t, pl, k)) : k ≤ p.length ∧ t ≤ 32768 ∧ pl + (p.length - k) ≤ t ∧ (p.length - k = 0 → t = 0) := by
  unfold rdP at h
  cases h1 : takeE p 0 with
  | error y => rw [h1] at h; cases h
  | ok q =>
    obtain ⟨t', k1⟩ := q
    rw [h1] at h
    dsimp only at h
    cases h2 : takeE p k1 with
    | error y => rw [h2] at h; cases h
    | ok q =>
      obtain ⟨pl', k2⟩ := q
      rw [h2] at h
      dsimp only at h
      split at h
      · cases h
      · split at h
        · cases h
        · rename_i a b
          cases h
          have := (takeE_leb h2 hp).1
          exact ⟨this, by omega, by omega, fun e => by omega⟩
/-- A piece of one's own making. -/
theorem rdP_piece {l : List Nat} {sz k : Nat} (hl : l.length ≤ 32768) (h0 : 0 < l.length) (hk : k < l.length) (hz : 0 < sz) : rdP (pieceB l sz k) = .ok (l.length, k, (numB l.length).length + (numB k).length) := by
  have e1 : takeE (pieceB l sz k) 0 = .ok (l.length, 0 + (numB l.length).length) := takeE_at (a := []) (b := numB k ++ (l.drop k).take sz) rfl rfl (by omega)
  have e2 : takeE (pieceB l sz k) (0 + (numB l.length).length) = .ok (k, 0 + (numB l.length).length + (numB k).length) := takeE_at (a := numB l.length) (b := (l.drop k).take sz) rfl (by simp) (by omega)
  unfold rdP
  rw [e1]
  dsimp only
  rw [e2]
  dsimp only
  rw [Nat.zero_add]
  have hlen : (pieceB l sz k).length - ((numB l.length).length + (numB k).length) = min sz (l.length - k) := by
    unfold pieceB
    simp only [List.length_append, List.length_take, List.length_drop]
    omega
  rw [if_neg (by omega), if_neg (by rw [hlen]; omega)]
theorem piece_drop (l : List Nat) (sz k : Nat) : (pieceB l sz k).drop ((numB l.length).length + (numB k).length) = (l.drop k).take sz := by
  unfold pieceB
  rw [← List.append_assoc]
  exact List.drop_left' (by rw [List.length_append])
/-- How many pieces there are. -/
def pcN (L sz : Nat) : Nat := (L + sz - 1) / sz
theorem pcN_lt {L sz i : Nat} (hz : 0 < sz) : i < pcN L sz ↔ i * sz < L := by
  unfold pcN
  rw [Nat.lt_iff_add_one_le, Nat.le_div_iff_mul_le hz, Nat.add_mul]
  omega
theorem pcs_rows {l : List Nat} {sz : Nat} (hz : 0 < sz) (h0 : 0 < l.length) : ∀ (m i f : Nat) (b : Bool), pcN l.length sz - i = m → m ≤ f → pcs l sz f (decide (i = 0)) (min (i * sz) l.length) = (List.range' i m).map (fun j => pieceB l sz (j * sz))
  | 0, i, f, b, hm, hf => by
    have hn : ¬ i * sz < l.length := fun h => by have := (pcN_lt hz).2 h; omega
    have hi : decide (i = 0) = false := decide_eq_false (fun e => by subst e; rw [Nat.zero_mul] at hn; omega)
    rw [hi, pcs_end (by omega)]
    rfl
  | m + 1, i, f, b, hm, hf => by
    obtain ⟨f, rfl⟩ : ∃ g, f = g + 1 := ⟨f - 1, by omega⟩
    have hi : i * sz < l.length := (pcN_lt hz).1 (by omega)
    rw [pcs_go (.inl (by omega)), List.range'_succ, List.map_cons]
    have e1 : min (i * sz) l.length = i * sz := by omega
    have e2 : i * sz + min sz (l.length - i * sz) = min ((i + 1) * sz) l.length := by rw [Nat.add_mul]; omega
    rw [e1, e2]
    congr 1
    have := pcs_rows hz h0 m (i + 1) f b (by omega) (by omega)
    rw [show decide (i + 1 = 0) = false from rfl] at this
    exact this
theorem pieces_are {l : List Nat} {sz : Nat} (hz : 0 < sz) (h0 : 0 < l.length) : piecesL l sz = (List.range (pcN l.length sz)).map (fun j => pieceB l sz (j * sz)) := by
  have hp : pcN l.length sz ≤ l.length + 1 := by
    unfold pcN
    have : (l.length + sz - 1) / sz ≤ l.length := by
      rw [Nat.div_le_iff_le_mul_add_pred hz]
      have : l.length ≤ sz * l.length := Nat.le_mul_of_pos_left _ hz
      omega
    omega
  have := pcs_rows hz h0 (pcN l.length sz) 0 (l.length + 1) true (by omega) hp
  rw [show decide ((0 : Nat) = 0) = true from rfl, Nat.zero_mul, Nat.zero_min] at this
  rw [List.range_eq_range']
  exact this
theorem pcN_pos {L sz : Nat} (hz : 0 < sz) (h0 : 0 < L) : 0 < pcN L sz := (pcN_lt hz).2 (by omega)
theorem pcN_le {L sz : Nat} (hz : 0 < sz) : pcN L sz ≤ L := by
  rcases Nat.eq_zero_or_pos (pcN L sz) with h | h
  · omega
  · have h1 := (pcN_lt (L := L) (i := pcN L sz - 1) hz).1 (by omega)
    have h2 : (pcN L sz - 1) * 1 ≤ (pcN L sz - 1) * sz := Nat.mul_le_mul_left _ hz
    omega
/-- One piece more in its turn. -/
theorem gather_next {l : List Nat} {sz i : Nat} (hl : l.length ≤ 32768) (hz : 0 < sz) (hi : i + 1 < pcN l.length sz) (t : Nat) (bs : List Nat) (hb : (i = 0 ∨ (t = l.length ∧ bs = l.take (i * sz)))) :
    gAdd t bs (pieceB l sz (i * sz)) = ⟨sn0, false, 0, l.length, l.take ((i + 1) * sz)⟩ := by
  have h1 := (pcN_lt (L := l.length) hz).1 hi
  have h2 : i * sz < l.length := by rw [Nat.add_mul] at h1; omega
  have hr := rdP_piece (sz := sz) hl (by omega) h2 hz
  have ha : (if i * sz = 0 then [] else bs) ++ (pieceB l sz (i * sz)).drop ((numB l.length).length + (numB (i * sz)).length) = l.take ((i + 1) * sz) := by
    rw [piece_drop]
    rcases hb with rfl | ⟨_, rfl⟩
    · simp
    · rw [show (i + 1) * sz = i * sz + sz by rw [Nat.add_mul, Nat.one_mul], List.take_add]
      split
      · rename_i h; rw [h]; simp
      · rfl
  refine gAdd_more hr (fun q => ?_) _ ha (by rw [List.length_take]; omega)
  rcases hb with rfl | ⟨h3, h4⟩
  · exact q.1 (by simp)
  · rcases q.2 with q | q
    · exact q h3.symm
    · rw [h4, List.length_take] at q; omega
/-- The last one. -/
theorem gather_last {l : List Nat} {sz i : Nat} (hl : l.length ≤ 32768) (hz : 0 < sz) (h0 : 0 < l.length) (hi : i + 1 = pcN l.length sz) (t : Nat) (bs : List Nat) (hb : (i = 0 ∨ (t = l.length ∧ bs = l.take (i * sz)))) :
    gAdd t bs (pieceB l sz (i * sz)) = ⟨snOf (snL l), decide (snX (snL l) = 0), snX (snL l), 0, []⟩ := by
  have h1 : ¬ (i + 1) * sz < l.length := fun h => by have := (pcN_lt hz).2 h; omega
  have h2 : i * sz < l.length := (pcN_lt hz).1 (by omega)
  have hr := rdP_piece (sz := sz) hl (by omega) h2 hz
  have ha : (if i * sz = 0 then [] else bs) ++ (pieceB l sz (i * sz)).drop ((numB l.length).length + (numB (i * sz)).length) = l := by
    rw [piece_drop]
    have e : l.take ((i + 1) * sz) = l := List.take_of_length_le (by omega)
    rw [Nat.add_mul, Nat.one_mul, List.take_add] at e
    rcases hb with rfl | ⟨_, rfl⟩
    · simpa using e
    · split
      · rename_i h; rw [h] at e; simpa [h] using e
      · exact e
  refine gAdd_all hr (fun q => ?_) _ ha (by omega)
  rcases hb with rfl | ⟨h3, h4⟩
  · exact q.1 (by simp)
  · rcases q.2 with q | q
    · exact q h3.symm
    · rw [h4, List.length_take] at q; omega
/-- One out of its turn changes nothing. -/
theorem gather_odd {l : List Nat} {sz i k : Nat} (hl : l.length ≤ 32768) (hz : 0 < sz) (hi : i < pcN l.length sz) (hk : k < pcN l.length sz) (hk0 : k ≠ 0) (hki : k ≠ i) : gAdd l.length (l.take (i * sz)) (pieceB l sz (k * sz)) = ⟨sn0, false, 12, l.length, l.take (i * sz)⟩ := by
  have h1 := (pcN_lt (L := l.length) hz).1 hi
  have h2 := (pcN_lt (L := l.length) hz).1 hk
  refine gAdd_stale (rdP_piece hl (by omega) h2 hz) ⟨fun e => ?_, .inr (fun e => hki ?_)⟩
  · rcases Nat.mul_eq_zero.1 e with e | e
    · exact hk0 e
    · omega
  · rw [List.length_take, Nat.min_eq_left (by omega)] at e
    exact Nat.eq_of_mul_eq_mul_right hz e
end Go.Proofs.YtagncghpfdjkmaaGreatDoor
end
/- Snapshots: what a piece says (written by wip/mksrp.py). -/
section
namespace Go.Proofs.YtagncghpfdjkmaaGreatDoor
open Go.ChangeShapes Go.WideShapes Go.ChangeAt Go.RowKit
set_option linter.unusedVariables false

theorem three_sets {u : World} {j : Nat} {x0 x1 x2 : Value} {T : TypeId} (h : u.heap[j]? = some (.cells #[x0, x1, x2] T (0, 0))) (a0 a1 a2 : Value) : ∃ W, W.heap[j]? = some (.cells #[a0, a1, a2] T (0, 0)) ∧ u.grownBy W (some j) ∧
    ((u.setCell ⟨j, 0, none⟩ a0).setCell ⟨j, 1, none⟩ a1).setCell ⟨j, 2, none⟩ a2 = W := by
  have h1 := heap_setCell_same u j 0 _ T a0 h
  have h2 := heap_setCell_same _ j 1 _ T a1 h1
  have h3 := heap_setCell_same _ j 2 _ T a2 h2
  exact ⟨_, h3, grown_trans (grown_trans (grown_set u j 0 a0) (grown_set _ j 1 a1)) (grown_set _ j 2 a2), rfl⟩
/-- How readPiece ends. -/
def rpRow (a : Option Addr) (n c : Nat) (r : Except Nat (Nat × Nat × Nat)) : Array Value := match r with
  | .error _ => #[.int .i64 0, .int .i64 0, .slice none 0 0]
  | .ok (t, pl, k) => #[.int .i64 (t : Int), .int .i64 (pl : Int), .slice (slp a k c) (n - k) (c - k)]
def rpX (r : Except Nat (Nat × Nat × Nat)) : Nat := match r with
  | .error x => x
  | .ok _ => 0
def RpEnd (p : List Nat) (a : Option Addr) (n c : Nat) (w : World) (e : Ending) (w' : World) : Prop := e = .returned (.tuple #[.agg (rpRow a n c (rdP p)), .int .i64 (rpX (rdP p) : Int)]) ∧ Below w.heap.size w w'
theorem rp_bad {p : List Nat} {a : Option Addr} {n c : Nat} {w W : World} {x : Nat} (h : rdP p = .error x) (u : Below w.heap.size w W) : RpEnd p a n c w (.returned (.tuple #[.agg #[.int .i64 0, .int .i64 0, .slice none 0 0], .int .i64 (x : Int)])) W := by
  unfold RpEnd
  rw [h]
  exact ⟨rfl, u⟩
theorem rp_ok {p : List Nat} {a : Option Addr} {n c t pl k : Nat} {w W : World} (h : rdP p = .ok (t, pl, k)) (u : Below w.heap.size w W) : RpEnd p a n c w (.returned (.tuple #[.agg #[.int .i64 (t : Int), .int .i64 (pl : Int), .slice (slp a k c) (n - k) (c - k)], .int .i64 0])) W := by
  unfold RpEnd
  rw [h]
  exact ⟨rfl, u⟩
set_option maxRecDepth 20000 in
set_option maxHeartbeats 8000000 in
theorem readPiece_calls (a : Option Addr) (n c : Nat) (p : List Nat) (w : World) (hn : p.length = n) (hc : n ≤ c) (hx : n ≤ 140737488355328) (hb : BytesAt w a p) : Calls Tryz.prog 94 #[.slice a n c] w (RpEnd p a n c w) := by
  have X1 := hide (heap_new w (.cells #[.int .i64 0, .int .i64 0, .slice none 0 0] 143))
  have B1 := hide (show Below w.heap.size w (w.alloc (.cells #[.int .i64 0, .int .i64 0, .slice none 0 0] 143)) from (Below.refl _ _).alloc (Nat.le_refl _) _)
  have HB := hide (hb.later (unhide B1))
  have HN := hide hn
  have HL := hide hb.lt
  clear hb hn
  go_enter Tryz.func94, Tryz.ntmps94
  go_wp2_with fail
  have SZ := hide (show (w.alloc (.cells #[.int .i64 0, .int .i64 0, .slice none 0 0] 143)).heap.size = w.heap.size + 1 by simp)
  generalize w.alloc (.cells #[.int .i64 0, .int .i64 0, .slice none 0 0] 143) = W1 at *
  have KD := hide (show ∀ V, Below W1.heap.size W1 V → V.heap[w.heap.size]? = some (.cells #[.int .i64 0, .int .i64 0, .slice none 0 0] 143 (0, 0)) from fun V u => later_block u (unhide X1))
  have DONE := hide (show ∀ u, Below W1.heap.size W1 u → ∃ W, W.cell? ⟨w.heap.size, 0, none⟩ = some (.int .i64 0) ∧ W.cell? ⟨w.heap.size, 1, none⟩ = some (.int .i64 0) ∧ W.cell? ⟨w.heap.size, 2, none⟩ = some (.slice none 0 0) ∧ Below w.heap.size w W ∧
      ((u.setCell ⟨w.heap.size, 0, none⟩ (.int .i64 0)).setCell ⟨w.heap.size, 1, none⟩ (.int .i64 0)).setCell ⟨w.heap.size, 2, none⟩ (.slice none 0 0) = W from fun u F => by
    obtain ⟨W, hr, gW, hW⟩ := three_sets (unhide KD u F) (.int .i64 0) (.int .i64 0) (.slice none 0 0)
    have hU : Below w.heap.size w u := (unhide B1).trans (F.mono (unhide B1).size)
    exact ⟨W, box_cell hr 0 _ rfl, box_cell hr 1 _ rfl, box_cell hr 2 _ rfl, below_grown hU gW (Nat.le_refl _) hU.size, hW⟩)
  clear X1
  go_at_call 124
  cases ht : takeE p 0 with
  | error x =>
    have hx0 := takeE_pos ht
    have hE := hide (show rdP p = .error x by unfold rdP; rw [ht])
    refine (show Calls Tryz.prog 124 #[.slice a n c, .int .i64 0] W1 _ from takeNum_bad a n c p 0 x W1 (unhide HN) (by simp only [maxLen]; omega) (by omega) (unhide HB) ht).mono ?_
    rintro e V1 ⟨rfl, v1⟩
    have U1 := hide v1
    clear v1 ht
    obtain ⟨W, r0, r1, r2, bW, hW⟩ := unhide DONE V1 (unhide U1)
    have HW := hide hW
    have z0 := box_cell (unhide KD V1 (unhide U1)) 0 _ rfl
    have z1 := box_cell (unhide KD V1 (unhide U1)) 1 _ rfl
    have z2 := box_cell (unhide KD V1 (unhide U1)) 2 _ rfl
    have f0 := mbox_free (unhide KD V1 (unhide U1)) 0
    have f1 := mbox_free (unhide KD V1 (unhide U1)) 1
    have f2 := mbox_free (unhide KD V1 (unhide U1)) 2
    have FF := hide (show RpEnd p a n c w (.returned (.tuple #[.agg #[.int .i64 0, .int .i64 0, .slice none 0 0], .int .i64 ((x : Nat) : Int)])) W from rp_bad (unhide hE) bW)
    have x1 : ¬ ((x : Nat) : Int) = 0 := by omega
    have x2 : (((x : Nat) : Int) == 0) = false := by simp; omega
    generalize ((x : Nat) : Int) = xi at *
    clear hW DONE KD
    go_wp2_with fail
    rw [unhide HW]
    go_wp2
    refine bodyPost_ret (v := .tuple #[.agg #[.int .i64 0, .int .i64 0, .slice none 0 0], .int .i64 xi]) (by simp [results, Tryz.results94, go_sem, r0, r1, r2]) rfl ?_
    exact unhide FF
  | ok r =>
    obtain ⟨t, k1⟩ := r
    have hle := takeE_leb ht (unhide HL)
    refine (show Calls Tryz.prog 124 #[.slice a n c, .int .i64 0] W1 _ from takeNum_ok a n c p 0 t k1 W1 (unhide HN) (by simp only [maxLen]; omega) (by omega) (unhide HB) ht).mono ?_
    rintro e V1 ⟨rfl, v1⟩
    have U1 := hide v1
    have HB1 := hide ((unhide HB).later v1)
    have hk1 : k1 ≤ n := by rw [← unhide HN]; exact hle.1
    have ht40 := hle.2
    clear v1 hle
    go_wp2_with fail
    go_at_call 124
    cases ht2 : takeE p k1 with
    | error x =>
      have hx0 := takeE_pos ht2
      have hE := hide (show rdP p = .error x by unfold rdP; rw [ht]; dsimp only; rw [ht2])
      refine (takeNum_bad a n c p k1 x V1 (unhide HN) (by simp only [maxLen]; omega) (by rw [unhide HN]; exact hk1) (unhide HB1) ht2).mono ?_
      rintro e V2 ⟨rfl, v2⟩
      have U2 := hide ((unhide U1).trans (v2.mono (unhide U1).size))
      clear v2 ht ht2
      obtain ⟨W, r0, r1, r2, bW, hW⟩ := unhide DONE V2 (unhide U2)
      have HW := hide hW
      have z0 := box_cell (unhide KD V2 (unhide U2)) 0 _ rfl
      have z1 := box_cell (unhide KD V2 (unhide U2)) 1 _ rfl
      have z2 := box_cell (unhide KD V2 (unhide U2)) 2 _ rfl
      have f0 := mbox_free (unhide KD V2 (unhide U2)) 0
      have f1 := mbox_free (unhide KD V2 (unhide U2)) 1
      have f2 := mbox_free (unhide KD V2 (unhide U2)) 2
      have FF := hide (show RpEnd p a n c w (.returned (.tuple #[.agg #[.int .i64 0, .int .i64 0, .slice none 0 0], .int .i64 ((x : Nat) : Int)])) W from rp_bad (unhide hE) bW)
      have x1 : ¬ ((x : Nat) : Int) = 0 := by omega
      have x2 : (((x : Nat) : Int) == 0) = false := by simp; omega
      generalize ((x : Nat) : Int) = xi at *
      clear hW DONE KD
      go_wp2_with fail
      rw [unhide HW]
      go_wp2
      refine bodyPost_ret (v := .tuple #[.agg #[.int .i64 0, .int .i64 0, .slice none 0 0], .int .i64 xi]) (by simp [results, Tryz.results94, go_sem, r0, r1, r2]) rfl ?_
      exact unhide FF
    | ok r2 =>
      obtain ⟨pl, k2⟩ := r2
      have hle := takeE_leb ht2 (unhide HL)
      refine (takeNum_ok a n c p k1 pl k2 V1 (unhide HN) (by simp only [maxLen]; omega) (by rw [unhide HN]; exact hk1) (unhide HB1) ht2).mono ?_
      rintro e V2 ⟨rfl, v2⟩
      have U2 := hide ((unhide U1).trans (v2.mono (unhide U1).size))
      have hk2 : k2 ≤ n := by rw [← unhide HN]; exact hle.1
      have hp40 := hle.2
      have HR := hide (show rdP p = (if 32768 < t then .error 6 else if t < pl + (n - k2) ∨ (n - k2 = 0 ∧ 0 < t) then .error 4 else .ok (t, pl, k2)) by unfold rdP; rw [ht]; dsimp only; rw [ht2, ← unhide HN])
      clear v2 hle ht ht2
      by_cases h6 : 32768 < t
      · have h6' : (32768 : Int) < (t : Int) := by omega
        have hE := hide (show rdP p = .error 6 by rw [unhide HR, if_pos h6])
        obtain ⟨W, r0, r1, r2, bW, hW⟩ := unhide DONE V2 (unhide U2)
        have HW := hide hW
        have z0 := box_cell (unhide KD V2 (unhide U2)) 0 _ rfl
        have z1 := box_cell (unhide KD V2 (unhide U2)) 1 _ rfl
        have z2 := box_cell (unhide KD V2 (unhide U2)) 2 _ rfl
        have f0 := mbox_free (unhide KD V2 (unhide U2)) 0
        have f1 := mbox_free (unhide KD V2 (unhide U2)) 1
        have f2 := mbox_free (unhide KD V2 (unhide U2)) 2
        have FF := hide (show RpEnd p a n c w (.returned (.tuple #[.agg #[.int .i64 0, .int .i64 0, .slice none 0 0], .int .i64 6])) W from rp_bad (x := 6) (unhide hE) bW)
        clear hW DONE KD
        go_wp2_with fail
        rw [unhide HW]
        go_wp2
        refine bodyPost_ret (v := .tuple #[.agg #[.int .i64 0, .int .i64 0, .slice none 0 0], .int .i64 6]) (by simp [results, Tryz.results94, go_sem, r0, r1, r2]) rfl ?_
        exact unhide FF
      · have h6' : ¬ (32768 : Int) < (t : Int) := by omega
        have hsl := run_slice_l8 a n c k2 hk2
        have RE := hide (show ∀ W, rdP p = .ok (t, pl, k2) → Below w.heap.size w W → RpEnd p a n c w (.returned (.tuple #[.agg #[.int .i64 (t : Int), .int .i64 (pl : Int), .slice (slp a k2 c) (n - k2) (c - k2)], .int .i64 0])) W from fun W h u => rp_ok h u)
        have HR2 := hide (show rdP p = (if t < pl + (n - k2) ∨ (n - k2 = 0 ∧ 0 < t) then .error 4 else .ok (t, pl, k2)) by rw [unhide HR, if_neg h6])
        clear HR
        generalize slp a k2 c = ps at *
        have hmb : n - k2 ≤ 140737488355328 := by omega
        generalize n - k2 = m at *
        generalize c - k2 = cs at *
        have A8 := hide (show Below V2.heap.size V2 (V2.alloc (.cells #[.int .i64 (t : Int), .int .i64 (pl : Int), .slice ps m cs] 143)) from (Below.refl _ _).alloc (Nat.le_refl _) _)
        have X8 := hide (heap_new V2 (.cells #[.int .i64 (t : Int), .int .i64 (pl : Int), .slice ps m cs] 143))
        have U8 := hide ((unhide U2).trans ((unhide A8).mono (unhide U2).size))
        have c2 := box_cell (unhide X8) 2 _ rfl
        have qw : IntKind.i64.wrap ((t : Int) - (m : Int)) = (t : Int) - (m : Int) := by rw [IntKind.wrap_i64]; omega
        by_cases hy : t < pl + m
        · as_aux_lemma =>
          have y1 : (t : Int) - (m : Int) < (pl : Int) := by omega
          have hE := hide (show rdP p = .error 4 by rw [unhide HR2, if_pos (.inl hy)])
          obtain ⟨W, r0, r1, r2, bW, hW⟩ := unhide DONE (V2.alloc (.cells #[.int .i64 (t : Int), .int .i64 (pl : Int), .slice ps m cs] 143)) (unhide U8)
          have HW := hide hW
          have z0 := box_cell (unhide KD (V2.alloc (.cells #[.int .i64 (t : Int), .int .i64 (pl : Int), .slice ps m cs] 143)) (unhide U8)) 0 _ rfl
          have z1 := box_cell (unhide KD (V2.alloc (.cells #[.int .i64 (t : Int), .int .i64 (pl : Int), .slice ps m cs] 143)) (unhide U8)) 1 _ rfl
          have z2 := box_cell (unhide KD (V2.alloc (.cells #[.int .i64 (t : Int), .int .i64 (pl : Int), .slice ps m cs] 143)) (unhide U8)) 2 _ rfl
          have f0 := mbox_free (unhide KD (V2.alloc (.cells #[.int .i64 (t : Int), .int .i64 (pl : Int), .slice ps m cs] 143)) (unhide U8)) 0
          have f1 := mbox_free (unhide KD (V2.alloc (.cells #[.int .i64 (t : Int), .int .i64 (pl : Int), .slice ps m cs] 143)) (unhide U8)) 1
          have f2 := mbox_free (unhide KD (V2.alloc (.cells #[.int .i64 (t : Int), .int .i64 (pl : Int), .slice ps m cs] 143)) (unhide U8)) 2
          have FF := hide (show RpEnd p a n c w (.returned (.tuple #[.agg #[.int .i64 0, .int .i64 0, .slice none 0 0], .int .i64 4])) W from rp_bad (x := 4) (unhide hE) bW)
          clear hW DONE KD
          go_wp2_with fail
          rw [unhide HW]
          go_wp2
          refine bodyPost_ret (v := .tuple #[.agg #[.int .i64 0, .int .i64 0, .slice none 0 0], .int .i64 4]) (by simp [results, Tryz.results94, go_sem, r0, r1, r2]) rfl ?_
          exact unhide FF
        · have y1 : ¬ (t : Int) - (m : Int) < (pl : Int) := by omega
          by_cases hm0 : m = 0
          · by_cases ht0 : 0 < t
            · as_aux_lemma =>
              have y2 : (m : Int) = 0 := by omega
              have y3 : ((m : Int) == 0) = true := by simp; omega
              have y4 : (0 : Int) < (t : Int) := by omega
              have hE := hide (show rdP p = .error 4 by rw [unhide HR2, if_pos (.inr ⟨hm0, ht0⟩)])
              clear y2 hm0 hy hmb ht0
              obtain ⟨W, r0, r1, r2, bW, hW⟩ := unhide DONE (V2.alloc (.cells #[.int .i64 (t : Int), .int .i64 (pl : Int), .slice ps m cs] 143)) (unhide U8)
              have HW := hide hW
              have z0 := box_cell (unhide KD (V2.alloc (.cells #[.int .i64 (t : Int), .int .i64 (pl : Int), .slice ps m cs] 143)) (unhide U8)) 0 _ rfl
              have z1 := box_cell (unhide KD (V2.alloc (.cells #[.int .i64 (t : Int), .int .i64 (pl : Int), .slice ps m cs] 143)) (unhide U8)) 1 _ rfl
              have z2 := box_cell (unhide KD (V2.alloc (.cells #[.int .i64 (t : Int), .int .i64 (pl : Int), .slice ps m cs] 143)) (unhide U8)) 2 _ rfl
              have f0 := mbox_free (unhide KD (V2.alloc (.cells #[.int .i64 (t : Int), .int .i64 (pl : Int), .slice ps m cs] 143)) (unhide U8)) 0
              have f1 := mbox_free (unhide KD (V2.alloc (.cells #[.int .i64 (t : Int), .int .i64 (pl : Int), .slice ps m cs] 143)) (unhide U8)) 1
              have f2 := mbox_free (unhide KD (V2.alloc (.cells #[.int .i64 (t : Int), .int .i64 (pl : Int), .slice ps m cs] 143)) (unhide U8)) 2
              have FF := hide (show RpEnd p a n c w (.returned (.tuple #[.agg #[.int .i64 0, .int .i64 0, .slice none 0 0], .int .i64 4])) W from rp_bad (x := 4) (unhide hE) bW)
              clear hW DONE KD
              go_wp2_with fail
              rw [unhide HW]
              go_wp2
              refine bodyPost_ret (v := .tuple #[.agg #[.int .i64 0, .int .i64 0, .slice none 0 0], .int .i64 4]) (by simp [results, Tryz.results94, go_sem, r0, r1, r2]) rfl ?_
              exact unhide FF
            · as_aux_lemma =>
              have y3 : ((m : Int) == 0) = true := by simp; omega
              have y4 : ¬ (0 : Int) < (t : Int) := by omega
              have hE := hide (show rdP p = .ok (t, pl, k2) by rw [unhide HR2, if_neg (by omega)])
              clear hm0 ht0 hmb hy
              obtain ⟨W, hr, gW, hW⟩ := three_sets (unhide KD (V2.alloc (.cells #[.int .i64 (t : Int), .int .i64 (pl : Int), .slice ps m cs] 143)) (unhide U8)) (.int .i64 (t : Int)) (.int .i64 (pl : Int)) (.slice ps m cs)
              have HW := hide hW
              have y0' := box_cell hr 0 _ rfl
              have y1' := box_cell hr 1 _ rfl
              have y2' := box_cell hr 2 _ rfl
              have z0 := box_cell (unhide KD (V2.alloc (.cells #[.int .i64 (t : Int), .int .i64 (pl : Int), .slice ps m cs] 143)) (unhide U8)) 0 _ rfl
              have z1 := box_cell (unhide KD (V2.alloc (.cells #[.int .i64 (t : Int), .int .i64 (pl : Int), .slice ps m cs] 143)) (unhide U8)) 1 _ rfl
              have z2 := box_cell (unhide KD (V2.alloc (.cells #[.int .i64 (t : Int), .int .i64 (pl : Int), .slice ps m cs] 143)) (unhide U8)) 2 _ rfl
              have f0 := mbox_free (unhide KD (V2.alloc (.cells #[.int .i64 (t : Int), .int .i64 (pl : Int), .slice ps m cs] 143)) (unhide U8)) 0
              have f1 := mbox_free (unhide KD (V2.alloc (.cells #[.int .i64 (t : Int), .int .i64 (pl : Int), .slice ps m cs] 143)) (unhide U8)) 1
              have f2 := mbox_free (unhide KD (V2.alloc (.cells #[.int .i64 (t : Int), .int .i64 (pl : Int), .slice ps m cs] 143)) (unhide U8)) 2
              have c0 := box_cell (unhide X8) 0 _ rfl
              have c1 := box_cell (unhide X8) 1 _ rfl
              have hU : Below w.heap.size w (V2.alloc (.cells #[.int .i64 (t : Int), .int .i64 (pl : Int), .slice ps m cs] 143)) := (unhide B1).trans ((unhide U8).mono (unhide B1).size)
              have FF := hide (unhide RE W (unhide hE) (below_grown hU gW (Nat.le_refl _) hU.size))
              clear hW hr gW hU DONE KD RE
              go_wp2_with fail
              rw [unhide HW]
              go_wp2
              refine bodyPost_ret (v := .tuple #[.agg #[.int .i64 (t : Int), .int .i64 (pl : Int), .slice ps m cs], .int .i64 0]) (by simp [results, Tryz.results94, go_sem, y0', y1', y2']) rfl ?_
              exact unhide FF
          · as_aux_lemma =>
            have y2 : ¬ (m : Int) = 0 := by omega
            have y3 : ((m : Int) == 0) = false := by simp; omega
            have hE := hide (show rdP p = .ok (t, pl, k2) by rw [unhide HR2, if_neg (by omega)])
            obtain ⟨W, hr, gW, hW⟩ := three_sets (unhide KD (V2.alloc (.cells #[.int .i64 (t : Int), .int .i64 (pl : Int), .slice ps m cs] 143)) (unhide U8)) (.int .i64 (t : Int)) (.int .i64 (pl : Int)) (.slice ps m cs)
            have HW := hide hW
            have y0' := box_cell hr 0 _ rfl
            have y1' := box_cell hr 1 _ rfl
            have y2' := box_cell hr 2 _ rfl
            have z0 := box_cell (unhide KD (V2.alloc (.cells #[.int .i64 (t : Int), .int .i64 (pl : Int), .slice ps m cs] 143)) (unhide U8)) 0 _ rfl
            have z1 := box_cell (unhide KD (V2.alloc (.cells #[.int .i64 (t : Int), .int .i64 (pl : Int), .slice ps m cs] 143)) (unhide U8)) 1 _ rfl
            have z2 := box_cell (unhide KD (V2.alloc (.cells #[.int .i64 (t : Int), .int .i64 (pl : Int), .slice ps m cs] 143)) (unhide U8)) 2 _ rfl
            have f0 := mbox_free (unhide KD (V2.alloc (.cells #[.int .i64 (t : Int), .int .i64 (pl : Int), .slice ps m cs] 143)) (unhide U8)) 0
            have f1 := mbox_free (unhide KD (V2.alloc (.cells #[.int .i64 (t : Int), .int .i64 (pl : Int), .slice ps m cs] 143)) (unhide U8)) 1
            have f2 := mbox_free (unhide KD (V2.alloc (.cells #[.int .i64 (t : Int), .int .i64 (pl : Int), .slice ps m cs] 143)) (unhide U8)) 2
            have c0 := box_cell (unhide X8) 0 _ rfl
            have c1 := box_cell (unhide X8) 1 _ rfl
            have hU : Below w.heap.size w (V2.alloc (.cells #[.int .i64 (t : Int), .int .i64 (pl : Int), .slice ps m cs] 143)) := (unhide B1).trans ((unhide U8).mono (unhide B1).size)
            have FF := hide (unhide RE W (unhide hE) (below_grown hU gW (Nat.le_refl _) hU.size))
            clear hW hr gW hU DONE KD RE
            go_wp2_with fail
            rw [unhide HW]
            go_wp2
            refine bodyPost_ret (v := .tuple #[.agg #[.int .i64 (t : Int), .int .i64 (pl : Int), .slice ps m cs], .int .i64 0]) (by simp [results, Tryz.results94, go_sem, y0', y1', y2']) rfl ?_
            exact unhide FF
end Go.Proofs.YtagncghpfdjkmaaGreatDoor
end
/- A snapshot that came in, opened, with what its rows may weigh (open_snapS). -/
section
namespace Go.Proofs.YtagncghpfdjkmaaGreatDoor
open Go.ChangeShapes Go.WideShapes Go.ChangeAt Go.RowKit
set_option linter.unusedVariables false

/-- What its rows may weigh. -/
structure SnS (s : Sn) (h : SnH) : Prop where
  v : s.v.length * 8 ≤ 140737488351232
  l : s.l.length * 8 ≤ 140737488351232
  d : h.dc ≤ 140737488355328
  vz : h.va = none → h.vc = 0
  lz : h.la = none → h.lc = 0
end Go.Proofs.YtagncghpfdjkmaaGreatDoor
end
