/- Rows of bytes that are the same. -/
import Derived.Test.YtagncghpfdjkmaaGreatDoorB15
import Derived.Deep.QuietTactic
import Derived.BigQuiet
import Derived.Test.YtagncghpfdjkmaaGreatDoorB25
import Derived.Test.YtagncghpfdjkmaaGreatDoorB26
import Derived.Test.YtagncghpfdjkmaaGreatDoorB16
import Derived.Test.YtagncghpfdjkmaaGreatDoorB07
import Derived.Lib.SmallJoins
import Derived.Test.YtagncghpfdjkmaaGreatDoorB11
import Derived.Test.YtagncghpfdjkmaaGreatDoorB18
import Derived.Test.YtagncghpfdjkmaaGreatDoorB13
section
namespace Go.Proofs.YtagncghpfdjkmaaGreatDoor
open Go.ChangeShapes Go.WideShapes Go.ChangeAt Go.RowKit
set_option linter.unusedVariables false

/-- Rows of bytes as they lie in memory. -/
def RowsAt (w : World) (sp : Option Addr) (hs : List (List Nat)) : Prop :=
  ∀ i, i < hs.length → ∃ b off p c, sp = some ⟨b, off, none⟩ ∧ w.cell? ⟨b, off + i, none⟩ = some (.slice p (hs.getD i []).length c) ∧ BytesAt w p (hs.getD i [])
theorem OwnS.rows {base : Nat} {w : World} {sp : Option Addr} {n c : Nat} {hs : List (List Nat)} (h : OwnS base w (.slice sp n c) hs) : RowsAt w sp hs := by
  intro i hi
  obtain ⟨cs, ho, hc⟩ := h.ex
  obtain ⟨p, c', h1, h2⟩ := hc i hi
  rcases ho.2 with ⟨_, h0⟩ | ⟨g, cap, cur, hv, _, hg, _, _, _, ht⟩
  · omega
  · simp only [Value.slice.injEq] at hv
    obtain ⟨rfl, _, rfl⟩ := hv
    refine ⟨g, 0, p, c', rfl, ?_, h2.bytes⟩
    rw [cell_of_row w g (0 + i) cur _ _ hg, Nat.zero_add]
    rw [← ht, List.getElem?_take, if_pos (by omega)] at h1
    rw [← Array.getElem?_toList]
    exact h1
theorem RowsAt.later {w w' : World} {sp : Option Addr} {hs : List (List Nat)} (h : RowsAt w sp hs) (hb : Below w.heap.size w w') : RowsAt w' sp hs := by
  intro i hi
  obtain ⟨b, off, p, c, h1, h2, h3⟩ := h i hi
  exact ⟨b, off, p, c, h1, cell_later hb h2, h3.later hb⟩

set_option maxHeartbeats 1000000 in
theorem sameRows_calls (sp sp' : Option Addr) (c c' : Nat) (hs : List (List Nat)) (w : World) (hl : hs.length ≤ maxLen) (hr : RowsAt w sp hs) (hr' : RowsAt w sp' hs) :
    Calls Tryz.prog 42 #[.slice sp hs.length c, .slice sp' hs.length c'] w fun e w' => e = .returned (.bool true) ∧ Below w.heap.size w w' := by
  unfold maxLen at hl
  have HR := hide hr
  have HR' := hide hr'
  clear hr hr'
  go_enter Tryz.func42, Tryz.ntmps42
  go_wp2
  go_loopw [5] (fun i wr => ∃ k : Nat, k ≤ hs.length ∧ i = .int .i64 (k : Int) ∧ Hid (Below w.heap.size w wr)) (fun i _ => hs.length - (intOf i).toNat)
  case atStart => exact ⟨0, by omega, rfl, Below.refl _ _⟩
  case round =>
    obtain ⟨k, hk, rfl, hbw⟩ := hrel
    by_cases hlt : k < hs.length
    · obtain ⟨b, off, p, pc, rfl, h1, hb1⟩ := (unhide HR).later (unhide hbw) k hlt
      obtain ⟨b', off', p', pc', rfl, h1', hb1'⟩ := (unhide HR').later (unhide hbw) k hlt
      have s1 := fun nq => run_string8 (w := wr.drewN nq) (c := pc) (hs.getD k []).length rfl ⟨hb1.lt, hb1.cell⟩
      have s1' := fun nq => run_string8 (w := wr.drewN nq) (c := pc') (hs.getD k []).length rfl ⟨hb1'.lt, hb1'.cell⟩
      clear hb1 hb1'
      have k0 : (0 : Int) ≤ (k : Int) := by omega
      have k1 : (k : Int) < (hs.length : Int) := by omega
      generalize (hs.getD k []).length = n at *
      generalize strOf (hs.getD k []) = st at *
      go_wp2
      go_quiet (fail)
      go_wp2
      exact ⟨⟨k + 1, by omega, by go_num, _root_.Go.below_drewN (unhide hbw) _⟩, by simp [intOf]; omega⟩
    · go_wp2
      go_ret
      exact ⟨rfl, unhide hbw⟩
end Go.Proofs.YtagncghpfdjkmaaGreatDoor
end
/- Snapshots: SnapCutsUp's walk. -/
section
namespace Go.Proofs.YtagncghpfdjkmaaGreatDoor
open Go.ChangeShapes Go.WideShapes Go.ChangeAt Go.RowKit
set_option linter.unusedVariables false

theorem pcs_len (l : List Nat) (sz : Nat) : ∀ (f : Nat) (b : Bool) (k : Nat), (pcs l sz f b k).length ≤ f
  | 0, _, _ => by simp [pcs]
  | f + 1, b, k => by
    rw [pcs]
    split
    · have := pcs_len l sz f false (k + min sz (l.length - k))
      rw [List.length_cons]
      omega
    · simp
/-- The error, and the pieces (none with an error). -/
def pcX (l : List Nat) (z : Int) : Int := if z < 1 then 2 else if 32768 < l.length then 6 else 0
def pcR (l : List Nat) (z : Int) : List (List Nat) := if z < 1 then [] else if 32768 < l.length then [] else piecesL l z.toNat
theorem pcR_len (l : List Nat) (z : Int) : (pcR l z).length ≤ 32769 := by
  unfold pcR
  split
  · simp
  · split
    · simp
    · have := pcs_len l z.toNat (l.length + 1) true 0
      unfold piecesL
      omega
theorem pc_uni {l : List Nat} {z : Int} {w w' : World} {e : Ending} (h : PcEnd l z w e w') : ∃ sp c, e = .returned (.tuple #[.slice sp (pcR l z).length c, .int .i64 (pcX l z)]) ∧ RowsAt w' sp (pcR l z) ∧ Below w.heap.size w w' := by
  obtain ⟨u, ⟨h1, rfl⟩ | ⟨h1, h2, rfl⟩ | ⟨h1, h2, v, rfl, ho⟩⟩ := h
  · have e1 : pcX l z = 2 := by unfold pcX; rw [if_pos h1]
    have e2 : pcR l z = [] := by unfold pcR; rw [if_pos h1]
    rw [e1, e2]
    exact ⟨none, 0, rfl, (fun i hi => by cases hi), u⟩
  · have e1 : pcX l z = 6 := by unfold pcX; rw [if_neg (by omega), if_pos h2]
    have e2 : pcR l z = [] := by unfold pcR; rw [if_neg (by omega), if_pos h2]
    rw [e1, e2]
    exact ⟨none, 0, rfl, (fun i hi => by cases hi), u⟩
  · have e1 : pcX l z = 0 := by unfold pcX; rw [if_neg (by omega), if_neg (by omega)]
    have e2 : pcR l z = piecesL l z.toNat := by unfold pcR; rw [if_neg (by omega), if_neg (by omega)]
    rw [e1, e2]
    obtain ⟨sp, c, rfl⟩ := ho.form
    exact ⟨sp, c, rfl, ho.rows, u⟩
end Go.Proofs.YtagncghpfdjkmaaGreatDoor
namespace Go.Proofs.YtagncghpfdjkmaaGreatDoor.snapCutsUp
open Go.ChangeShapes Go.WideShapes Go.ChangeAt Go.RowKit
set_option linter.unusedVariables false
set_option maxHeartbeats 8000000 in
theorem walk0 (a0 : Option Addr) (c0 : Nat) (l0 : List Nat) (z : Int) (w : World) (hc0 : l0.length ≤ c0) (hm0 : c0 ≤ 140737488355328) (hb0 : BytesAt w a0 l0) (hz0 : a0 = none → c0 = 0) (hzb : -9223372036854775808 ≤ z ∧ z ≤ 9223372036854775807) (hTz : Tz w) :
    Calls Tryz.prog 11 #[.slice a0 l0.length c0, .int .i64 z] w fun e w' => e = .returned (.bool true) ∧ Below w.heap.size w w' := by
  have TZ := hide hTz
  obtain ⟨rows, hrows⟩ : ∃ rows, pcR l0 z = rows := ⟨_, rfl⟩
  obtain ⟨xe, hxe⟩ : ∃ xe, pcX l0 z = xe := ⟨_, rfl⟩
  have RL := hide (show rows.length ≤ maxLen by rw [← hrows]; have := pcR_len l0 z; simp only [maxLen]; omega)
  have P1 := hide (show Calls Tryz.prog 40 #[.slice a0 l0.length c0, .int .i64 z] w (fun e w' => ∃ sp c, e = .returned (.tuple #[.slice sp rows.length c, .int .i64 xe]) ∧ RowsAt w' sp rows ∧ Below w.heap.size w w') from (pieces_calls a0 l0.length c0 l0 z w rfl hc0 hm0 hb0 hz0 hzb.2).mono (by
    intro e W h
    rw [← hrows, ← hxe]
    exact pc_uni h))
  have P2 := hide (show ∀ V, Below w.heap.size w V → Calls Tryz.prog 41 #[.slice a0 l0.length c0, .int .i64 z] V (fun e w' => ∃ sp c, e = .returned (.tuple #[.slice sp rows.length c, .int .i64 xe]) ∧ RowsAt w' sp rows ∧ Below V.heap.size V w') from fun V u => (rpieces_calls a0 l0.length c0 l0 z V rfl hc0 hm0 (hb0.later u) hz0 hzb.2).mono (by
    intro e W h
    rw [← hrows, ← hxe]
    exact pc_uni h))
  generalize hn0 : l0.length = n0 at *
  clear hb0 hz0 hTz hrows hxe hn0
  by_cases h1 : 2000 < n0
  · by_cases h2 : z < 16
    · by_cases h3 : 0 < z
      · have y1 : (2000 : Int) < (n0 : Int) := by omega
        go_enter Tryz.func11, Tryz.ntmps11
        go_wp2_with fail
        go_at_call 17
        refine (live7_calls _ (unhide TZ)).mono ?_
        rintro e V2 ⟨rfl, v2⟩
        go_wp2
        go_ret
        exact ⟨rfl, v2⟩
      · have y1 : (2000 : Int) < (n0 : Int) := by omega
        go_enter Tryz.func11, Tryz.ntmps11
        go_wp2_with fail
        go_at_call 40
        refine (unhide P1).mono ?_
        rintro e V1 ⟨sp1, c1, rfl, r1, v1⟩
        have R1 := hide r1
        have U1 := hide v1
        clear r1 v1
        go_wp2_with fail
        go_at_call 41
        refine (unhide P2 _ (unhide U1)).mono ?_
        rintro e V2 ⟨sp2, c2, rfl, r2, v2⟩
        have R2 := hide r2
        have R1 := hide ((unhide R1).later v2)
        have U2 := hide ((unhide U1).trans (v2.mono (unhide U1).size))
        clear r2 v2
        go_wp2_with fail
        go_at_call 17
        refine (live7_calls _ ((unhide TZ).later (unhide U2))).mono ?_
        rintro e V3 ⟨rfl, v3⟩
        have SC := hide (sameRows_calls sp1 sp2 c1 c2 rows V3 (unhide RL) ((unhide R1).later v3) ((unhide R2).later v3))
        have U3 := hide ((unhide U2).trans (v3.mono (unhide U2).size))
        have q1 : (xe == xe) = true := by simp
        clear v3
        go_wp2_with fail
        go_at_call 42
        refine (unhide SC).mono ?_
        rintro e V4 ⟨rfl, v4⟩
        have FF := hide ((unhide U3).trans (v4.mono (unhide U3).size))
        clear v4 SC
        go_wp2
        go_ret
        exact ⟨by first | rfl | simp, unhide FF⟩
    · have y1 : (2000 : Int) < (n0 : Int) := by omega
      go_enter Tryz.func11, Tryz.ntmps11
      go_wp2_with fail
      go_at_call 40
      refine (unhide P1).mono ?_
      rintro e V1 ⟨sp1, c1, rfl, r1, v1⟩
      have R1 := hide r1
      have U1 := hide v1
      clear r1 v1
      go_wp2_with fail
      go_at_call 41
      refine (unhide P2 _ (unhide U1)).mono ?_
      rintro e V2 ⟨sp2, c2, rfl, r2, v2⟩
      have R2 := hide r2
      have R1 := hide ((unhide R1).later v2)
      have U2 := hide ((unhide U1).trans (v2.mono (unhide U1).size))
      clear r2 v2
      go_wp2_with fail
      go_at_call 17
      refine (live7_calls _ ((unhide TZ).later (unhide U2))).mono ?_
      rintro e V3 ⟨rfl, v3⟩
      have SC := hide (sameRows_calls sp1 sp2 c1 c2 rows V3 (unhide RL) ((unhide R1).later v3) ((unhide R2).later v3))
      have U3 := hide ((unhide U2).trans (v3.mono (unhide U2).size))
      have q1 : (xe == xe) = true := by simp
      clear v3
      go_wp2_with fail
      go_at_call 42
      refine (unhide SC).mono ?_
      rintro e V4 ⟨rfl, v4⟩
      have FF := hide ((unhide U3).trans (v4.mono (unhide U3).size))
      clear v4 SC
      go_wp2
      go_ret
      exact ⟨by first | rfl | simp, unhide FF⟩
  · have y1 : ¬ (2000 : Int) < (n0 : Int) := by omega
    go_enter Tryz.func11, Tryz.ntmps11
    go_wp2_with fail
    go_at_call 40
    refine (unhide P1).mono ?_
    rintro e V1 ⟨sp1, c1, rfl, r1, v1⟩
    have R1 := hide r1
    have U1 := hide v1
    clear r1 v1
    go_wp2_with fail
    go_at_call 41
    refine (unhide P2 _ (unhide U1)).mono ?_
    rintro e V2 ⟨sp2, c2, rfl, r2, v2⟩
    have R2 := hide r2
    have R1 := hide ((unhide R1).later v2)
    have U2 := hide ((unhide U1).trans (v2.mono (unhide U1).size))
    clear r2 v2
    go_wp2_with fail
    go_at_call 17
    refine (live7_calls _ ((unhide TZ).later (unhide U2))).mono ?_
    rintro e V3 ⟨rfl, v3⟩
    have SC := hide (sameRows_calls sp1 sp2 c1 c2 rows V3 (unhide RL) ((unhide R1).later v3) ((unhide R2).later v3))
    have U3 := hide ((unhide U2).trans (v3.mono (unhide U2).size))
    have q1 : (xe == xe) = true := by simp
    clear v3
    go_wp2_with fail
    go_at_call 42
    refine (unhide SC).mono ?_
    rintro e V4 ⟨rfl, v4⟩
    have FF := hide ((unhide U3).trans (v4.mono (unhide U3).size))
    clear v4 SC
    go_wp2
    go_ret
    exact ⟨by first | rfl | simp, unhide FF⟩
end Go.Proofs.YtagncghpfdjkmaaGreatDoor.snapCutsUp
end
/- A snapshot that came in, opened. -/
section
namespace Go.Proofs.YtagncghpfdjkmaaGreatDoor
open Go.ChangeShapes Go.WideShapes Go.ChangeAt Go.RowKit
set_option linter.unusedVariables false

theorem list2s {α : Type} {l : List α} (h : l.length = 2) : ∃ c0 c1, l = [c0, c1] := by
  match l, h with
  | [c0, c1], _ => exact ⟨c0, c1, rfl⟩
theorem list3s {α : Type} {l : List α} (h : l.length = 3) : ∃ c0 c1 c2, l = [c0, c1, c2] := by
  match l, h with
  | [c0, c1, c2], _ => exact ⟨c0, c1, c2, rfl⟩
theorem list5s {α : Type} {l : Array α} (h : l.size = 5) : ∃ c0 c1 c2 c3 c4, l = #[c0, c1, c2, c3, c4] := by
  match l, h with
  | ⟨[c0, c1, c2, c3, c4]⟩, _ => exact ⟨c0, c1, c2, c3, c4, rfl⟩
set_option maxRecDepth 20000 in
theorem snap_open {H : Type} {enc : TypeId × Value → H} {W : World} {n : Nat} {v0 v1 v2 v3 v4 : Value} {y : DataW H × List MemPlace}
    (h2 : DataW.trod enc Tryz.prog W 0 (fun _ => true) true n 29 [v0, v1, v2, v3, v4] = some y) :
    ∃ (s : Sn) (h : SnH), v0 = .int .i64 s.i ∧ v1 = .int .i64 s.t ∧ v2 = .slice h.va s.v.length h.vc ∧ v3 = .slice h.la s.l.length h.lc ∧ v4 = .slice h.dp s.d.length h.dc ∧ SnAt W s h := by
  obtain ⟨xs, n', _, _, _, hx, hfs⟩ := DataW.trod_struct Tryz.underlying29 h2
  obtain ⟨y0, y1, y2, rfl⟩ := list3s (show xs.length = 3 from hx)
  have tm : DataW.trod enc Tryz.prog W 0 (fun _ => true) true n' 23 [v0, v1] = some y0 := hfs 0 _ rfl
  have tb : DataW.trod enc Tryz.prog W 0 (fun _ => true) true n' 26 [v2, v3] = some y1 := hfs 1 _ rfl
  have t4 : DataW.trod enc Tryz.prog W 0 (fun _ => true) true n' 27 [v4] = some y2 := hfs 2 _ rfl
  obtain ⟨xs, n1, _, _, _, hx, hfm⟩ := DataW.trod_struct Tryz.underlying23 tm
  obtain ⟨z0, z1, rfl⟩ := list2s (show xs.length = 2 from hx)
  obtain ⟨k, e0, _, w0⟩ := DataW.trod_int Tryz.underlying3 (show DataW.trod enc Tryz.prog W 0 (fun _ => true) true n1 3 [v0] = some z0 from hfm 0 _ rfl)
  obtain ⟨j, e1, _, w1⟩ := DataW.trod_int Tryz.underlying3 (show DataW.trod enc Tryz.prog W 0 (fun _ => true) true n1 3 [v1] = some z1 from hfm 1 _ rfl)
  obtain ⟨xs, n2, _, _, _, hx, hfb⟩ := DataW.trod_struct Tryz.underlying26 tb
  obtain ⟨b0, b1, rfl⟩ := list2s (show xs.length = 2 from hx)
  have t2 : DataW.trod enc Tryz.prog W 0 (fun _ => true) true n2 24 [v2] = some b0 := hfb 0 _ rfl
  have t3 : DataW.trod enc Tryz.prog W 0 (fun _ => true) true n2 24 [v3] = some b1 := hfb 1 _ rfl
  obtain ⟨va, vl, vc, e2⟩ := Joins.slice_form Tryz.underlying24 t2
  obtain ⟨la, ll, lc, e3⟩ := Joins.slice_form Tryz.underlying24 t3
  obtain ⟨dp, dl, dc, e4⟩ := Joins.slice_form Tryz.underlying27 t4
  simp only [List.cons.injEq, and_true] at e0 e1 e2 e3 e4
  subst e0 e1 e2 e3 e4
  obtain ⟨vs, rfl, hv1, hv2⟩ := row64 (show DataW.Trod enc Tryz.prog W 0 (fun _ => true) true 24 (.slice va vl vc) b0.1 b0.2 from ⟨n2, t2⟩)
  obtain ⟨ls, rfl, hl1, hl2⟩ := row64 (show DataW.Trod enc Tryz.prog W 0 (fun _ => true) true 24 (.slice la ll lc) b1.1 b1.2 from ⟨n2, t3⟩)
  obtain ⟨ds, rfl, hc4, hx4, hb, hz, _⟩ := row8 (show DataW.Trod enc Tryz.prog W 0 (fun _ => true) true 27 (.slice dp dl dc) y2.1 y2.2 from ⟨n', t4⟩)
  exact ⟨⟨k, j, vs, ls, ds⟩, ⟨va, vc, la, lc, dp, dc⟩, rfl, rfl, rfl, rfl, rfl, i64_bounds w0, i64_bounds w1, hv2, hl2, hb, hv1, hl1, hc4, hx4, hz⟩
set_option maxRecDepth 20000 in
theorem open_snap {H : Type} {enc : TypeId × Value → H} {W : World} {r : Reach} {b0 : Nat} {v : Value} {d : DataW H} {p : List MemPlace} (hv : Value.okWide Tryz.prog W r b0 29 v)
    (h : DataW.Trod enc Tryz.prog W 0 (fun _ => true) true 29 v d p) : ∃ (e : Sn) (q : SnH), v = .agg (snRow e q) ∧ SnAt W e q := by
  obtain ⟨cs, rfl, hsz⟩ := okWide_struct Tryz.underlying29 hv
  have c5 : Tryz.prog.cellsOf 29 = 5 := by kernel_rfl
  obtain ⟨v0, v1, v2, v3, v4, rfl⟩ := list5s (hsz.trans c5)
  obtain ⟨fuel, hf⟩ := h
  obtain ⟨e, q, rfl, rfl, rfl, rfl, rfl, hd⟩ := snap_open (show DataW.trod enc Tryz.prog W 0 (fun _ => true) true fuel 29 [v0, v1, v2, v3, v4] = some (d, p) from hf)
  exact ⟨e, q, rfl, hd⟩
end Go.Proofs.YtagncghpfdjkmaaGreatDoor
end
/- Snapshots that are the same. -/
section
namespace Go.Proofs.YtagncghpfdjkmaaGreatDoor
open Go.ChangeShapes Go.WideShapes Go.ChangeAt Go.RowKit
set_option linter.unusedVariables false

set_option maxRecDepth 20000 in
set_option maxHeartbeats 8000000 in
theorem sameS_yes (s : Sn) (h h' : SnH) (w : World) (z : SnAt w s h) (z' : SnAt w s h') : Calls Tryz.prog 18 #[.agg (snRow s h), .agg (snRow s h')] w fun e w' => e = .returned (.bool true) ∧ Below w.heap.size w w' := by
  unfold snRow
  have A1 : Below w.heap.size w (w.alloc (.cells #[.int .i64 s.i, .int .i64 s.t, .slice h.va s.v.length h.vc, .slice h.la s.l.length h.lc, .slice h.dp s.d.length h.dc] 29)) := (Below.refl _ _).alloc (Nat.le_refl _) _
  have A2 : Below (w.alloc (.cells #[.int .i64 s.i, .int .i64 s.t, .slice h.va s.v.length h.vc, .slice h.la s.l.length h.lc, .slice h.dp s.d.length h.dc] 29)).heap.size (w.alloc (.cells #[.int .i64 s.i, .int .i64 s.t, .slice h.va s.v.length h.vc, .slice h.la s.l.length h.lc, .slice h.dp s.d.length h.dc] 29)) ((w.alloc (.cells #[.int .i64 s.i, .int .i64 s.t, .slice h.va s.v.length h.vc, .slice h.la s.l.length h.lc, .slice h.dp s.d.length h.dc] 29)).alloc (.cells #[.int .i64 s.i, .int .i64 s.t, .slice h'.va s.v.length h'.vc, .slice h'.la s.l.length h'.lc, .slice h'.dp s.d.length h'.dc] 29)) := (Below.refl _ _).alloc (Nat.le_refl _) _
  have hs1 : (w.alloc (.cells #[.int .i64 s.i, .int .i64 s.t, .slice h.va s.v.length h.vc, .slice h.la s.l.length h.lc, .slice h.dp s.d.length h.dc] 29)).heap.size = w.heap.size + 1 := by simp
  have X1 := hide (later_block A2 (heap_new w (.cells #[.int .i64 s.i, .int .i64 s.t, .slice h.va s.v.length h.vc, .slice h.la s.l.length h.lc, .slice h.dp s.d.length h.dc] 29)))
  have X2 := hide (heap_new (w.alloc (.cells #[.int .i64 s.i, .int .i64 s.t, .slice h.va s.v.length h.vc, .slice h.la s.l.length h.lc, .slice h.dp s.d.length h.dc] 29)) (.cells #[.int .i64 s.i, .int .i64 s.t, .slice h'.va s.v.length h'.vc, .slice h'.la s.l.length h'.lc, .slice h'.dp s.d.length h'.dc] 29))
  rw [hs1] at X2
  have B2 := hide (A1.trans (A2.mono A1.size))
  have Z := hide (z.later (unhide B2))
  have Z' := hide (z'.later (unhide B2))
  clear A1 A2 hs1 z z'
  have x0 := box_cell (unhide X1) 0 _ rfl
  have x1 := box_cell (unhide X1) 1 _ rfl
  have x2 := box_cell (unhide X1) 2 _ rfl
  have x3 := box_cell (unhide X1) 3 _ rfl
  have y0 := box_cell (unhide X2) 0 _ rfl
  have y1 := box_cell (unhide X2) 1 _ rfl
  have y2 := box_cell (unhide X2) 2 _ rfl
  have y3 := box_cell (unhide X2) 3 _ rfl
  have q0 : (s.i == s.i) = true := by simp
  have q1 : (s.t == s.t) = true := by simp
  have SC := hide (same_calls (vc := h.vc) (lc := h.lc) (vc' := h'.vc) (lc' := h'.lc) (unhide Z).v (unhide Z).l (unhide Z').v (unhide Z').l s.v.length s.l.length s.v.length s.l.length rfl rfl rfl rfl (unhide Z).vn (unhide Z).ln (unhide Z').vn (unhide Z').ln)
  rw [show (decide (s.v = s.v) && decide (s.l = s.l)) = true by simp] at SC
  go_enter Tryz.func18, Tryz.ntmps18
  go_wp2_with fail
  clear x0 x1 x2 x3 y0 y1 y2 y3
  generalize (w.alloc (.cells #[.int .i64 s.i, .int .i64 s.t, .slice h.va s.v.length h.vc, .slice h.la s.l.length h.lc, .slice h.dp s.d.length h.dc] 29)).alloc (.cells #[.int .i64 s.i, .int .i64 s.t, .slice h'.va s.v.length h'.vc, .slice h'.la s.l.length h'.lc, .slice h'.dp s.d.length h'.dc] 29) = W2 at *
  go_at_call 57
  refine (unhide SC).mono ?_
  rintro e V ⟨rfl, v1⟩
  have x4 : V.cell? ⟨w.heap.size, 4, none⟩ = some (.slice h.dp s.d.length h.dc) := box_cell (later_block v1 (unhide X1)) 4 _ rfl
  have y4 : V.cell? ⟨w.heap.size + 1, 4, none⟩ = some (.slice h'.dp s.d.length h'.dc) := box_cell (later_block v1 (unhide X2)) 4 _ rfl
  have k1 := run_string8 s.d.length h.dc rfl ((unhide Z).later v1).d
  have k2 := run_string8 s.d.length h'.dc rfl ((unhide Z').later v1).d
  have q2 : ((strOf s.d).toList == (strOf s.d).toList) = true := by simp
  have FF := hide ((unhide B2).trans (v1.mono (unhide B2).size))
  clear v1 SC Z Z' X1 X2
  generalize strOf s.d = sd at *
  go_wp2
  go_ret
  exact ⟨by first | rfl | simp, unhide FF⟩
end Go.Proofs.YtagncghpfdjkmaaGreatDoor
end
/- Bytes of one's own, one bit turned. -/
section
namespace Go.Proofs.YtagncghpfdjkmaaGreatDoor
open Go.ChangeShapes Go.WideShapes Go.ChangeAt Go.RowKit
set_option linter.unusedVariables false

theorem rem_natS (k : Int) (M : Nat) (h0 : 0 < M) (h1 : M ≤ 4611686018427387904) : ∃ N : Nat, wrap64 ((IntKind.u64.wrap k).tmod (M : Int)) = (N : Int) ∧ N < M := by
  have hw : 0 ≤ IntKind.u64.wrap k := wrap_u64_nonneg k
  obtain ⟨u, hu⟩ := Int.eq_ofNat_of_zero_le hw
  rw [hu]
  refine ⟨u % M, ?_, Nat.mod_lt _ h0⟩
  have e : ((u : Int).tmod (M : Int)) = ((u % M : Nat) : Int) := by rw [← Int.ofNat_tmod]
  have := Nat.mod_lt u h0
  rw [e]
  unfold wrap64
  omega

end Go.Proofs.YtagncghpfdjkmaaGreatDoor
end
/- Pieces that come, plainly: what is gathered; the pieces of a snapshot's bytes one behind the other. -/
section
namespace Go.Proofs.YtagncghpfdjkmaaGreatDoor
open Go.ChangeShapes Go.WideShapes Go.ChangeAt Go.RowKit
set_option linter.unusedVariables false

/-- What a piece says: of how many bytes it is, its place, where its bytes stand. -/
def rdP (p : List Nat) : Except Nat (Nat × Nat × Nat) := match takeE p 0 with
  | .error x => .error x
  | .ok (t, k1) => match takeE p k1 with
    | .error x => .error x
    | .ok (pl, k2) => if 32768 < t then .error 6 else if t < pl + (p.length - k2) ∨ (p.length - k2 = 0 ∧ 0 < t) then .error 4 else .ok (t, pl, k2)
/-- How an Add ends: the snapshot, whether it is whole, the error; what is gathered. -/
structure Ga where
  s : Sn
  d : Bool
  e : Nat
  t : Nat
  b : List Nat
def gAdd (t : Nat) (bs : List Nat) (p : List Nat) : Ga := match rdP p with
  | .error x => ⟨sn0, false, x, t, bs⟩
  | .ok (tt, pl, k) => if pl ≠ 0 ∧ (tt ≠ t ∨ pl ≠ bs.length) then ⟨sn0, false, 12, t, bs⟩ else
    let all := (if pl = 0 then [] else bs) ++ p.drop k
    if all.length < tt then ⟨sn0, false, 0, tt, all⟩ else ⟨snOf (snL all), decide (snX (snL all) = 0), snX (snL all), 0, []⟩
theorem gAdd_err {t : Nat} {bs p : List Nat} {x : Nat} (h : rdP p = .error x) : gAdd t bs p = ⟨sn0, false, x, t, bs⟩ := by
  unfold gAdd
  rw [h]
theorem gAdd_stale {t : Nat} {bs p : List Nat} {tt pl k : Nat} (h : rdP p = .ok (tt, pl, k)) (hs : pl ≠ 0 ∧ (tt ≠ t ∨ pl ≠ bs.length)) : gAdd t bs p = ⟨sn0, false, 12, t, bs⟩ := by
  unfold gAdd
  rw [h]
  dsimp only
  rw [if_pos hs]
theorem gAdd_more {t : Nat} {bs p : List Nat} {tt pl k : Nat} (h : rdP p = .ok (tt, pl, k)) (hs : ¬ (pl ≠ 0 ∧ (tt ≠ t ∨ pl ≠ bs.length))) (all : List Nat) (ha : (if pl = 0 then [] else bs) ++ p.drop k = all) (hl : all.length < tt) : gAdd t bs p = ⟨sn0, false, 0, tt, all⟩ := by
  unfold gAdd
  rw [h]
  dsimp only
  rw [if_neg hs, ha, if_pos hl]
theorem gAdd_all {t : Nat} {bs p : List Nat} {tt pl k : Nat} (h : rdP p = .ok (tt, pl, k)) (hs : ¬ (pl ≠ 0 ∧ (tt ≠ t ∨ pl ≠ bs.length))) (all : List Nat) (ha : (if pl = 0 then [] else bs) ++ p.drop k = all) (hl : ¬ all.length < tt) : gAdd t bs p = ⟨snOf (snL all), decide (snX (snL all) = 0), snX (snL all), 0, []⟩ := by
  unfold gAdd
  rw [h]
  dsimp only
  rw [if_neg hs, ha, if_neg hl]
theorem rdP_pos {p : List Nat} {x : Nat} (h : rdP p = .error x) : x ≠ 0 := by
  unfold rdP at h
  cases h1 : takeE p 0 with
  | error y => rw [h1] at h; cases h; exact takeE_pos h1
  | ok q =>
    obtain ⟨t, k1⟩ := q
    rw [h1] at h
    dsimp only at h
    cases h2 : takeE p k1 with
    | error y => rw [h2] at h; cases h; exact takeE_pos h2
    | ok q =>
      obtain ⟨pl, k2⟩ := q
      rw [h2] at h
      dsimp only at h
      split at h
      · cases h; decide
      · split at h
        · cases h; decide
        · cases h
theorem rdP_ok {p : List Nat} {t pl k : Nat} (hp : ∀ c ∈ p, c < 256) (h : rdP p = .ok (t, pl, k)) : k ≤ p.length ∧ t ≤ 32768 ∧ pl + (p.length - k) ≤ t ∧ (p.length - k = 0 → t = 0) := by
  unfold rdP at h
  cases h1 : takeE p 0 with
  | error y => rw [h1] at h; cases h
  | ok q =>
    obtain ⟨t', k1⟩ := q
    rw [h1] at h
    dsimp only at h
    cases h2 : takeE p k1 with
    | error y => rw [h2] at h; cases h
    | ok q =>
      obtain ⟨pl', k2⟩ := q
      rw [h2] at h
      dsimp only at h
      split at h
      · cases h
      · split at h
        · cases h
        · rename_i a b
          cases h
          have := (takeE_leb h2 hp).1
          exact ⟨this, by omega, by omega, fun e => by omega⟩
/-- A piece of one's own making. -/
theorem rdP_piece {l : List Nat} {sz k : Nat} (hl : l.length ≤ 32768) (h0 : 0 < l.length) (hk : k < l.length) (hz : 0 < sz) : rdP (pieceB l sz k) = .ok (l.length, k, (numB l.length).length + (numB k).length) := by
  have e1 : takeE (pieceB l sz k) 0 = .ok (l.length, 0 + (numB l.length).length) := takeE_at (a := []) (b := numB k ++ (l.drop k).take sz) rfl rfl (by omega)
  have e2 : takeE (pieceB l sz k) (0 + (numB l.length).length) = .ok (k, 0 + (numB l.length).length + (numB k).length) := takeE_at (a := numB l.length) (b := (l.drop k).take sz) rfl (by simp) (by omega)
  unfold rdP
  rw [e1]
  dsimp only
  rw [e2]
  dsimp only
  rw [Nat.zero_add]
  have hlen : (pieceB l sz k).length - ((numB l.length).length + (numB k).length) = min sz (l.length - k) := by
    unfold pieceB
    simp only [List.length_append, List.length_take, List.length_drop]
    omega
  rw [if_neg (by omega), if_neg (by rw [hlen]; omega)]
theorem piece_drop (l : List Nat) (sz k : Nat) : (pieceB l sz k).drop ((numB l.length).length + (numB k).length) = (l.drop k).take sz := by
  unfold pieceB
  rw [← List.append_assoc]
  exact List.drop_left' (by rw [List.length_append])
/-- How many pieces there are. -/
def pcN (L sz : Nat) : Nat := (L + sz - 1) / sz
theorem pcN_lt {L sz i : Nat} (hz : 0 < sz) : i < pcN L sz ↔ i * sz < L := by
  unfold pcN
  rw [Nat.lt_iff_add_one_le, Nat.le_div_iff_mul_le hz, Nat.add_mul]
  omega
theorem pcs_rows {l : List Nat} {sz : Nat} (hz : 0 < sz) (h0 : 0 < l.length) : ∀ (m i f : Nat) (b : Bool), pcN l.length sz - i = m → m ≤ f → pcs l sz f (decide (i = 0)) (min (i * sz) l.length) = (List.range' i m).map (fun j => pieceB l sz (j * sz))
  | 0, i, f, b, hm, hf => by
    have hn : ¬ i * sz < l.length := fun h => by have := (pcN_lt hz).2 h; omega
    have hi : decide (i = 0) = false := decide_eq_false (fun e => by subst e; rw [Nat.zero_mul] at hn; omega)
    rw [hi, pcs_end (by omega)]
    rfl
  | m + 1, i, f, b, hm, hf => by
    obtain ⟨f, rfl⟩ : ∃ g, f = g + 1 := ⟨f - 1, by omega⟩
    have hi : i * sz < l.length := (pcN_lt hz).1 (by omega)
    rw [pcs_go (.inl (by omega)), List.range'_succ, List.map_cons]
    have e1 : min (i * sz) l.length = i * sz := by omega
    have e2 : i * sz + min sz (l.length - i * sz) = min ((i + 1) * sz) l.length := by rw [Nat.add_mul]; omega
    rw [e1, e2]
    congr 1
    have := pcs_rows hz h0 m (i + 1) f b (by omega) (by omega)
    rw [show decide (i + 1 = 0) = false from rfl] at this
    exact this
theorem pieces_are {l : List Nat} {sz : Nat} (hz : 0 < sz) (h0 : 0 < l.length) : piecesL l sz = (List.range (pcN l.length sz)).map (fun j => pieceB l sz (j * sz)) := by
  have hp : pcN l.length sz ≤ l.length + 1 := by
    unfold pcN
    have : (l.length + sz - 1) / sz ≤ l.length := by
      rw [Nat.div_le_iff_le_mul_add_pred hz]
      have : l.length ≤ sz * l.length := Nat.le_mul_of_pos_left _ hz
      omega
    omega
  have := pcs_rows hz h0 (pcN l.length sz) 0 (l.length + 1) true (by omega) hp
  rw [show decide ((0 : Nat) = 0) = true from rfl, Nat.zero_mul, Nat.zero_min] at this
  rw [List.range_eq_range']
  exact this
theorem pcN_pos {L sz : Nat} (hz : 0 < sz) (h0 : 0 < L) : 0 < pcN L sz := (pcN_lt hz).2 (by omega)
theorem pcN_le {L sz : Nat} (hz : 0 < sz) : pcN L sz ≤ L := by
  rcases Nat.eq_zero_or_pos (pcN L sz) with h | h
  · omega
  · have h1 := (pcN_lt (L := L) (i := pcN L sz - 1) hz).1 (by omega)
    have h2 : (pcN L sz - 1) * 1 ≤ (pcN L sz - 1) * sz := Nat.mul_le_mul_left _ hz
    omega
/-- One piece more in its turn. -/
theorem gather_next {l : List Nat} {sz i : Nat} (hl : l.length ≤ 32768) (hz : 0 < sz) (hi : i + 1 < pcN l.length sz) (t : Nat) (bs : List Nat) (hb : (i = 0 ∨ (t = l.length ∧ bs = l.take (i * sz)))) :
    gAdd t bs (pieceB l sz (i * sz)) = ⟨sn0, false, 0, l.length, l.take ((i + 1) * sz)⟩ := by
  have h1 := (pcN_lt (L := l.length) hz).1 hi
  have h2 : i * sz < l.length := by rw [Nat.add_mul] at h1; omega
  have hr := rdP_piece (sz := sz) hl (by omega) h2 hz
  have ha : (if i * sz = 0 then [] else bs) ++ (pieceB l sz (i * sz)).drop ((numB l.length).length + (numB (i * sz)).length) = l.take ((i + 1) * sz) := by
    rw [piece_drop]
    rcases hb with rfl | ⟨_, rfl⟩
    · simp
    · rw [show (i + 1) * sz = i * sz + sz by rw [Nat.add_mul, Nat.one_mul], List.take_add]
      split
      · rename_i h; rw [h]; simp
      · rfl
  refine gAdd_more hr (fun q => ?_) _ ha (by rw [List.length_take]; omega)
  rcases hb with rfl | ⟨h3, h4⟩
  · exact q.1 (by simp)
  · rcases q.2 with q | q
    · exact q h3.symm
    · rw [h4, List.length_take] at q; omega
/-- The last one. -/
theorem gather_last {l : List Nat} {sz i : Nat} (hl : l.length ≤ 32768) (hz : 0 < sz) (h0 : 0 < l.length) (hi : i + 1 = pcN l.length sz) (t : Nat) (bs : List Nat) (hb : (i = 0 ∨ (t = l.length ∧ bs = l.take (i * sz)))) :
    gAdd t bs (pieceB l sz (i * sz)) = ⟨snOf (snL l), decide (snX (snL l) = 0), snX (snL l), 0, []⟩ := by
  have h1 : ¬ (i + 1) * sz < l.length := fun h => by have := (pcN_lt hz).2 h; omega
  have h2 : i * sz < l.length := (pcN_lt hz).1 (by omega)
  have hr := rdP_piece (sz := sz) hl (by omega) h2 hz
  have ha : (if i * sz = 0 then [] else bs) ++ (pieceB l sz (i * sz)).drop ((numB l.length).length + (numB (i * sz)).length) = l := by
    rw [piece_drop]
    have e : l.take ((i + 1) * sz) = l := List.take_of_length_le (by omega)
    rw [Nat.add_mul, Nat.one_mul, List.take_add] at e
    rcases hb with rfl | ⟨_, rfl⟩
    · simpa using e
    · split
      · rename_i h; rw [h] at e; simpa [h] using e
      · exact e
  refine gAdd_all hr (fun q => ?_) _ ha (by omega)
  rcases hb with rfl | ⟨h3, h4⟩
  · exact q.1 (by simp)
  · rcases q.2 with q | q
    · exact q h3.symm
    · rw [h4, List.length_take] at q; omega
/-- One out of its turn changes nothing. -/
theorem gather_odd {l : List Nat} {sz i k : Nat} (hl : l.length ≤ 32768) (hz : 0 < sz) (hi : i < pcN l.length sz) (hk : k < pcN l.length sz) (hk0 : k ≠ 0) (hki : k ≠ i) : gAdd l.length (l.take (i * sz)) (pieceB l sz (k * sz)) = ⟨sn0, false, 12, l.length, l.take (i * sz)⟩ := by
  have h1 := (pcN_lt (L := l.length) hz).1 hi
  have h2 := (pcN_lt (L := l.length) hz).1 hk
  refine gAdd_stale (rdP_piece hl (by omega) h2 hz) ⟨fun e => ?_, .inr (fun e => hki ?_)⟩
  · rcases Nat.mul_eq_zero.1 e with e | e
    · exact hk0 e
    · omega
  · rw [List.length_take, Nat.min_eq_left (by omega)] at e
    exact Nat.eq_of_mul_eq_mul_right hz e
end Go.Proofs.YtagncghpfdjkmaaGreatDoor
end
