/- Proved: any bytes and any draw have one of the four answers, of the plane's version; 200 has one of its pool's addresses; for all configurations (those that are short are looked at), bytes and draws; no condition beyond the tables that the row lists (lz_of). -/
import Derived.Test.YtcmiappiocfbiaaGreatDoorB19
import Derived.Test.YtcmiappiocfbiaaGreatDoorTie
import Derived.Test.YtcmiappiocfbiaaGreatDoorCards
import Derived.Lay
import Derived.MakeChecks
import Derived.SevenTiedAt
import Derived.Stop.Joined
namespace Go.Proofs.YtcmiappiocfbiaaGreatDoor.planeAny
open Go.ChangeShapes Go.WideShapes Go.ChangeAt Go.RowKit
set_option linter.unusedVariables false

theorem own : ownKnob Tryz.prog.godebug = none := by kernel_rfl
theorem laidOut : laidOutB Tryz.prog = true := by kernel_rfl

set_option maxRecDepth 20000 in
set_option maxHeartbeats 8000000 in
theorem notShort (e : Cf) (h : CfH) (a : Option Addr) (bc : Nat) (l : List Nat) (d : Nat) (w : World) (hc : CfAt w e h) (hbl : l.length ≤ bc) (hbm : bc ≤ 140737488355328) (hb : BytesAt w a l) (hz : a = none → bc = 0) (hd : d < 18446744073709551616) (hLz : Lz w) (hs : shortC e = false) :
    Calls Tryz.prog 4 #[cfVal e h, .slice a l.length bc, .float .f64 d] w fun e w' => e = .returned (.bool true) ∧ Below w.heap.size w w' := by
  have b1 : Below w.heap.size w (w.alloc (.cells #[.int .i64 e.ver, .slice h.ra e.rs.length h.rc, .slice h.pa e.ps.length h.pc] 28)) := (Below.refl _ _).alloc (Nat.le_refl _) _
  have X1 := heap_new w (.cells #[.int .i64 e.ver, .slice h.ra e.rs.length h.rc, .slice h.pa e.ps.length h.pc] 28)
  have SC := short_calls (hc.later b1)
  rw [hs] at SC
  have SC := hide SC
  have BB := hide b1
  have c0 := box_cell X1 0 _ rfl
  have c1 := box_cell X1 1 _ rfl
  have c2 := box_cell X1 2 _ rfl
  unfold cfVal at *
  clear b1 X1 hs hc hb hLz
  go_enter Tryz.func4, Tryz.ntmps4
  go_wp2_with fail
  clear c0 c1 c2
  generalize w.alloc _ = W1 at *
  go_at_call 7
  refine (unhide SC).mono ?_
  rintro r V1 ⟨rfl, v1⟩
  have D1 := hide ((unhide BB).trans (v1.mono (unhide BB).size))
  clear v1
  go_wp2_with fail
  go_at_call 15
  refine (live10_calls _).mono ?_
  rintro r V2 ⟨rfl, v2⟩
  have D2 := hide ((unhide D1).trans (v2.mono (unhide D1).size))
  clear v2
  go_wp2_with fail
  go_ret
  exact ⟨rfl, unhide D2⟩
set_option maxRecDepth 20000 in
set_option maxHeartbeats 8000000 in
theorem tooLong (e : Cf) (h : CfH) (a : Option Addr) (bc : Nat) (l : List Nat) (d : Nat) (w : World) (hc : CfAt w e h) (hbl : l.length ≤ bc) (hbm : bc ≤ 140737488355328) (hb : BytesAt w a l) (hz : a = none → bc = 0) (hd : d < 18446744073709551616) (hLz : Lz w) (hs : shortC e = true) (hl : 5000 < l.length) :
    Calls Tryz.prog 4 #[cfVal e h, .slice a l.length bc, .float .f64 d] w fun e w' => e = .returned (.bool true) ∧ Below w.heap.size w w' := by
  have b1 : Below w.heap.size w (w.alloc (.cells #[.int .i64 e.ver, .slice h.ra e.rs.length h.rc, .slice h.pa e.ps.length h.pc] 28)) := (Below.refl _ _).alloc (Nat.le_refl _) _
  have X1 := heap_new w (.cells #[.int .i64 e.ver, .slice h.ra e.rs.length h.rc, .slice h.pa e.ps.length h.pc] 28)
  have SC := short_calls (hc.later b1)
  rw [hs] at SC
  have SC := hide SC
  have BB := hide b1
  have c0 := box_cell X1 0 _ rfl
  have c1 := box_cell X1 1 _ rfl
  have c2 := box_cell X1 2 _ rfl
  have y0 : (5000 : Int) < (l.length : Int) := by omega
  unfold cfVal at *
  clear b1 X1 hs hc hb hLz
  go_enter Tryz.func4, Tryz.ntmps4
  go_wp2_with fail
  clear c0 c1 c2
  generalize w.alloc _ = W1 at *
  go_at_call 7
  refine (unhide SC).mono ?_
  rintro r V1 ⟨rfl, v1⟩
  have D1 := hide ((unhide BB).trans (v1.mono (unhide BB).size))
  clear v1
  go_wp2_with fail
  go_at_call 15
  refine (live10_calls _).mono ?_
  rintro r V2 ⟨rfl, v2⟩
  have D2 := hide ((unhide D1).trans (v2.mono (unhide D1).size))
  clear v2
  go_wp2_with fail
  go_ret
  exact ⟨rfl, unhide D2⟩
set_option maxRecDepth 20000 in
set_option maxHeartbeats 16000000 in
theorem mainNo (e : Cf) (h : CfH) (a : Option Addr) (bc : Nat) (l : List Nat) (d : Nat) (w : World) (hc : CfAt w e h) (hbl : l.length ≤ bc) (hbm : bc ≤ 140737488355328) (hb : BytesAt w a l) (hz : a = none → bc = 0) (hd : d < 18446744073709551616) (hLz : Lz w) (hs : shortC e = true) (hl : l.length ≤ 5000) (hv : e.ver ≤ 0) :
    Calls Tryz.prog 4 #[cfVal e h, .slice a l.length bc, .float .f64 d] w fun e w' => e = .returned (.bool true) ∧ Below w.heap.size w w' := by
  have b1 : Below w.heap.size w (w.alloc (.cells #[.int .i64 e.ver, .slice h.ra e.rs.length h.rc, .slice h.pa e.ps.length h.pc] 28)) := (Below.refl _ _).alloc (Nat.le_refl _) _
  have X1 := heap_new w (.cells #[.int .i64 e.ver, .slice h.ra e.rs.length h.rc, .slice h.pa e.ps.length h.pc] 28)
  obtain ⟨g1, g2, g3⟩ := short_each hs
  have SC := short_calls (hc.later b1)
  rw [hs] at SC
  have SC := hide SC
  have BB := hide b1
  have XX := hide X1
  have AC := hide (fun (W : World) (P base : Nat) (k : CfH) (z : BoAt w e h P base ⟨0, [], []⟩ k W) => applyBO_calls z (hc.later z.bel) hs (show e.ver ≤ (0 : Int) from hv))
  have SK := serve_kinds l [] [] d
  obtain ⟨st, hst⟩ : ∃ st, st = serveL l [] [] d := ⟨_, rfl⟩
  rw [← hst] at SK
  have SV := hide (show ∀ (W : World) (P base : Nat) (k : CfH), BoAt w e h P base (⟨0, [], []⟩ : Cf) k W → Calls Tryz.prog 10 #[.pointer (some ⟨P, 0, none⟩), .slice a l.length bc, .float .f64 d] W fun r w' => r = .returned (.agg #[.int .i64 st.1, .int .i64 0, .string st.2.1, .string st.2.2]) ∧ Below W.heap.size W w' from fun W P base k z => by
    rw [hst]
    exact serve_calls z.p.at_ (fun y hy => by cases hy) a bc d l (hb.later z.bel) hbl hz (hLz.later z.bel) hd)
  have VC := hide (show ∀ (W : World) (P base : Nat) (k : CfH), BoAt w e h P base (⟨0, [], []⟩ : Cf) k W → Calls Tryz.prog 12 #[.pointer (some ⟨P, 0, none⟩)] W fun r w' => r = .returned (.int .i64 0) ∧ Below W.heap.size W w' from fun W P base k z => version_calls z.p.at_)
  have PS := hide hc.pos
  have hpl := hc.pl.1
  have we := hc.wv
  simp only [maxLen] at hpl
  obtain ⟨s1, s2, s3⟩ := st
  unfold SvKind at SK
  dsimp only at SV SK
  have y0 : ¬ (5000 : Int) < (l.length : Int) := by omega
  have c0 := box_cell X1 0 _ rfl
  have c1 := box_cell X1 1 _ rfl
  have c2 := box_cell X1 2 _ rfl
  have SK := hide SK
  clear b1 X1 hs hc hb hLz hst g1 g2 g3 hd hbl hbm hz hl
  unfold cfVal at *
  go_enter Tryz.func4, Tryz.ntmps4
  go_wp2_with fail
  clear c0 c1 c2
  have SZ1 := hide (show w.heap.size < (w.alloc (.cells #[.int .i64 e.ver, .slice h.ra e.rs.length h.rc, .slice h.pa e.ps.length h.pc] 28)).heap.size from (Array.getElem?_eq_some_iff.1 (unhide XX)).1)
  generalize w.alloc _ = W1 at *
  go_at_call 7
  refine (unhide SC).mono ?_
  rintro r V1 ⟨rfl, v1⟩
  have D1 := hide ((unhide BB).trans (v1.mono (unhide BB).size))
  have XX := hide (later_block v1 (unhide XX))
  have SZ1 := hide (Nat.lt_of_lt_of_le (unhide SZ1) v1.size)
  clear v1 BB SC
  go_wp2_with fail
  go_at_call 6
  refine (new_calls _).mono ?_
  rintro r V2 ⟨rfl, n2, v2⟩
  have Z := hide (show BoAt w e h V1.heap.size 0 ⟨0, [], []⟩ ⟨none, 0, none, 0⟩ V2 from ⟨later_block v2 (unhide XX), n2 0, unhide SZ1, (unhide D1).trans (v2.mono (unhide D1).size)⟩)
  clear n2 v2 XX D1 SZ1
  generalize V1.heap.size = P at *
  obtain ⟨c0, c1, c2⟩ := (unhide Z).cells
  go_wp2_with fail
  clear c0 c1 c2
  go_at_call 9
  refine (unhide AC _ _ _ _ (unhide Z)).mono ?_
  rintro r V3 ⟨rfl, z3, _⟩
  have Z := hide z3
  clear z3 AC
  go_wp2_with fail
  go_at_call 10
  refine (unhide SV _ _ _ _ (unhide Z)).mono ?_
  rintro r V4 ⟨rfl, v4⟩
  have Z := hide ((unhide Z).later v4)
  clear v4 SV
  have XR := hide (heap_new V4 (.cells #[.int .i64 s1, .int .i64 0, .string s2, .string s3] 43))
  have Z := hide ((unhide Z).later ((Below.refl V4.heap.size V4).alloc (Nat.le_refl _) (.cells #[.int .i64 s1, .int .i64 0, .string s2, .string s3] 43)))
  go_wp2_with fail
  generalize V4.alloc _ = W5 at *
  generalize V4.heap.size = R at *
  have Z := hide (unhide Z).drew
  have XR := hide (show W5.drew.heap[R]? = some (.cells #[.int .i64 s1, .int .i64 0, .string s2, .string s3] 43 (0, 0)) from unhide XR)
  have hb1 : decide (0 < e.ver) = false := decide_eq_false (by omega)
  have hb2 : ¬ 0 < e.ver := by omega
  refine wp_region_held_drew (S := fun w' => w'.cell? ⟨w.heap.size, 0, none⟩ = some (.int .i64 e.ver) ∧ w'.cell? ⟨R, 1, none⟩ = some (.int .i64 0)) (by kernel_rfl) ?_ (fun hHeld => ?_)
  · try dsimp only
    exact ⟨(unhide Z).cells.1, box_cell (unhide XR) 1 _ rfl⟩
  refine held_take 0 (oi := { dst := some 30, op := Op.move (Operand.tmp 8), type := 35, pos := "law.go:190", after := #[], guard := none }) (v := ?_) (by kernel_rfl) rfl (by rfl) (by kernel_rfl) (by kernel_rfl) (fun _ _ _ h => h) ?_ (by assumption) ?_
  rotate_left
  · (intro w hSw; (try dsimp only at hSw); go_simp; try with_reducible rfl)
  try simp only [Act.put, List.setIfInBounds_toArray, List.set_cons_zero, List.set_cons_succ]
  refine held_take 1 (oi := { dst := some 31, op := Op.binOp BinOp.eql 35 (Operand.tmp 30) (Operand.const (Value.int IntKind.i64 0)) 35, type := 4, pos := "law.go:190", after := #[{ on := 0, ground := Ground.data }], guard := none }) (v := ?_) (by kernel_rfl) rfl (by rfl) (by kernel_rfl) (by kernel_rfl) (fun _ _ _ h => h) ?_ (by assumption) ?_
  rotate_left
  · (intro w hSw; (try dsimp only at hSw); go_simp; try with_reducible rfl)
  try simp only [Act.put, List.setIfInBounds_toArray, List.set_cons_zero, List.set_cons_succ]
  refine held_take 2 (oi := { dst := some 32, op := Op.fieldAddr 28 (Operand.tmp 3) 0, type := 0, pos := "law.go:190", after := #[], guard := none }) (v := ?_) (by kernel_rfl) rfl (by rfl) (by kernel_rfl) (by kernel_rfl) (fun _ _ _ h => h) ?_ (by assumption) ?_
  rotate_left
  · (intro w hSw; (try dsimp only at hSw); go_simp; try with_reducible rfl)
  try simp only [Act.put, List.setIfInBounds_toArray, List.set_cons_zero, List.set_cons_succ]
  refine held_take 3 (oi := { dst := some 33, op := Op.load 3 (Operand.tmp 32), type := 3, pos := "law.go:190", after := #[{ on := 2, ground := Ground.data }], guard := none }) (v := ?_) (by kernel_rfl) rfl (by rfl) (by kernel_rfl) (by kernel_rfl) (fun _ _ _ h => h) ?_ (by assumption) ?_
  rotate_left
  · (intro w hSw; (try dsimp only at hSw); go_simp; try with_reducible rfl)
  try simp only [Act.put, List.setIfInBounds_toArray, List.set_cons_zero, List.set_cons_succ]
  refine held_take 4 (oi := { dst := some 34, op := Op.binOp BinOp.gtr 3 (Operand.tmp 33) (Operand.const (Value.int IntKind.i64 0)) 3, type := 4, pos := "law.go:190", after := #[{ on := 3, ground := Ground.data }], guard := none }) (v := ?_) (by kernel_rfl) rfl (by rfl) (by kernel_rfl) (by kernel_rfl) (fun _ _ _ h => h) ?_ (by assumption) ?_
  rotate_left
  · (intro w hSw; (try dsimp only at hSw); go_simp; try with_reducible rfl)
  try simp only [Act.put, List.setIfInBounds_toArray, List.set_cons_zero, List.set_cons_succ]
  refine held_take 5 (oi := { dst := some 35, op := Op.binOp BinOp.neq 4 (Operand.tmp 31) (Operand.tmp 34) 4, type := 4, pos := "law.go:190", after := #[{ on := 1, ground := Ground.data }, { on := 4, ground := Ground.data }], guard := none }) (v := ?_) (by kernel_rfl) rfl (by rfl) (by kernel_rfl) (by kernel_rfl) (fun _ _ _ h => h) ?_ (by assumption) ?_
  rotate_left
  · (intro w hSw; (try dsimp only at hSw); go_simp; try with_reducible rfl)
  try simp only [Act.put, List.setIfInBounds_toArray, List.set_cons_zero, List.set_cons_succ]
  refine held_take 6 (oi := { dst := some 36, op := Op.move (Operand.tmp 35), type := 4, pos := "law.go:190", after := #[{ on := 5, ground := Ground.data }], guard := none }) (v := ?_) (by kernel_rfl) rfl (by rfl) (by kernel_rfl) (by kernel_rfl) (fun _ _ _ h => h) ?_ (by assumption) ?_
  rotate_left
  · (intro w hSw; (try dsimp only at hSw); go_simp; try with_reducible rfl)
  try simp only [Act.put, List.setIfInBounds_toArray, List.set_cons_zero, List.set_cons_succ]
  refine held_take 7 (oi := { dst := some 37, op := Op.fieldAddr 43 (Operand.tmp 9) 1, type := 0, pos := "law.go:190", after := #[{ on := 6, ground := Ground.guard }], guard := some (6, false) }) (v := ?_) (by kernel_rfl) rfl (by rfl) (by kernel_rfl) (by kernel_rfl) (fun _ _ _ h => h) ?_ (by assumption) ?_
  rotate_left
  · (intro w hSw; (try dsimp only at hSw); go_simp; try with_reducible rfl)
  try simp only [Act.put, List.setIfInBounds_toArray, List.set_cons_zero, List.set_cons_succ]
  refine held_take 8 (oi := { dst := some 38, op := Op.load 3 (Operand.tmp 37), type := 3, pos := "law.go:190", after := #[{ on := 7, ground := Ground.data }, { on := 6, ground := Ground.guard }], guard := some (6, false) }) (v := ?_) (by kernel_rfl) rfl (by rfl) (by kernel_rfl) (by kernel_rfl) (fun _ _ _ h => h) ?_ (by assumption) ?_
  rotate_left
  · (intro w hSw; (try dsimp only at hSw); go_simp; try with_reducible rfl)
  try simp only [Act.put, List.setIfInBounds_toArray, List.set_cons_zero, List.set_cons_succ]
  refine held_take 9 (oi := { dst := some 39, op := Op.move (Operand.tmp 7), type := 23, pos := "law.go:190", after := #[{ on := 6, ground := Ground.guard }], guard := some (6, false) }) (v := ?_) (by kernel_rfl) rfl (by rfl) (by kernel_rfl) (by kernel_rfl) (fun _ _ _ h => h) ?_ (by assumption) ?_
  rotate_left
  · (intro w hSw; (try dsimp only at hSw); go_simp; try with_reducible rfl)
  try simp only [Act.put, List.setIfInBounds_toArray, List.set_cons_zero, List.set_cons_succ]
  refine held_one 10 (oi := { dst := some 40, op := Op.call { callee := Callee.value (Operand.func 12), args := #[Operand.tmp 39], argTypes := #[23] }, type := 3, pos := "law.go:190", after := #[{ on := 9, ground := Ground.data }, { on := 6, ground := Ground.chain }, { on := 6, ground := Ground.guard }], guard := some (6, false) }) (by kernel_rfl) rfl (fun K hK => ?_)
  go_simp
  first
    | (go_at_call 12
       refine (unhide VC _ _ _ _ (unhide Z)).mono ?_
       rintro r V6 ⟨rfl, v6⟩
       have Z := hide ((unhide Z).later v6)
       have XR := hide (later_block v6 (unhide XR))
       clear v6)
  go_wp2_with fail
  refine hK.out _ _ ?_ (fun hHeld => ?_)
  · try dsimp only
    exact ⟨(unhide Z).cells.1, box_cell (unhide XR) 1 _ rfl⟩
  clear hK K
  try simp only [Act.put, List.setIfInBounds_toArray, List.set_cons_zero, List.set_cons_succ]
  refine held_take 11 (oi := { dst := some 41, op := Op.binOp BinOp.neq 3 (Operand.tmp 38) (Operand.tmp 40) 3, type := 4, pos := "law.go:190", after := #[{ on := 8, ground := Ground.data }, { on := 10, ground := Ground.data }, { on := 6, ground := Ground.guard }], guard := some (6, false) }) (v := ?_) (by kernel_rfl) rfl (by rfl) (by kernel_rfl) (by kernel_rfl) (fun _ _ _ h => h) ?_ (by assumption) ?_
  rotate_left
  · (intro w hSw; (try dsimp only at hSw); go_simp; try with_reducible rfl)
  try simp only [Act.put, List.setIfInBounds_toArray, List.set_cons_zero, List.set_cons_succ]
  refine held_take 12 (oi := { dst := some 42, op := Op.pick (Operand.tmp 36) (Operand.const (Value.bool true)) (Operand.tmp 41), type := 4, pos := "law.go:190", after := #[{ on := 6, ground := Ground.data }, { on := 11, ground := Ground.data }], guard := none }) (v := ?_) (by kernel_rfl) rfl (by rfl) (by kernel_rfl) (by kernel_rfl) (fun _ _ _ h => h) ?_ (by assumption) ?_
  rotate_left
  · (intro w hSw; (try dsimp only at hSw); go_simp; try with_reducible rfl)
  try simp only [Act.put, List.setIfInBounds_toArray, List.set_cons_zero, List.set_cons_succ]
  refine held_take 13 (oi := { dst := some 43, op := Op.move (Operand.tmp 42), type := 4, pos := "law.go:190", after := #[{ on := 12, ground := Ground.data }, { on := 10, ground := Ground.chain }], guard := none }) (v := ?_) (by kernel_rfl) rfl (by rfl) (by kernel_rfl) (by kernel_rfl) (fun _ _ _ h => h) ?_ (by assumption) ?_
  rotate_left
  · (intro w hSw; (try dsimp only at hSw); go_simp; try with_reducible rfl)
  try simp only [Act.put, List.setIfInBounds_toArray, List.set_cons_zero, List.set_cons_succ]
  refine held_take 14 (oi := { dst := some 44, op := Op.move (Operand.tmp 8), type := 35, pos := "law.go:190", after := #[{ on := 13, ground := Ground.guard }], guard := some (13, false) }) (v := ?_) (by kernel_rfl) rfl (by rfl) (by kernel_rfl) (by kernel_rfl) (fun _ _ _ h => h) ?_ (by assumption) ?_
  rotate_left
  · (intro w hSw; (try dsimp only at hSw); go_simp; try with_reducible rfl)
  try simp only [Act.put, List.setIfInBounds_toArray, List.set_cons_zero, List.set_cons_succ]
  refine held_take 15 (oi := { dst := some 45, op := Op.binOp BinOp.eql 35 (Operand.tmp 44) (Operand.const (Value.int IntKind.i64 0)) 35, type := 4, pos := "law.go:190", after := #[{ on := 14, ground := Ground.data }, { on := 13, ground := Ground.guard }], guard := some (13, false) }) (v := ?_) (by kernel_rfl) rfl (by rfl) (by kernel_rfl) (by kernel_rfl) (fun _ _ _ h => h) ?_ (by assumption) ?_
  rotate_left
  · (intro w hSw; (try dsimp only at hSw); go_simp; try with_reducible rfl)
  try simp only [Act.put, List.setIfInBounds_toArray, List.set_cons_zero, List.set_cons_succ]
  refine held_take 16 (oi := { dst := some 46, op := Op.move (Operand.tmp 45), type := 4, pos := "law.go:190", after := #[{ on := 15, ground := Ground.data }, { on := 13, ground := Ground.chain }, { on := 13, ground := Ground.guard }], guard := some (13, false) }) (v := ?_) (by kernel_rfl) rfl (by rfl) (by kernel_rfl) (by kernel_rfl) (fun _ _ _ h => h) ?_ (by assumption) ?_
  rotate_left
  · (intro w hSw; (try dsimp only at hSw); go_simp; try with_reducible rfl)
  try simp only [Act.put, List.setIfInBounds_toArray, List.set_cons_zero, List.set_cons_succ]
  refine held_skip 17 (oi := { dst := some 47, op := Op.move (Operand.tmp 7), type := 23, pos := "law.go:190", after := #[{ on := 16, ground := Ground.guard }], guard := some (16, true) }) (by kernel_rfl) rfl (by rfl) (by kernel_rfl) (by kernel_rfl) (fun _ _ _ h => h) (by assumption) ?_
  try simp only [Act.put, List.setIfInBounds_toArray, List.set_cons_zero, List.set_cons_succ]
  refine held_skip 19 (oi := { dst := some 49, op := Op.fieldAddr 28 (Operand.tmp 3) 0, type := 0, pos := "law.go:190", after := #[{ on := 16, ground := Ground.guard }], guard := some (16, true) }) (by kernel_rfl) rfl (by rfl) (by kernel_rfl) (by kernel_rfl) (fun _ _ _ h => h) (by assumption) ?_
  try simp only [Act.put, List.setIfInBounds_toArray, List.set_cons_zero, List.set_cons_succ]
  refine held_skip 20 (oi := { dst := some 50, op := Op.load 3 (Operand.tmp 49), type := 3, pos := "law.go:190", after := #[{ on := 19, ground := Ground.data }, { on := 16, ground := Ground.guard }], guard := some (16, true) }) (by kernel_rfl) rfl (by rfl) (by kernel_rfl) (by kernel_rfl) (fun _ _ _ h => h) (by assumption) ?_
  try simp only [Act.put, List.setIfInBounds_toArray, List.set_cons_zero, List.set_cons_succ]
  refine held_none 18 (oi := { dst := some 48, op := Op.call { callee := Callee.value (Operand.func 12), args := #[Operand.tmp 47], argTypes := #[23] }, type := 3, pos := "law.go:190", after := #[{ on := 17, ground := Ground.data }, { on := 16, ground := Ground.chain }, { on := 16, ground := Ground.guard }], guard := some (16, true) }) (by kernel_rfl) rfl (by rfl) (by assumption) ?_
  try simp only [Act.put, List.setIfInBounds_toArray, List.set_cons_zero, List.set_cons_succ]
  refine held_skip 21 (oi := { dst := some 51, op := Op.binOp BinOp.neq 3 (Operand.tmp 48) (Operand.tmp 50) 3, type := 4, pos := "law.go:190", after := #[{ on := 18, ground := Ground.data }, { on := 20, ground := Ground.data }, { on := 16, ground := Ground.guard }], guard := some (16, true) }) (by kernel_rfl) rfl (by rfl) (by kernel_rfl) (by kernel_rfl) (fun _ _ _ h => h) (by assumption) ?_
  try simp only [Act.put, List.setIfInBounds_toArray, List.set_cons_zero, List.set_cons_succ]
  refine held_take 22 (oi := { dst := some 52, op := Op.pick (Operand.tmp 46) (Operand.tmp 51) (Operand.const (Value.bool false)), type := 4, pos := "law.go:190", after := #[{ on := 16, ground := Ground.data }, { on := 21, ground := Ground.data }, { on := 13, ground := Ground.guard }], guard := some (13, false) }) (v := ?_) (by kernel_rfl) rfl (by rfl) (by kernel_rfl) (by kernel_rfl) (fun _ _ _ h => h) ?_ (by assumption) ?_
  rotate_left
  · (intro w hSw; (try dsimp only at hSw); go_simp; try with_reducible rfl)
  try simp only [Act.put, List.setIfInBounds_toArray, List.set_cons_zero, List.set_cons_succ]
  refine held_take 23 (oi := { dst := some 53, op := Op.pick (Operand.tmp 43) (Operand.const (Value.bool true)) (Operand.tmp 52), type := 4, pos := "law.go:190", after := #[{ on := 13, ground := Ground.data }, { on := 22, ground := Ground.data }], guard := none }) (v := ?_) (by kernel_rfl) rfl (by rfl) (by kernel_rfl) (by kernel_rfl) (fun _ _ _ h => h) ?_ (by assumption) ?_
  rotate_left
  · (intro w hSw; (try dsimp only at hSw); go_simp; try with_reducible rfl)
  try simp only [Act.put, List.setIfInBounds_toArray, List.set_cons_zero, List.set_cons_succ]
  refine wpAnyH_done (by kernel_rfl) ?_ _
  have e0 := box_cell (unhide XR) 0 _ rfl
  have e2 := box_cell (unhide XR) 2 _ rfl
  have e3 := box_cell (unhide XR) 3 _ rfl
  rcases unhide SK with ⟨hk, rfl, rfl⟩ | ⟨hn, _⟩ | ⟨hn, _⟩
  · clear SK
    rcases hk with rfl | rfl
    · go_wp2_with fail
      go_at_call 15
      refine (live10_calls _).mono ?_
      rintro r V7 ⟨rfl, v7⟩
      have Z := hide ((unhide Z).later v7)
      have XR := hide (later_block v7 (unhide XR))
      have e0 := box_cell (unhide XR) 0 _ rfl
      have e2 := box_cell (unhide XR) 2 _ rfl
      have e3 := box_cell (unhide XR) 3 _ rfl
      clear v7
      go_wp2_with fail
      go_ret
      exact ⟨rfl, (unhide Z).bel⟩
    · go_wp2_with fail
      go_at_call 15
      refine (live10_calls _).mono ?_
      rintro r V7 ⟨rfl, v7⟩
      have Z := hide ((unhide Z).later v7)
      have XR := hide (later_block v7 (unhide XR))
      have e0 := box_cell (unhide XR) 0 _ rfl
      have e2 := box_cell (unhide XR) 2 _ rfl
      have e3 := box_cell (unhide XR) 3 _ rfl
      clear v7
      go_wp2_with fail
      go_ret
      exact ⟨rfl, (unhide Z).bel⟩
  · exact absurd rfl hn
  · exact absurd rfl hn
set_option maxRecDepth 20000 in
set_option maxHeartbeats 16000000 in
theorem mainYes (e : Cf) (h : CfH) (a : Option Addr) (bc : Nat) (l : List Nat) (d : Nat) (w : World) (hc : CfAt w e h) (hbl : l.length ≤ bc) (hbm : bc ≤ 140737488355328) (hb : BytesAt w a l) (hz : a = none → bc = 0) (hd : d < 18446744073709551616) (hLz : Lz w) (hs : shortC e = true) (hl : l.length ≤ 5000) (hv : 0 < e.ver) :
    Calls Tryz.prog 4 #[cfVal e h, .slice a l.length bc, .float .f64 d] w fun e w' => e = .returned (.bool true) ∧ Below w.heap.size w w' := by
  have b1 : Below w.heap.size w (w.alloc (.cells #[.int .i64 e.ver, .slice h.ra e.rs.length h.rc, .slice h.pa e.ps.length h.pc] 28)) := (Below.refl _ _).alloc (Nat.le_refl _) _
  have X1 := heap_new w (.cells #[.int .i64 e.ver, .slice h.ra e.rs.length h.rc, .slice h.pa e.ps.length h.pc] 28)
  obtain ⟨g1, g2, g3⟩ := short_each hs
  have SC := short_calls (hc.later b1)
  rw [hs] at SC
  have SC := hide SC
  have BB := hide b1
  have XX := hide X1
  have AC := hide (fun (W : World) (P base : Nat) (k : CfH) (z : BoAt w e h P base ⟨0, [], []⟩ k W) => applyB_calls z (hc.later z.bel) hs (show (0 : Int) < e.ver from hv))
  have SK := serve_kinds l e.rs e.ps d
  have s2z := serve_sz hc l d
  obtain ⟨st, hst⟩ : ∃ st, st = serveL l e.rs e.ps d := ⟨_, rfl⟩
  rw [← hst] at SK
  have SV := hide (show ∀ (W : World) (P base : Nat) (k : CfH), BoAt w e h P base e k W → Calls Tryz.prog 10 #[.pointer (some ⟨P, 0, none⟩), .slice a l.length bc, .float .f64 d] W fun r w' => r = .returned (.agg #[.int .i64 st.1, .int .i64 e.ver, .string st.2.1, .string st.2.2]) ∧ Below W.heap.size W w' from fun W P base k z => by
    rw [hst]
    exact serve_calls z.p.at_ (fun y hy => by have := g3 y hy; omega) a bc d l (hb.later z.bel) hbl hz (hLz.later z.bel) hd)
  have VC := hide (show ∀ (W : World) (P base : Nat) (k : CfH), BoAt w e h P base e k W → Calls Tryz.prog 12 #[.pointer (some ⟨P, 0, none⟩)] W fun r w' => r = .returned (.int .i64 e.ver) ∧ Below W.heap.size W w' from fun W P base k z => version_calls z.p.at_)
  have PS := hide hc.pos
  have hpl := hc.pl.1
  have we := hc.wv
  simp only [maxLen] at hpl s2z
  obtain ⟨s1, s2, s3⟩ := st
  unfold SvKind at SK
  dsimp only at SV SK
  have y0 : ¬ (5000 : Int) < (l.length : Int) := by omega
  have c0 := box_cell X1 0 _ rfl
  have c1 := box_cell X1 1 _ rfl
  have c2 := box_cell X1 2 _ rfl
  have SK := hide SK
  clear b1 X1 hs hc hb hLz hst g1 g2 g3 hd hbl hbm hz hl
  unfold cfVal at *
  go_enter Tryz.func4, Tryz.ntmps4
  go_wp2_with fail
  clear c0 c1 c2
  have SZ1 := hide (show w.heap.size < (w.alloc (.cells #[.int .i64 e.ver, .slice h.ra e.rs.length h.rc, .slice h.pa e.ps.length h.pc] 28)).heap.size from (Array.getElem?_eq_some_iff.1 (unhide XX)).1)
  generalize w.alloc _ = W1 at *
  go_at_call 7
  refine (unhide SC).mono ?_
  rintro r V1 ⟨rfl, v1⟩
  have D1 := hide ((unhide BB).trans (v1.mono (unhide BB).size))
  have XX := hide (later_block v1 (unhide XX))
  have SZ1 := hide (Nat.lt_of_lt_of_le (unhide SZ1) v1.size)
  clear v1 BB SC
  go_wp2_with fail
  go_at_call 6
  refine (new_calls _).mono ?_
  rintro r V2 ⟨rfl, n2, v2⟩
  have Z := hide (show BoAt w e h V1.heap.size 0 ⟨0, [], []⟩ ⟨none, 0, none, 0⟩ V2 from ⟨later_block v2 (unhide XX), n2 0, unhide SZ1, (unhide D1).trans (v2.mono (unhide D1).size)⟩)
  clear n2 v2 XX D1 SZ1
  generalize V1.heap.size = P at *
  obtain ⟨c0, c1, c2⟩ := (unhide Z).cells
  go_wp2_with fail
  clear c0 c1 c2
  go_at_call 9
  refine (unhide AC _ _ _ _ (unhide Z)).mono ?_
  rintro r V3 ⟨rfl, k3, z3, _⟩
  have Z := hide z3
  clear z3 AC
  go_wp2_with fail
  go_at_call 10
  refine (unhide SV _ _ _ _ (unhide Z)).mono ?_
  rintro r V4 ⟨rfl, v4⟩
  have Z := hide ((unhide Z).later v4)
  clear v4 SV
  have XR := hide (heap_new V4 (.cells #[.int .i64 s1, .int .i64 e.ver, .string s2, .string s3] 43))
  have Z := hide ((unhide Z).later ((Below.refl V4.heap.size V4).alloc (Nat.le_refl _) (.cells #[.int .i64 s1, .int .i64 e.ver, .string s2, .string s3] 43)))
  go_wp2_with fail
  generalize V4.alloc _ = W5 at *
  generalize V4.heap.size = R at *
  have Z := hide (unhide Z).drew
  have XR := hide (show W5.drew.heap[R]? = some (.cells #[.int .i64 s1, .int .i64 e.ver, .string s2, .string s3] 43 (0, 0)) from unhide XR)
  have hb1 : decide (0 < e.ver) = true := decide_eq_true hv
  have hb2 : (e.ver == e.ver) = true := by simp
  refine wp_region_held_drew (S := fun w' => w'.cell? ⟨w.heap.size, 0, none⟩ = some (.int .i64 e.ver) ∧ w'.cell? ⟨R, 1, none⟩ = some (.int .i64 e.ver)) (by kernel_rfl) ?_ (fun hHeld => ?_)
  · try dsimp only
    exact ⟨(unhide Z).cells.1, box_cell (unhide XR) 1 _ rfl⟩
  refine held_take 0 (oi := { dst := some 30, op := Op.move (Operand.tmp 8), type := 35, pos := "law.go:190", after := #[], guard := none }) (v := ?_) (by kernel_rfl) rfl (by rfl) (by kernel_rfl) (by kernel_rfl) (fun _ _ _ h => h) ?_ (by assumption) ?_
  rotate_left
  · (intro w hSw; (try dsimp only at hSw); go_simp; try with_reducible rfl)
  try simp only [Act.put, List.setIfInBounds_toArray, List.set_cons_zero, List.set_cons_succ]
  refine held_take 1 (oi := { dst := some 31, op := Op.binOp BinOp.eql 35 (Operand.tmp 30) (Operand.const (Value.int IntKind.i64 0)) 35, type := 4, pos := "law.go:190", after := #[{ on := 0, ground := Ground.data }], guard := none }) (v := ?_) (by kernel_rfl) rfl (by rfl) (by kernel_rfl) (by kernel_rfl) (fun _ _ _ h => h) ?_ (by assumption) ?_
  rotate_left
  · (intro w hSw; (try dsimp only at hSw); go_simp; try with_reducible rfl)
  try simp only [Act.put, List.setIfInBounds_toArray, List.set_cons_zero, List.set_cons_succ]
  refine held_take 2 (oi := { dst := some 32, op := Op.fieldAddr 28 (Operand.tmp 3) 0, type := 0, pos := "law.go:190", after := #[], guard := none }) (v := ?_) (by kernel_rfl) rfl (by rfl) (by kernel_rfl) (by kernel_rfl) (fun _ _ _ h => h) ?_ (by assumption) ?_
  rotate_left
  · (intro w hSw; (try dsimp only at hSw); go_simp; try with_reducible rfl)
  try simp only [Act.put, List.setIfInBounds_toArray, List.set_cons_zero, List.set_cons_succ]
  refine held_take 3 (oi := { dst := some 33, op := Op.load 3 (Operand.tmp 32), type := 3, pos := "law.go:190", after := #[{ on := 2, ground := Ground.data }], guard := none }) (v := ?_) (by kernel_rfl) rfl (by rfl) (by kernel_rfl) (by kernel_rfl) (fun _ _ _ h => h) ?_ (by assumption) ?_
  rotate_left
  · (intro w hSw; (try dsimp only at hSw); go_simp; try with_reducible rfl)
  try simp only [Act.put, List.setIfInBounds_toArray, List.set_cons_zero, List.set_cons_succ]
  refine held_take 4 (oi := { dst := some 34, op := Op.binOp BinOp.gtr 3 (Operand.tmp 33) (Operand.const (Value.int IntKind.i64 0)) 3, type := 4, pos := "law.go:190", after := #[{ on := 3, ground := Ground.data }], guard := none }) (v := ?_) (by kernel_rfl) rfl (by rfl) (by kernel_rfl) (by kernel_rfl) (fun _ _ _ h => h) ?_ (by assumption) ?_
  rotate_left
  · (intro w hSw; (try dsimp only at hSw); go_simp; try with_reducible rfl)
  try simp only [Act.put, List.setIfInBounds_toArray, List.set_cons_zero, List.set_cons_succ]
  refine held_take 5 (oi := { dst := some 35, op := Op.binOp BinOp.neq 4 (Operand.tmp 31) (Operand.tmp 34) 4, type := 4, pos := "law.go:190", after := #[{ on := 1, ground := Ground.data }, { on := 4, ground := Ground.data }], guard := none }) (v := ?_) (by kernel_rfl) rfl (by rfl) (by kernel_rfl) (by kernel_rfl) (fun _ _ _ h => h) ?_ (by assumption) ?_
  rotate_left
  · (intro w hSw; (try dsimp only at hSw); go_simp; try with_reducible rfl)
  try simp only [Act.put, List.setIfInBounds_toArray, List.set_cons_zero, List.set_cons_succ]
  refine held_take 6 (oi := { dst := some 36, op := Op.move (Operand.tmp 35), type := 4, pos := "law.go:190", after := #[{ on := 5, ground := Ground.data }], guard := none }) (v := ?_) (by kernel_rfl) rfl (by rfl) (by kernel_rfl) (by kernel_rfl) (fun _ _ _ h => h) ?_ (by assumption) ?_
  rotate_left
  · (intro w hSw; (try dsimp only at hSw); go_simp; try with_reducible rfl)
  try simp only [Act.put, List.setIfInBounds_toArray, List.set_cons_zero, List.set_cons_succ]
  refine held_take 7 (oi := { dst := some 37, op := Op.fieldAddr 43 (Operand.tmp 9) 1, type := 0, pos := "law.go:190", after := #[{ on := 6, ground := Ground.guard }], guard := some (6, false) }) (v := ?_) (by kernel_rfl) rfl (by rfl) (by kernel_rfl) (by kernel_rfl) (fun _ _ _ h => h) ?_ (by assumption) ?_
  rotate_left
  · (intro w hSw; (try dsimp only at hSw); go_simp; try with_reducible rfl)
  try simp only [Act.put, List.setIfInBounds_toArray, List.set_cons_zero, List.set_cons_succ]
  refine held_take 8 (oi := { dst := some 38, op := Op.load 3 (Operand.tmp 37), type := 3, pos := "law.go:190", after := #[{ on := 7, ground := Ground.data }, { on := 6, ground := Ground.guard }], guard := some (6, false) }) (v := ?_) (by kernel_rfl) rfl (by rfl) (by kernel_rfl) (by kernel_rfl) (fun _ _ _ h => h) ?_ (by assumption) ?_
  rotate_left
  · (intro w hSw; (try dsimp only at hSw); go_simp; try with_reducible rfl)
  try simp only [Act.put, List.setIfInBounds_toArray, List.set_cons_zero, List.set_cons_succ]
  refine held_take 9 (oi := { dst := some 39, op := Op.move (Operand.tmp 7), type := 23, pos := "law.go:190", after := #[{ on := 6, ground := Ground.guard }], guard := some (6, false) }) (v := ?_) (by kernel_rfl) rfl (by rfl) (by kernel_rfl) (by kernel_rfl) (fun _ _ _ h => h) ?_ (by assumption) ?_
  rotate_left
  · (intro w hSw; (try dsimp only at hSw); go_simp; try with_reducible rfl)
  try simp only [Act.put, List.setIfInBounds_toArray, List.set_cons_zero, List.set_cons_succ]
  refine held_one 10 (oi := { dst := some 40, op := Op.call { callee := Callee.value (Operand.func 12), args := #[Operand.tmp 39], argTypes := #[23] }, type := 3, pos := "law.go:190", after := #[{ on := 9, ground := Ground.data }, { on := 6, ground := Ground.chain }, { on := 6, ground := Ground.guard }], guard := some (6, false) }) (by kernel_rfl) rfl (fun K hK => ?_)
  go_simp
  first
    | (go_at_call 12
       refine (unhide VC _ _ _ _ (unhide Z)).mono ?_
       rintro r V6 ⟨rfl, v6⟩
       have Z := hide ((unhide Z).later v6)
       have XR := hide (later_block v6 (unhide XR))
       clear v6)
  go_wp2_with fail
  refine hK.out _ _ ?_ (fun hHeld => ?_)
  · try dsimp only
    exact ⟨(unhide Z).cells.1, box_cell (unhide XR) 1 _ rfl⟩
  clear hK K
  try simp only [Act.put, List.setIfInBounds_toArray, List.set_cons_zero, List.set_cons_succ]
  refine held_take 11 (oi := { dst := some 41, op := Op.binOp BinOp.neq 3 (Operand.tmp 38) (Operand.tmp 40) 3, type := 4, pos := "law.go:190", after := #[{ on := 8, ground := Ground.data }, { on := 10, ground := Ground.data }, { on := 6, ground := Ground.guard }], guard := some (6, false) }) (v := ?_) (by kernel_rfl) rfl (by rfl) (by kernel_rfl) (by kernel_rfl) (fun _ _ _ h => h) ?_ (by assumption) ?_
  rotate_left
  · (intro w hSw; (try dsimp only at hSw); go_simp; try with_reducible rfl)
  try simp only [Act.put, List.setIfInBounds_toArray, List.set_cons_zero, List.set_cons_succ]
  refine held_take 12 (oi := { dst := some 42, op := Op.pick (Operand.tmp 36) (Operand.const (Value.bool true)) (Operand.tmp 41), type := 4, pos := "law.go:190", after := #[{ on := 6, ground := Ground.data }, { on := 11, ground := Ground.data }], guard := none }) (v := ?_) (by kernel_rfl) rfl (by rfl) (by kernel_rfl) (by kernel_rfl) (fun _ _ _ h => h) ?_ (by assumption) ?_
  rotate_left
  · (intro w hSw; (try dsimp only at hSw); go_simp; try with_reducible rfl)
  try simp only [Act.put, List.setIfInBounds_toArray, List.set_cons_zero, List.set_cons_succ]
  refine held_take 13 (oi := { dst := some 43, op := Op.move (Operand.tmp 42), type := 4, pos := "law.go:190", after := #[{ on := 12, ground := Ground.data }, { on := 10, ground := Ground.chain }], guard := none }) (v := ?_) (by kernel_rfl) rfl (by rfl) (by kernel_rfl) (by kernel_rfl) (fun _ _ _ h => h) ?_ (by assumption) ?_
  rotate_left
  · (intro w hSw; (try dsimp only at hSw); go_simp; try with_reducible rfl)
  try simp only [Act.put, List.setIfInBounds_toArray, List.set_cons_zero, List.set_cons_succ]
  refine held_take 14 (oi := { dst := some 44, op := Op.move (Operand.tmp 8), type := 35, pos := "law.go:190", after := #[{ on := 13, ground := Ground.guard }], guard := some (13, false) }) (v := ?_) (by kernel_rfl) rfl (by rfl) (by kernel_rfl) (by kernel_rfl) (fun _ _ _ h => h) ?_ (by assumption) ?_
  rotate_left
  · (intro w hSw; (try dsimp only at hSw); go_simp; try with_reducible rfl)
  try simp only [Act.put, List.setIfInBounds_toArray, List.set_cons_zero, List.set_cons_succ]
  refine held_take 15 (oi := { dst := some 45, op := Op.binOp BinOp.eql 35 (Operand.tmp 44) (Operand.const (Value.int IntKind.i64 0)) 35, type := 4, pos := "law.go:190", after := #[{ on := 14, ground := Ground.data }, { on := 13, ground := Ground.guard }], guard := some (13, false) }) (v := ?_) (by kernel_rfl) rfl (by rfl) (by kernel_rfl) (by kernel_rfl) (fun _ _ _ h => h) ?_ (by assumption) ?_
  rotate_left
  · (intro w hSw; (try dsimp only at hSw); go_simp; try with_reducible rfl)
  try simp only [Act.put, List.setIfInBounds_toArray, List.set_cons_zero, List.set_cons_succ]
  refine held_take 16 (oi := { dst := some 46, op := Op.move (Operand.tmp 45), type := 4, pos := "law.go:190", after := #[{ on := 15, ground := Ground.data }, { on := 13, ground := Ground.chain }, { on := 13, ground := Ground.guard }], guard := some (13, false) }) (v := ?_) (by kernel_rfl) rfl (by rfl) (by kernel_rfl) (by kernel_rfl) (fun _ _ _ h => h) ?_ (by assumption) ?_
  rotate_left
  · (intro w hSw; (try dsimp only at hSw); go_simp; try with_reducible rfl)
  try simp only [Act.put, List.setIfInBounds_toArray, List.set_cons_zero, List.set_cons_succ]
  refine held_take 17 (oi := { dst := some 47, op := Op.move (Operand.tmp 7), type := 23, pos := "law.go:190", after := #[{ on := 16, ground := Ground.guard }], guard := some (16, true) }) (v := ?_) (by kernel_rfl) rfl (by rfl) (by kernel_rfl) (by kernel_rfl) (fun _ _ _ h => h) ?_ (by assumption) ?_
  rotate_left
  · (intro w hSw; (try dsimp only at hSw); go_simp; try with_reducible rfl)
  try simp only [Act.put, List.setIfInBounds_toArray, List.set_cons_zero, List.set_cons_succ]
  refine held_take 19 (oi := { dst := some 49, op := Op.fieldAddr 28 (Operand.tmp 3) 0, type := 0, pos := "law.go:190", after := #[{ on := 16, ground := Ground.guard }], guard := some (16, true) }) (v := ?_) (by kernel_rfl) rfl (by rfl) (by kernel_rfl) (by kernel_rfl) (fun _ _ _ h => h) ?_ (by assumption) ?_
  rotate_left
  · (intro w hSw; (try dsimp only at hSw); go_simp; try with_reducible rfl)
  try simp only [Act.put, List.setIfInBounds_toArray, List.set_cons_zero, List.set_cons_succ]
  refine held_take 20 (oi := { dst := some 50, op := Op.load 3 (Operand.tmp 49), type := 3, pos := "law.go:190", after := #[{ on := 19, ground := Ground.data }, { on := 16, ground := Ground.guard }], guard := some (16, true) }) (v := ?_) (by kernel_rfl) rfl (by rfl) (by kernel_rfl) (by kernel_rfl) (fun _ _ _ h => h) ?_ (by assumption) ?_
  rotate_left
  · (intro w hSw; (try dsimp only at hSw); go_simp; try with_reducible rfl)
  try simp only [Act.put, List.setIfInBounds_toArray, List.set_cons_zero, List.set_cons_succ]
  refine held_one 18 (oi := { dst := some 48, op := Op.call { callee := Callee.value (Operand.func 12), args := #[Operand.tmp 47], argTypes := #[23] }, type := 3, pos := "law.go:190", after := #[{ on := 17, ground := Ground.data }, { on := 16, ground := Ground.chain }, { on := 16, ground := Ground.guard }], guard := some (16, true) }) (by kernel_rfl) rfl (fun K hK => ?_)
  go_simp
  first
    | (go_at_call 12
       refine (unhide VC _ _ _ _ (unhide Z)).mono ?_
       rintro r V6 ⟨rfl, v6⟩
       have Z := hide ((unhide Z).later v6)
       have XR := hide (later_block v6 (unhide XR))
       clear v6)
  go_wp2_with fail
  refine hK.out _ _ ?_ (fun hHeld => ?_)
  · try dsimp only
    exact ⟨(unhide Z).cells.1, box_cell (unhide XR) 1 _ rfl⟩
  clear hK K
  try simp only [Act.put, List.setIfInBounds_toArray, List.set_cons_zero, List.set_cons_succ]
  refine held_take 21 (oi := { dst := some 51, op := Op.binOp BinOp.neq 3 (Operand.tmp 48) (Operand.tmp 50) 3, type := 4, pos := "law.go:190", after := #[{ on := 18, ground := Ground.data }, { on := 20, ground := Ground.data }, { on := 16, ground := Ground.guard }], guard := some (16, true) }) (v := ?_) (by kernel_rfl) rfl (by rfl) (by kernel_rfl) (by kernel_rfl) (fun _ _ _ h => h) ?_ (by assumption) ?_
  rotate_left
  · (intro w hSw; (try dsimp only at hSw); go_simp; try with_reducible rfl)
  try simp only [Act.put, List.setIfInBounds_toArray, List.set_cons_zero, List.set_cons_succ]
  refine held_take 22 (oi := { dst := some 52, op := Op.pick (Operand.tmp 46) (Operand.tmp 51) (Operand.const (Value.bool false)), type := 4, pos := "law.go:190", after := #[{ on := 16, ground := Ground.data }, { on := 21, ground := Ground.data }, { on := 13, ground := Ground.guard }], guard := some (13, false) }) (v := ?_) (by kernel_rfl) rfl (by rfl) (by kernel_rfl) (by kernel_rfl) (fun _ _ _ h => h) ?_ (by assumption) ?_
  rotate_left
  · (intro w hSw; (try dsimp only at hSw); go_simp; try with_reducible rfl)
  try simp only [Act.put, List.setIfInBounds_toArray, List.set_cons_zero, List.set_cons_succ]
  refine held_take 23 (oi := { dst := some 53, op := Op.pick (Operand.tmp 43) (Operand.const (Value.bool true)) (Operand.tmp 52), type := 4, pos := "law.go:190", after := #[{ on := 13, ground := Ground.data }, { on := 22, ground := Ground.data }], guard := none }) (v := ?_) (by kernel_rfl) rfl (by rfl) (by kernel_rfl) (by kernel_rfl) (fun _ _ _ h => h) ?_ (by assumption) ?_
  rotate_left
  · (intro w hSw; (try dsimp only at hSw); go_simp; try with_reducible rfl)
  try simp only [Act.put, List.setIfInBounds_toArray, List.set_cons_zero, List.set_cons_succ]
  refine wpAnyH_done (by kernel_rfl) ?_ _
  have e0 := box_cell (unhide XR) 0 _ rfl
  have e2 := box_cell (unhide XR) 2 _ rfl
  have e3 := box_cell (unhide XR) 3 _ rfl
  rcases unhide SK with ⟨hk, rfl, rfl⟩ | ⟨_, rfl, rfl⟩ | ⟨_, rfl, hf⟩
  · clear SK
    rcases hk with rfl | rfl
    · go_wp2_with fail
      go_at_call 15
      refine (live10_calls _).mono ?_
      rintro r V7 ⟨rfl, v7⟩
      have Z := hide ((unhide Z).later v7)
      have XR := hide (later_block v7 (unhide XR))
      have e0 := box_cell (unhide XR) 0 _ rfl
      have e2 := box_cell (unhide XR) 2 _ rfl
      have e3 := box_cell (unhide XR) 3 _ rfl
      clear v7
      go_wp2_with fail
      go_ret
      exact ⟨rfl, (unhide Z).bel⟩
    · go_wp2_with fail
      go_at_call 15
      refine (live10_calls _).mono ?_
      rintro r V7 ⟨rfl, v7⟩
      have Z := hide ((unhide Z).later v7)
      have XR := hide (later_block v7 (unhide XR))
      have e0 := box_cell (unhide XR) 0 _ rfl
      have e2 := box_cell (unhide XR) 2 _ rfl
      have e3 := box_cell (unhide XR) 3 _ rfl
      clear v7
      go_wp2_with fail
      go_ret
      exact ⟨rfl, (unhide Z).bel⟩
  · clear SK
    go_wp2_with fail
    go_at_call 15
    refine (live10_calls _).mono ?_
    rintro r V7 ⟨rfl, v7⟩
    have Z := hide ((unhide Z).later v7)
    have XR := hide (later_block v7 (unhide XR))
    have e0 := box_cell (unhide XR) 0 _ rfl
    have e2 := box_cell (unhide XR) 2 _ rfl
    have e3 := box_cell (unhide XR) 3 _ rfl
    clear v7
    go_wp2_with fail
    go_ret
    exact ⟨rfl, (unhide Z).bel⟩
  · clear SK
    have HF := hide hf
    clear hf
    go_wp2_with fail
    go_loopw [10, 11] (fun f i wr => ∃ j : Nat, j ≤ e.ps.length ∧ i = .int .i64 (j : Int) ∧ f = .bool (hitC s2 s3 e.ps j) ∧ Hid (Below V6.heap.size V6 wr)) (fun _ i _ => e.ps.length - (intOf i).toNat)
    case atStart => exact ⟨0, by omega, rfl, by rw [hitC_zero], hide (Below.refl _ _)⟩
    case round =>
      obtain ⟨j, hj, rfl, rfl, B⟩ := hrel
      obtain ⟨wo, hwo⟩ : ∃ wo, wo = wr := ⟨_, rfl⟩
      subst hwo
      have ZO := hide ((unhide Z).later (unhide B))
      have XO := hide (later_block (unhide B) (unhide XR))
      clear e0 e2 e3
      by_cases hjn : j < e.ps.length
      · have y1 : (0 : Int) ≤ (j : Int) := by omega
        have y2 : (j : Int) < (e.ps.length : Int) := by omega
        obtain ⟨gb, off, ta, tc, hpa, q0, q1, T, hlen, _⟩ := (unhide PS).cell j hjn
        have HS := hide (hitC_succ s2 s3 e.ps j hjn)
        have PC := hide (show ∀ W, Below wo.heap.size wo W → W.cell? ⟨w.heap.size, 2, none⟩ = some (.slice (some ⟨gb, off, none⟩) e.ps.length h.pc) ∧ W.cell? ⟨gb, off + j * 2, none⟩ = some (.string e.ps[j].nm) ∧ W.cell? ⟨gb, off + j * 2 + 1, none⟩ = some (.slice ta e.ps[j].ts.length tc) ∧ W.cell? ⟨R, 2, none⟩ = some (.string s2) ∧ W.cell? ⟨R, 3, none⟩ = some (.string s3) from fun W u => by
          have z := (unhide ZO).later u
          have x := later_block u (unhide XO)
          refine ⟨?_, cell_later z.bel q0, cell_later z.bel q1, box_cell x 2 _ rfl, box_cell x 3 _ rfl⟩
          rw [← hpa]
          exact z.cells.2.2)
        have PT := hide (show ∀ W, Below wo.heap.size wo W → TgsAt W ta e.ps[j].ts from fun W u => T.later ((unhide ZO).later u).bel)
        have hl1 := hlen.1
        simp only [maxLen] at hl1
        obtain ⟨p2, pn, pt, r2, r3⟩ := unhide PC wo (Below.refl _ _)
        clear q0 q1 T hlen hpa
        go_wp2_with fail
        clear p2 pn pt r2 r3
        go_loopw [10, 12] (fun f i w3 => ∃ k : Nat, k ≤ e.ps[j].ts.length ∧ i = .int .i64 (k : Int) ∧ f = .bool (hitC s2 s3 e.ps j || hitP s2 s3 e.ps[j] k) ∧ Hid (Below wo.heap.size wo w3)) (fun _ i _ => e.ps[j].ts.length - (intOf i).toNat)
        case atStart => exact ⟨0, by omega, rfl, by rw [hitP_zero, Bool.or_false], hide (Below.refl _ _)⟩
        case round =>
          obtain ⟨k, hk, rfl, rfl, B'⟩ := hrel
          obtain ⟨p2, pn, pt, r2, r3⟩ := unhide PC wr (unhide B')
          have BD := hide (show ∀ k, Below wo.heap.size wo (wr.drewN k) from fun k => ⟨(unhide B').os, (unhide B').tape, (unhide B').output, (unhide B').size, (unhide B').block⟩)
          by_cases hkn : k < e.ps[j].ts.length
          · have z1 : (0 : Int) ≤ (k : Int) := by omega
            have z2 : (k : Int) < (e.ps[j].ts.length : Int) := by omega
            obtain ⟨tb, tof, rfl, t0, t1⟩ := (unhide PT wr (unhide B')).cell k hkn
            have HP := hide (hitP_succ s2 s3 e.ps[j] k hkn)
            have HT := hide (show hitT s2 s3 e.ps[j] e.ps[j].ts[k] = ((e.ps[j].nm.toList == s2.toList) && (e.ps[j].ts[k].1.toList == s3.toList)) from rfl)
            generalize e.ps[j].ts[k].1 = ad at *
            cases hf : (hitC s2 s3 e.ps j || hitP s2 s3 e.ps[j] k) with
            | true =>
              have E := hide (show (hitC s2 s3 e.ps j || hitP s2 s3 e.ps[j] (k + 1)) = true by rw [unhide HP, ← Bool.or_assoc, hf]; rfl)
              clear HP HT hf
              go_wp2_with fail
              go_quiet (fail)
              go_wp2
              exact ⟨⟨k + 1, by omega, by go_num, by rw [unhide E], unhide BD _⟩, by simp [intOf]; omega⟩
            | false =>
              have E0 := hide (show (hitC s2 s3 e.ps j || hitP s2 s3 e.ps[j] (k + 1)) = hitT s2 s3 e.ps[j] e.ps[j].ts[k] by rw [unhide HP, ← Bool.or_assoc, hf]; rfl)
              generalize hh : e.ps[j].nm = nm at *
              clear hh
              cases hn : (nm.toList == s2.toList) with
              | false =>
                have E := hide (show (hitC s2 s3 e.ps j || hitP s2 s3 e.ps[j] (k + 1)) = false by rw [unhide E0, unhide HT, hn]; rfl)
                clear HP HT hf E0
                go_wp2_with fail
                go_quiet (fail)
                go_wp2
                exact ⟨⟨k + 1, by omega, by go_num, by rw [unhide E], unhide BD _⟩, by simp [intOf]; omega⟩
              | true =>
                have E := hide (show (hitC s2 s3 e.ps j || hitP s2 s3 e.ps[j] (k + 1)) = (ad.toList == s3.toList) by rw [unhide E0, unhide HT, hn]; rfl)
                clear HP HT hf E0
                go_wp2_with fail
                go_quiet (fail)
                go_wp2
                exact ⟨⟨k + 1, by omega, by go_num, by rw [unhide E], unhide BD _⟩, by simp [intOf]; omega⟩
          · have hkk : ¬ (k : Int) < (e.ps[j].ts.length : Int) := by omega
            obtain rfl : k = e.ps[j].ts.length := by omega
            have BO := hide ((unhide B).trans ((unhide B').mono (unhide B).size))
            go_wp2
            exact ⟨⟨j + 1, by omega, by go_num, by rw [unhide HS], unhide BO⟩, by simp [intOf]; omega⟩
      · have hjj : ¬ (j : Int) < (e.ps.length : Int) := by omega
        obtain rfl : j = e.ps.length := by omega
        have e0 := box_cell (unhide XO) 0 _ rfl
        obtain ⟨c0, c1, c2⟩ := (unhide ZO).cells
        rw [unhide HF]
        go_wp2_with fail
        go_at_call 15
        refine (live10_calls _).mono ?_
        rintro r V7 ⟨rfl, v7⟩
        have ZO := hide ((unhide ZO).later v7)
        have XO := hide (later_block v7 (unhide XO))
        have e0 := box_cell (unhide XO) 0 _ rfl
        clear v7
        go_wp2_with fail
        go_ret
        exact ⟨rfl, (unhide ZO).bel⟩
theorem walk (e : Cf) (h : CfH) (a : Option Addr) (bc : Nat) (l : List Nat) (d : Nat) (w : World) (hc : CfAt w e h) (hbl : l.length ≤ bc) (hbm : bc ≤ 140737488355328) (hb : BytesAt w a l) (hz : a = none → bc = 0) (hd : d < 18446744073709551616) (hLz : Lz w) :
    Calls Tryz.prog 4 #[cfVal e h, .slice a l.length bc, .float .f64 d] w fun e w' => e = .returned (.bool true) ∧ Below w.heap.size w w' := by
  cases hs : shortC e with
  | false => exact notShort e h a bc l d w hc hbl hbm hb hz hd hLz hs
  | true =>
    by_cases hl : 5000 < l.length
    · exact tooLong e h a bc l d w hc hbl hbm hb hz hd hLz hs hl
    · by_cases hv : 0 < e.ver
      · exact mainYes e h a bc l d w hc hbl hbm hb hz hd hLz hs (by omega) hv
      · exact mainNo e h a bc l d w hc hbl hbm hb hz hd hLz hs (by omega) (by omega)

set_option maxRecDepth 100000 in
theorem lifted (os : Os) (started : os.Started) (H : Type) (enc : TypeId × Value → H) :
    ReturnsInHanded {} Tryz.checked os 4 .any (fun w args => (Rows.planeAnySpec.pre enc Tryz.prog Tryz.f4 Rows.planeAnyRow.domain false w args ∧ laidMetH Tryz.prog Rows.planeAnyRow.laid w) ∧ sizedMet enc Tryz.prog Tryz.f4 (OpenSpec.ofChange Rows.planeAnySpec) false w args)
      (Rows.planeAnySpec.post enc Tryz.prog Tryz.f4 false true false false) := by
  refine handed_both (C := Tryz.checked) (X := fun w _ => laidMetH Tryz.prog Rows.planeAnyRow.laid w) (fun _ _ _ hh h => h.of_heap hh) own started (by kernel_rfl) Tryz.func4
    (ChangeSpec.witness_shaped (enc := enc) (C := Tryz.checked) (os := os) (X := fun w _ => laidMetH Tryz.prog Rows.planeAnyRow.laid w) false (World.laidAll Tryz.prog os Rows.planeAnyRow.laid) #[.agg #[.int .i64 0, .slice none 0 0, .slice none 0 0], .slice none 0 0, .float .f64 0] 8 (World.laidAll_os _ _ _)
      (World.shaped_of_ZipB (by kernel_rfl) (by kernel_rfl)) (by kernel_rfl) (by kernel_rfl) (by kernel_rfl)
      (by rw [MakeChecks.laidMetH_plain _ _ _ (by kernel_rfl)]; exact laidMet_laidAll _ (by kernel_rfl) (by kernel_rfl))) ?_
  intro W base args ds gs before hval0 hW hcnd hsz hL hsh _
  have hLz : Lz W := lz_of (by rw [MakeChecks.laidMetH_plain _ _ _ (by kernel_rfl)] at hL; exact hL) hsh
  have hval : ∀ (j : Nat) t v, Tryz.f4.params[j]? = some t → args[j]? = some v → Value.okWide Tryz.prog W .any base t v := hval0
  have hW' := hW
  obtain ⟨p, q, hA0, hV, rfl, hfz, hnd⟩ := hW
  have hA : DataW.TrodAll enc Tryz.prog W 0 (fun _ => true) true Tryz.f4.params.toList args.toList ds p := hA0
  rw [Tryz.params4] at hA hval
  obtain ⟨v0, vs0, d0, ds0, p0, q0, hargs, rfl, rfl, h0, r0⟩ := trodAll_cons hA
  obtain ⟨v1, vs1, d1, ds1, p1, q1, rfl, rfl, rfl, h1, r1⟩ := trodAll_cons r0
  obtain ⟨v2, vs2, d2, ds2, p2, q2, rfl, rfl, rfl, h2, r2⟩ := trodAll_cons r1
  obtain ⟨rfl, rfl, rfl⟩ := trodAll_nil r2
  obtain rfl : args = #[v0, v1, v2] := by cases args; simp_all
  obtain ⟨rfl, rfl⟩ := trodVars_none hV
  have k0 := h0
  have lt0 : ∀ x ∈ p0, x.block < W.heap.size := by obtain ⟨m, hm⟩ := k0; exact DataW.trod_lt m _ _ _ hm
  obtain ⟨e0, q0, rfl, hb0⟩ := open_conf (hval 0 28 v0 rfl rfl) h0
  obtain ⟨a1, len1, c1, rfl⟩ := okWide_slice Tryz.underlying29 (hval 1 29 v1 rfl rfl)
  have k1 := h1
  have lt1 : ∀ x ∈ p1, x.block < W.heap.size := by obtain ⟨m, hm⟩ := k1; exact DataW.trod_lt m _ _ _ hm
  obtain ⟨l1, rfl, hc1, hx1, hb1, hz1, hr1⟩ := row8 h1
  obtain ⟨n2, rfl, rfl, rfl, w2⟩ := open_float Tryz.underlying30 (hval 2 30 v2 rfl rfl) h2
  have hn2 := f64_lt w2
  clear hA0 hval0
  have hm1 : c1 ≤ 140737488355328 := reach8 hsz (j := 1) (d := d1) rfl rfl hr1
  refine (walk e0 q0 a1 c1 l1 n2 W hb0 hc1 hm1 hb1 hz1 hn2 hLz).mono fun e W' ⟨he, bel⟩ => ?_
  subst he
  exact ⟨_, rfl, _, _, _, [], _, [], hW', trodAll_mk1 (shut_bool Tryz.underlying4 _), (trodAll_cons_mk (Below.trod laidOut (by kernel_rfl) (of_decide_eq_true (by kernel_rfl)) k0 bel lt0) (trodAll_cons_mk (Below.trod laidOut (by kernel_rfl) (of_decide_eq_true (by kernel_rfl)) k1 bel lt1) (trodAll_cons_mk (shut_float Tryz.underlying30 w2) trodAll_mk0))), rfl, bel.frame _, fun h => by cases h⟩

theorem proved : Rows.PlaneAnySaid :=
  OpenClaim.holds_of_wide 4 Tryz.f4 rfl rfl rfl rfl rfl rfl rfl ⟨rfl, rfl, rfl, rfl, rfl⟩ rfl rfl rfl rfl rfl (by kernel_rfl) Tryz.func4 (by kernel_rfl)
    (of_decide_eq_true (by kernel_rfl)) (by unfold Func.isWrapper; first | (rw [if_pos (by decide +kernel)]; kernel_rfl) | (rw [if_neg (by decide +kernel)]; exact ⟨rfl, rfl⟩))
    (fun os started H enc _ => lifted os started H enc)
theorem card : Rows.PlaneAnyCardSaid :=
  Claim7.holds_tied_plain_at .later [] [.data, .pinned, .pinned] true (true, "47b1fa12dcda590fd344540124ecfd24233d7d6f0f953137380c7b4caf07fdec") false proved (fun _ h => by cases h) (by kernel_rfl) (fun _ h => by cases h) planeAny_row_tie rfl ⟨rfl, rfl⟩ (by kernel_rfl) rfl
    (fun f fn hf hfn => by
      obtain rfl : f = 4 := Option.some.inj ((show Tryz.prog.funcNamed "tollgate/tollgatelaw10.PlaneAny" = some 4 by kernel_rfl).symm.trans hf) |>.symm
      obtain rfl : fn = Tryz.f4 := (Option.some.inj (Tryz.func4.symm.trans hfn)).symm
      exact ⟨by kernel_rfl, fun j t ht => by
        rw [Tryz.params4] at ht
        have hm : t ∈ [28, 29, 30] := by simpa using Array.mem_of_getElem? ht
        have hall : ([28, 29, 30].all fun u => !Tryz.prog.wantsStandIn u) = true := by kernel_rfl
        exact (show Tryz.prog.wantsStandIn t = false by simpa using List.all_eq_true.1 hall t hm)⟩)
    (by kernel_rfl)
end Go.Proofs.YtcmiappiocfbiaaGreatDoor.planeAny
namespace Go.Proofs.YtcmiappiocfbiaaGreatDoor
theorem planeAny_holds : Rows.PlaneAnyCardSaid := planeAny.card
#print axioms planeAny_holds
end Go.Proofs.YtcmiappiocfbiaaGreatDoor
