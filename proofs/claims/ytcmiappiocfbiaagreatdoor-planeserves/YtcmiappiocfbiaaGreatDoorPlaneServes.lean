/- Proved: a plane's answers and configurations are just what the document says, deed by deed; for all scripts (of up to 60 deeds, of which those that are short are played); no condition beyond the tables that the row lists (lz_of). -/
import Derived.Test.YtcmiappiocfbiaaGreatDoorB28
import Derived.Test.YtcmiappiocfbiaaGreatDoorB19
import Derived.Test.YtcmiappiocfbiaaGreatDoorTie
import Derived.Test.YtcmiappiocfbiaaGreatDoorCards
import Derived.Lay
import Derived.MakeChecks
import Derived.SevenTiedAt
import Derived.Stop.Joined
namespace Go.Proofs.YtcmiappiocfbiaaGreatDoor.planeServes
open Go.ChangeShapes Go.WideShapes Go.ChangeAt Go.RowKit
set_option linter.unusedVariables false

theorem own : ownKnob Tryz.prog.godebug = none := by kernel_rfl
theorem laidOut : laidOutB Tryz.prog = true := by kernel_rfl

set_option maxRecDepth 20000 in
set_option maxHeartbeats 32000000 in
theorem walk (a : Option Addr) (cc : Nat) (es : List Pd) (w : World) (hx : es.length ≤ maxLen) (hD : PdsAt w a es) (hLz : Lz w) :
    Calls Tryz.prog 3 #[.slice a es.length cc] w fun e w' => e = .returned (.bool true) ∧ Below w.heap.size w w' := by
  have DD := hide hD
  have LZ := hide hLz
  have VC := hide (show ∀ (W : World) (P C : Nat) (c : Cf) (base top : Nat) (h hb : CfH), SvI w P C c base top h c hb W → Calls Tryz.prog 12 #[.pointer (some ⟨P, 0, none⟩)] W fun r w' => r = .returned (.int .i64 c.ver) ∧ Below W.heap.size W w' from fun W P C c base top h hb z => version_calls z.own.at_)
  have CC := hide (show ∀ (W : World) (P C : Nat) (c : Cf) (base top : Nat) (h hb : CfH), SvI w P C c base top h c hb W → (c.rs.length ≤ 200 ∧ c.ps.length ≤ 200 ∧ ∀ y ∈ c.ps, y.ts.length ≤ 200) → Calls Tryz.prog 14 #[.pointer (some ⟨P, 0, none⟩)] W fun r w' => ∃ h', r = .returned (.agg #[.int .i64 c.ver, .slice h'.ra c.rs.length h'.rc, .slice h'.pa c.ps.length h'.pc]) ∧ CfAt w' c h' ∧ Below W.heap.size W w' from fun W P C c base top h hb z s => config_calls z.own.at_ (by omega) (by omega) (fun y hy => by have := s.2.2 y hy; omega))
  have SA := hide (show ∀ (W : World) (c : Cf) (h h' : CfH), CfAt W c h → CfAt W c h' → Calls Tryz.prog 13 #[.agg #[.int .i64 c.ver, .slice h.ra c.rs.length h.rc, .slice h.pa c.ps.length h.pc], .agg #[.int .i64 c.ver, .slice h'.ra c.rs.length h'.rc, .slice h'.pa c.ps.length h'.pc]] W fun r w' => r = .returned (.bool true) ∧ Below W.heap.size W w' from fun W c h h' u v => sameC_calls u v)
  simp only [maxLen] at hx
  clear hD hLz
  go_enter Tryz.func3, Tryz.ntmps3
  go_wp2_with fail
  go_at_call 6
  refine (new_calls _).mono ?_
  rintro r V1 ⟨rfl, n1, b1⟩
  have b2 : Below V1.heap.size V1 (V1.alloc (.cells #[.int .i64 0, .slice none 0 0, .slice none 0 0] 28)) := (Below.refl _ _).alloc (Nat.le_refl _) _
  have X2 := heap_new V1 (.cells #[.int .i64 0, .slice none 0 0, .slice none 0 0] 28)
  have lp1 := (Array.getElem?_eq_some_iff.1 (n1 0).row).1
  have lc1 := (Array.getElem?_eq_some_iff.1 X2).1
  have Z := hide (show SvI w w.heap.size V1.heap.size ⟨0, [], []⟩ (V1.alloc (.cells #[.int .i64 0, .slice none 0 0, .slice none 0 0] 28)).heap.size (V1.alloc (.cells #[.int .i64 0, .slice none 0 0, .slice none 0 0] 28)).heap.size ⟨none, 0, none, 0⟩ ⟨0, [], []⟩ ⟨none, 0, none, 0⟩ (V1.alloc (.cells #[.int .i64 0, .slice none 0 0, .slice none 0 0] 28)) from
    ⟨later_block b2 (n1 0).row, fun w' _ => confN w', Nat.le_refl _, by have := b2.size; omega, lc1, by omega, X2, Nat.le_refl _, b1.size, b1.trans (b2.mono b1.size), confN w⟩)
  have SH := hide (show ([] : List Rt).length ≤ 200 ∧ ([] : List Po).length ≤ 200 ∧ ∀ y ∈ ([] : List Po), y.ts.length ≤ 200 from ⟨by simp, by simp, by simp⟩)
  clear n1 b1 b2 X2 lp1 lc1
  go_wp2_with fail
  generalize V1.alloc _ = V2 at *
  generalize hP : w.heap.size = P at Z ⊢
  clear hP
  generalize V1.heap.size = C at *
  generalize hsz : V2.heap.size = sz at Z
  clear hsz
  go_loopw [5] (fun i wr => ∃ (j : Nat) (c : Cf) (base top : Nat) (h hb : CfH), j ≤ es.length ∧ j ≤ 60 ∧ i = .int .i64 (j : Int) ∧ Hid (SvI w P C c base top h c hb wr) ∧ Hid (c.rs.length ≤ 200 ∧ c.ps.length ≤ 200 ∧ ∀ y ∈ c.ps, y.ts.length ≤ 200)) (fun i _ => es.length - (intOf i).toNat)
  case atStart => exact ⟨0, _, _, _, _, _, by omega, by omega, rfl, Z, SH⟩
  case round =>
    obtain ⟨j, c, base, top, h, hb, hj, hj60, rfl, Z, SH⟩ := hrel
    have fin : (¬ j < es.length ∨ ¬ j < 60) ∨ (j < es.length ∧ j < 60) := by omega
    rcases fin with fin | ⟨hjn, hjm⟩
    · rcases (show ¬ j < es.length ∨ (j < es.length ∧ ¬ j < 60) by omega) with f1 | ⟨f1, f2⟩
      · have y1 : ¬ (j : Int) < (es.length : Int) := by omega
        go_wp2_with fail
        have Z := hide (unhide Z).drew
        have hvv : (c.ver == c.ver) = true := by simp
        refine wp_region_held_drew (S := fun w' => w'.cell? ⟨C, 0, none⟩ = some (.int .i64 c.ver)) (by kernel_rfl) ?_ (fun hHeld => ?_)
        · try dsimp only
          exact (unhide Z).cells.1
        refine held_one 0 (oi := { dst := some 119, op := Op.call { callee := Callee.value (Operand.func 15), args := #[], argTypes := #[] }, type := 4, pos := "law.go:179", after := #[], guard := none }) (by kernel_rfl) rfl (fun K hK => ?_)
        go_simp
        first
          | (go_at_call 15
             refine (live10_calls _).mono ?_
             rintro r U1 ⟨rfl, u1⟩
             have Z := hide ((unhide Z).later u1)
             clear u1)
          | (go_at_call 12
             refine (unhide VC _ _ _ _ _ _ _ _ (unhide Z)).mono ?_
             rintro r U2 ⟨rfl, u2⟩
             have Z := hide ((unhide Z).later u2)
             clear u2)
        go_wp2_with fail
        refine hK.out _ _ ?_ (fun hHeld => ?_)
        · try dsimp only
          exact (unhide Z).cells.1
        clear hK K
        try simp only [Act.put, List.setIfInBounds_toArray, List.set_cons_zero, List.set_cons_succ]
        refine held_take 1 (oi := { dst := some 120, op := Op.move (Operand.tmp 119), type := 4, pos := "law.go:179", after := #[{ on := 0, ground := Ground.data }, { on := 0, ground := Ground.chain }], guard := none }) (v := ?_) (by kernel_rfl) rfl (by rfl) (by kernel_rfl) (by kernel_rfl) (fun _ _ _ h => h) ?_ (by assumption) ?_
        rotate_left
        · (intro w hSw; (try dsimp only at hSw); go_simp; try with_reducible rfl)
        try simp only [Act.put, List.setIfInBounds_toArray, List.set_cons_zero, List.set_cons_succ]
        refine held_take 2 (oi := { dst := some 121, op := Op.move (Operand.tmp 3), type := 23, pos := "law.go:179", after := #[{ on := 1, ground := Ground.guard }], guard := some (1, true) }) (v := ?_) (by kernel_rfl) rfl (by rfl) (by kernel_rfl) (by kernel_rfl) (fun _ _ _ h => h) ?_ (by assumption) ?_
        rotate_left
        · (intro w hSw; (try dsimp only at hSw); go_simp; try with_reducible rfl)
        try simp only [Act.put, List.setIfInBounds_toArray, List.set_cons_zero, List.set_cons_succ]
        refine held_take 4 (oi := { dst := some 123, op := Op.fieldAddr 28 (Operand.tmp 4) 0, type := 0, pos := "law.go:179", after := #[{ on := 1, ground := Ground.guard }], guard := some (1, true) }) (v := ?_) (by kernel_rfl) rfl (by rfl) (by kernel_rfl) (by kernel_rfl) (fun _ _ _ h => h) ?_ (by assumption) ?_
        rotate_left
        · (intro w hSw; (try dsimp only at hSw); go_simp; try with_reducible rfl)
        try simp only [Act.put, List.setIfInBounds_toArray, List.set_cons_zero, List.set_cons_succ]
        refine held_take 5 (oi := { dst := some 124, op := Op.load 3 (Operand.tmp 123), type := 3, pos := "law.go:179", after := #[{ on := 4, ground := Ground.data }, { on := 1, ground := Ground.guard }], guard := some (1, true) }) (v := ?_) (by kernel_rfl) rfl (by rfl) (by kernel_rfl) (by kernel_rfl) (fun _ _ _ h => h) ?_ (by assumption) ?_
        rotate_left
        · (intro w hSw; (try dsimp only at hSw); go_simp; try with_reducible rfl)
        try simp only [Act.put, List.setIfInBounds_toArray, List.set_cons_zero, List.set_cons_succ]
        refine held_one 3 (oi := { dst := some 122, op := Op.call { callee := Callee.value (Operand.func 12), args := #[Operand.tmp 121], argTypes := #[23] }, type := 3, pos := "law.go:179", after := #[{ on := 2, ground := Ground.data }, { on := 1, ground := Ground.chain }, { on := 1, ground := Ground.guard }], guard := some (1, true) }) (by kernel_rfl) rfl (fun K hK => ?_)
        go_simp
        first
          | (go_at_call 15
             refine (live10_calls _).mono ?_
             rintro r U1 ⟨rfl, u1⟩
             have Z := hide ((unhide Z).later u1)
             clear u1)
          | (go_at_call 12
             refine (unhide VC _ _ _ _ _ _ _ _ (unhide Z)).mono ?_
             rintro r U2 ⟨rfl, u2⟩
             have Z := hide ((unhide Z).later u2)
             clear u2)
        go_wp2_with fail
        refine hK.out _ _ ?_ (fun hHeld => ?_)
        · try dsimp only
          exact (unhide Z).cells.1
        clear hK K
        try simp only [Act.put, List.setIfInBounds_toArray, List.set_cons_zero, List.set_cons_succ]
        refine held_take 6 (oi := { dst := some 125, op := Op.binOp BinOp.eql 3 (Operand.tmp 122) (Operand.tmp 124) 3, type := 4, pos := "law.go:179", after := #[{ on := 3, ground := Ground.data }, { on := 5, ground := Ground.data }, { on := 1, ground := Ground.guard }], guard := some (1, true) }) (v := ?_) (by kernel_rfl) rfl (by rfl) (by kernel_rfl) (by kernel_rfl) (fun _ _ _ h => h) ?_ (by assumption) ?_
        rotate_left
        · (intro w hSw; (try dsimp only at hSw); go_simp; try with_reducible rfl)
        try simp only [Act.put, List.setIfInBounds_toArray, List.set_cons_zero, List.set_cons_succ]
        refine held_take 7 (oi := { dst := some 126, op := Op.pick (Operand.tmp 120) (Operand.tmp 125) (Operand.const (Value.bool false)), type := 4, pos := "law.go:179", after := #[{ on := 1, ground := Ground.data }, { on := 6, ground := Ground.data }], guard := none }) (v := ?_) (by kernel_rfl) rfl (by rfl) (by kernel_rfl) (by kernel_rfl) (fun _ _ _ h => h) ?_ (by assumption) ?_
        rotate_left
        · (intro w hSw; (try dsimp only at hSw); go_simp; try with_reducible rfl)
        try simp only [Act.put, List.setIfInBounds_toArray, List.set_cons_zero, List.set_cons_succ]
        refine held_take 8 (oi := { dst := some 2, op := Op.assign (Operand.tmp 126), type := 4, pos := "law.go:179", after := #[{ on := 7, ground := Ground.data }, { on := 3, ground := Ground.chain }, { on := 0, ground := Ground.phase }, { on := 1, ground := Ground.phase }, { on := 2, ground := Ground.phase }, { on := 3, ground := Ground.phase }, { on := 4, ground := Ground.phase }, { on := 5, ground := Ground.phase }, { on := 6, ground := Ground.phase }, { on := 7, ground := Ground.phase }], guard := none }) (v := ?_) (by kernel_rfl) rfl (by rfl) (by kernel_rfl) (by kernel_rfl) (fun _ _ _ h => h) ?_ (by assumption) ?_
        rotate_left
        · (intro w hSw; (try dsimp only at hSw); go_simp; try with_reducible rfl)
        try simp only [Act.put, List.setIfInBounds_toArray, List.set_cons_zero, List.set_cons_succ]
        refine wpAnyH_done (by kernel_rfl) ?_ _
        go_wp2_with fail
        go_ret
        exact ⟨rfl, (unhide Z).bel⟩
      · have y1 : (j : Int) < (es.length : Int) := by omega
        have y2 : ¬ (j : Int) < 60 := by omega
        go_wp2_with fail
        have Z := hide (unhide Z).drew
        have hvv : (c.ver == c.ver) = true := by simp
        refine wp_region_held_drew (S := fun w' => w'.cell? ⟨C, 0, none⟩ = some (.int .i64 c.ver)) (by kernel_rfl) ?_ (fun hHeld => ?_)
        · try dsimp only
          exact (unhide Z).cells.1
        refine held_one 0 (oi := { dst := some 119, op := Op.call { callee := Callee.value (Operand.func 15), args := #[], argTypes := #[] }, type := 4, pos := "law.go:179", after := #[], guard := none }) (by kernel_rfl) rfl (fun K hK => ?_)
        go_simp
        first
          | (go_at_call 15
             refine (live10_calls _).mono ?_
             rintro r U1 ⟨rfl, u1⟩
             have Z := hide ((unhide Z).later u1)
             clear u1)
          | (go_at_call 12
             refine (unhide VC _ _ _ _ _ _ _ _ (unhide Z)).mono ?_
             rintro r U2 ⟨rfl, u2⟩
             have Z := hide ((unhide Z).later u2)
             clear u2)
        go_wp2_with fail
        refine hK.out _ _ ?_ (fun hHeld => ?_)
        · try dsimp only
          exact (unhide Z).cells.1
        clear hK K
        try simp only [Act.put, List.setIfInBounds_toArray, List.set_cons_zero, List.set_cons_succ]
        refine held_take 1 (oi := { dst := some 120, op := Op.move (Operand.tmp 119), type := 4, pos := "law.go:179", after := #[{ on := 0, ground := Ground.data }, { on := 0, ground := Ground.chain }], guard := none }) (v := ?_) (by kernel_rfl) rfl (by rfl) (by kernel_rfl) (by kernel_rfl) (fun _ _ _ h => h) ?_ (by assumption) ?_
        rotate_left
        · (intro w hSw; (try dsimp only at hSw); go_simp; try with_reducible rfl)
        try simp only [Act.put, List.setIfInBounds_toArray, List.set_cons_zero, List.set_cons_succ]
        refine held_take 2 (oi := { dst := some 121, op := Op.move (Operand.tmp 3), type := 23, pos := "law.go:179", after := #[{ on := 1, ground := Ground.guard }], guard := some (1, true) }) (v := ?_) (by kernel_rfl) rfl (by rfl) (by kernel_rfl) (by kernel_rfl) (fun _ _ _ h => h) ?_ (by assumption) ?_
        rotate_left
        · (intro w hSw; (try dsimp only at hSw); go_simp; try with_reducible rfl)
        try simp only [Act.put, List.setIfInBounds_toArray, List.set_cons_zero, List.set_cons_succ]
        refine held_take 4 (oi := { dst := some 123, op := Op.fieldAddr 28 (Operand.tmp 4) 0, type := 0, pos := "law.go:179", after := #[{ on := 1, ground := Ground.guard }], guard := some (1, true) }) (v := ?_) (by kernel_rfl) rfl (by rfl) (by kernel_rfl) (by kernel_rfl) (fun _ _ _ h => h) ?_ (by assumption) ?_
        rotate_left
        · (intro w hSw; (try dsimp only at hSw); go_simp; try with_reducible rfl)
        try simp only [Act.put, List.setIfInBounds_toArray, List.set_cons_zero, List.set_cons_succ]
        refine held_take 5 (oi := { dst := some 124, op := Op.load 3 (Operand.tmp 123), type := 3, pos := "law.go:179", after := #[{ on := 4, ground := Ground.data }, { on := 1, ground := Ground.guard }], guard := some (1, true) }) (v := ?_) (by kernel_rfl) rfl (by rfl) (by kernel_rfl) (by kernel_rfl) (fun _ _ _ h => h) ?_ (by assumption) ?_
        rotate_left
        · (intro w hSw; (try dsimp only at hSw); go_simp; try with_reducible rfl)
        try simp only [Act.put, List.setIfInBounds_toArray, List.set_cons_zero, List.set_cons_succ]
        refine held_one 3 (oi := { dst := some 122, op := Op.call { callee := Callee.value (Operand.func 12), args := #[Operand.tmp 121], argTypes := #[23] }, type := 3, pos := "law.go:179", after := #[{ on := 2, ground := Ground.data }, { on := 1, ground := Ground.chain }, { on := 1, ground := Ground.guard }], guard := some (1, true) }) (by kernel_rfl) rfl (fun K hK => ?_)
        go_simp
        first
          | (go_at_call 15
             refine (live10_calls _).mono ?_
             rintro r U1 ⟨rfl, u1⟩
             have Z := hide ((unhide Z).later u1)
             clear u1)
          | (go_at_call 12
             refine (unhide VC _ _ _ _ _ _ _ _ (unhide Z)).mono ?_
             rintro r U2 ⟨rfl, u2⟩
             have Z := hide ((unhide Z).later u2)
             clear u2)
        go_wp2_with fail
        refine hK.out _ _ ?_ (fun hHeld => ?_)
        · try dsimp only
          exact (unhide Z).cells.1
        clear hK K
        try simp only [Act.put, List.setIfInBounds_toArray, List.set_cons_zero, List.set_cons_succ]
        refine held_take 6 (oi := { dst := some 125, op := Op.binOp BinOp.eql 3 (Operand.tmp 122) (Operand.tmp 124) 3, type := 4, pos := "law.go:179", after := #[{ on := 3, ground := Ground.data }, { on := 5, ground := Ground.data }, { on := 1, ground := Ground.guard }], guard := some (1, true) }) (v := ?_) (by kernel_rfl) rfl (by rfl) (by kernel_rfl) (by kernel_rfl) (fun _ _ _ h => h) ?_ (by assumption) ?_
        rotate_left
        · (intro w hSw; (try dsimp only at hSw); go_simp; try with_reducible rfl)
        try simp only [Act.put, List.setIfInBounds_toArray, List.set_cons_zero, List.set_cons_succ]
        refine held_take 7 (oi := { dst := some 126, op := Op.pick (Operand.tmp 120) (Operand.tmp 125) (Operand.const (Value.bool false)), type := 4, pos := "law.go:179", after := #[{ on := 1, ground := Ground.data }, { on := 6, ground := Ground.data }], guard := none }) (v := ?_) (by kernel_rfl) rfl (by rfl) (by kernel_rfl) (by kernel_rfl) (fun _ _ _ h => h) ?_ (by assumption) ?_
        rotate_left
        · (intro w hSw; (try dsimp only at hSw); go_simp; try with_reducible rfl)
        try simp only [Act.put, List.setIfInBounds_toArray, List.set_cons_zero, List.set_cons_succ]
        refine held_take 8 (oi := { dst := some 2, op := Op.assign (Operand.tmp 126), type := 4, pos := "law.go:179", after := #[{ on := 7, ground := Ground.data }, { on := 3, ground := Ground.chain }, { on := 0, ground := Ground.phase }, { on := 1, ground := Ground.phase }, { on := 2, ground := Ground.phase }, { on := 3, ground := Ground.phase }, { on := 4, ground := Ground.phase }, { on := 5, ground := Ground.phase }, { on := 6, ground := Ground.phase }, { on := 7, ground := Ground.phase }], guard := none }) (v := ?_) (by kernel_rfl) rfl (by rfl) (by kernel_rfl) (by kernel_rfl) (fun _ _ _ h => h) ?_ (by assumption) ?_
        rotate_left
        · (intro w hSw; (try dsimp only at hSw); go_simp; try with_reducible rfl)
        try simp only [Act.put, List.setIfInBounds_toArray, List.set_cons_zero, List.set_cons_succ]
        refine wpAnyH_done (by kernel_rfl) ?_ _
        go_wp2_with fail
        go_ret
        exact ⟨rfl, (unhide Z).bel⟩
    · have y0 : (0 : Int) ≤ (j : Int) := by omega
      have y1 : (j : Int) < (es.length : Int) := by omega
      have y2 : (j : Int) < 60 := by omega
      obtain ⟨eb, eo, hx, hae, row, pd⟩ := (unhide DD).cell j hjn
      obtain ⟨x0, x1, x2, x3, x4, x5⟩ := row.later (unhide Z).bel
      have PDW := hide pd
      clear row pd
      generalize es[j] = x at *
      have v1 : Below wr.heap.size wr (wr.alloc (.cells #[.int .i64 x.kind, .int .i64 x.cf.ver, .slice hx.cf.ra x.cf.rs.length hx.cf.rc, .slice hx.cf.pa x.cf.ps.length hx.cf.pc, .slice hx.ba x.bs.length hx.bc, .float .f64 x.draw] 32)) := (Below.refl _ _).alloc (Nat.le_refl _) _
      have XB := hide (show XBox wr.heap.size x hx (wr.alloc (.cells #[.int .i64 x.kind, .int .i64 x.cf.ver, .slice hx.cf.ra x.cf.rs.length hx.cf.rc, .slice hx.cf.pa x.cf.ps.length hx.cf.pc, .slice hx.ba x.bs.length hx.bc, .float .f64 x.draw] 32)) from heap_new _ _)
      have Z := hide ((unhide Z).later v1)
      obtain ⟨⟨k0, k1, k2, k3⟩, k4, k5⟩ := (unhide XB).cells
      have SC := hide (fun (W : World) (u : Below w.heap.size w W) => short_calls ((unhide PDW).cf.later u))
      have wk := (unhide PDW).wk
      have wv := (unhide PDW).cf.wv
      unfold cfVal at SC
      clear v1
      subst hae
      have hsf := run_storeF .plain
      go_wp2_with fail
      clear hsf
      clear x0 x1 x2 x3 x4 x5 k0 k1 k2 k3 k4 k5
      generalize wr.alloc _ = V1 at *
      generalize wr.heap.size = X at *
      go_at_call 7
      refine (unhide SC _ (unhide Z).bel).mono ?_
      rintro r V2 ⟨rfl, v2⟩
      have Z := hide ((unhide Z).later v2)
      have XB := hide ((unhide XB).later v2)
      clear v2
      obtain ⟨⟨k0, k1, k2, k3⟩, k4, k5⟩ := (unhide XB).cells
      cases hs : shortC x.cf with
      | false =>
        go_wp2
        exact ⟨⟨j + 1, c, base, top, h, hb, by omega, by omega, by go_num, Z, SH⟩, by simp [intOf]; omega⟩
      | true =>
        have SX := hide (short_each hs)
        have hpl3 : x.cf.ps.length ≤ 200 := (unhide SX).2.1
        by_cases hl : 5000 < x.bs.length
        · have y3 : (5000 : Int) < (x.bs.length : Int) := by omega
          go_wp2
          exact ⟨⟨j + 1, c, base, top, h, hb, by omega, by omega, by go_num, Z, SH⟩, by simp [intOf]; omega⟩
        · have y3 : ¬ (5000 : Int) < (x.bs.length : Int) := by omega
          by_cases hk : x.kind = 0
          · have hk1 : (x.kind == 0) = true := by simp [hk]
            have KC := hide (fun (W : World) (u : Below w.heap.size w W) => copyO_calls ((unhide PDW).cf.later u) hs)
            unfold cfVal at KC
            go_wp2_with fail
            clear k0 k1 k2 k3 k4 k5
            go_at_call 8
            refine (unhide KC _ (unhide Z).bel).mono ?_
            rintro r V3 ⟨k3, rfl, cf3, v3, l3, ow3, hl3⟩
            have B3 := hide v3
            have CF3 := hide cf3
            have OW3 := hide ow3
            have L3 := hide (show l3.length = x.cf.ps.length by rw [← hl3, List.length_map])
            have HL3 := hide (show ∀ y ∈ l3, y.po.ts.length ≤ 1000 from fun y hy => by
              have := (unhide SX).2.2 y.po (by rw [← hl3]; exact List.mem_map_of_mem hy)
              omega)
            clear v3 cf3 ow3 hl3 KC
            by_cases hv : c.ver < x.cf.ver
            · have AC := hide (applyS_calls (unhide Z) (unhide XB) (unhide B3) (unhide CF3) (unhide OW3) hs)
              have XO := heap_new V3 (.cells #[.int .i64 x.cf.ver, .slice k3.ra x.cf.rs.length k3.rc, .slice k3.pa x.cf.ps.length k3.pc] 28)
              have o0 := box_cell XO 0 _ rfl
              have o1 := box_cell XO 1 _ rfl
              have o2 := box_cell XO 2 _ rfl
              go_wp2_with fail
              clear o0 o1 o2 XO
              unfold cfVal at AC
              go_at_call 9
              refine (unhide AC).mono ?_
              rintro r V4 hend
              rcases hend with ⟨hn, _⟩ | ⟨hv, rfl, base3, top3, h3, ap⟩
              · omega
              · clear AC B3 CF3 OW3
                have A := hide ap
                clear ap
                generalize V2.heap.size = lo at *
                generalize V3.heap.size = O at *
                generalize hhi : O + 1 = hi at A
                clear hhi
                go_wp2_with fail
                go_loopw [9] (fun i wr => ∃ q : Nat, q ≤ x.cf.ps.length ∧ i = .int .i64 (q : Int) ∧ Hid (Ap w P C X O lo hi x.cf base3 top3 h3 c hb x hx k3 l3 V4 wr)) (fun i _ => x.cf.ps.length - (intOf i).toNat)
                case atStart => exact ⟨0, by omega, rfl, A⟩
                case round =>
                  obtain ⟨q, hq, rfl, A⟩ := hrel
                  obtain ⟨wo, hwo⟩ : ∃ wo, wo = wr := ⟨_, rfl⟩
                  subst hwo
                  have o2 := box_cell (unhide A).ob 2 _ rfl
                  by_cases hqn : q < x.cf.ps.length
                  · have z0 : (0 : Int) ≤ (q : Int) := by omega
                    have z1 : (q : Int) < (x.cf.ps.length : Int) := by omega
                    have hql : q < l3.length := by rw [unhide L3]; exact hqn
                    obtain ⟨pg, hpg, pc⟩ := (unhide A).pool q hql
                    rw [Nat.zero_add] at pc
                    have PQ := hide (show ∀ W, Ap w P C X O lo hi x.cf base3 top3 h3 c hb x hx k3 l3 V4 W → W.cell? ⟨pg, q * 2 + 1, none⟩ = some (.slice (some ⟨l3[q].g, 0, none⟩) l3[q].po.ts.length l3[q].c) from fun W a => by
                      obtain ⟨g, e, p⟩ := a.pool q hql
                      rw [Nat.zero_add] at p
                      rw [hpg] at e
                      cases e
                      exact p)
                    have PY := hide (List.getElem_mem hql)
                    have hyl : l3[q].po.ts.length ≤ 1000 := unhide HL3 _ (List.getElem_mem hql)
                    generalize hyy : l3[q] = y at *
                    clear hyy
                    rw [hpg] at o2
                    go_wp2_with fail
                    clear o2 pc
                    go_loopw [10] (fun i w5 => ∃ f : Nat, f ≤ y.po.ts.length ∧ i = .int .i64 (f : Int) ∧ Hid (Ap w P C X O lo hi x.cf base3 top3 h3 c hb x hx k3 l3 V4 w5)) (fun i _ => y.po.ts.length - (intOf i).toNat)
                    case atStart => exact ⟨0, by omega, rfl, A⟩
                    case round =>
                      obtain ⟨f, hf, rfl, A⟩ := hrel
                      have o2 := box_cell (unhide A).ob 2 _ rfl
                      rw [hpg] at o2
                      have pc := unhide PQ _ (unhide A)
                      by_cases hfn : f < y.po.ts.length
                      · have w0 : (0 : Int) ≤ (f : Int) := by omega
                        have w1 : (f : Int) < (y.po.ts.length : Int) := by omega
                        obtain ⟨⟨s, sc⟩, sf, a'⟩ := (unhide A).step (unhide PY) f hfn
                        rw [Nat.zero_add] at sc sf a'
                        have A' := hide a'
                        clear a'
                        generalize y.po.ts.length = tl at *
                        go_wp2
                        exact ⟨⟨f + 1, by omega, by go_num, A'⟩, by simp [intOf]; omega⟩
                      · have w1 : ¬ (f : Int) < (y.po.ts.length : Int) := by omega
                        obtain rfl : f = y.po.ts.length := by omega
                        generalize y.po.ts.length = tl at *
                        go_wp2
                        exact ⟨⟨q + 1, by omega, by go_num, A⟩, by simp [intOf]; omega⟩
                  · have z1 : ¬ (q : Int) < (x.cf.ps.length : Int) := by omega
                    obtain rfl : q = x.cf.ps.length := by omega
                    have Z := hide (unhide A).z
                    have XB := hide (unhide A).xb
                    obtain ⟨⟨x0, x1, x2, x3⟩, x4, x5⟩ := (unhide XB).cells
                    obtain ⟨c0, c1, c2⟩ := (unhide Z).cells
                    have hv2 : decide (c.ver < x.cf.ver) = true := decide_eq_true hv
                    have f0 := froz_of (unhide Z).box 0
                    have f1 := froz_of (unhide Z).box 1
                    have f2 := froz_of (unhide Z).box 2
                    have Z := hide ((unhide Z).put (unhide PDW).cf)
                    have SH := SX
                    go_wp2_with fail
                    clear x0 x1 x2 x3 x4 x5 c0 c1 c2 f0 f1 f2 o2 A XB
                    generalize ((wo.setCell ⟨C, 0, none⟩ (.int .i64 x.cf.ver)).setCell ⟨C, 1, none⟩ (.slice hx.cf.ra x.cf.rs.length hx.cf.rc)).setCell ⟨C, 2, none⟩ (.slice hx.cf.pa x.cf.ps.length hx.cf.pc) = W6 at *
                    obtain ⟨c0, c1, c2⟩ := (unhide Z).cells
                    go_wp2_with fail
                    clear c0 c1 c2
                    have Z := hide (unhide Z).drew
                    have hvv : (x.cf.ver == x.cf.ver) = true := by simp
                    refine wp_region_held_drew (S := fun w' => w'.cell? ⟨C, 0, none⟩ = some (.int .i64 x.cf.ver) ∧ w'.cell? ⟨C, 1, none⟩ = some (.slice hx.cf.ra x.cf.rs.length hx.cf.rc) ∧ w'.cell? ⟨C, 2, none⟩ = some (.slice hx.cf.pa x.cf.ps.length hx.cf.pc)) (by kernel_rfl) ?_ (fun hHeld => ?_)
                    · try dsimp only
                      exact (unhide Z).cells
                    refine held_take 0 (oi := { dst := some 107, op := Op.move (Operand.tmp 3), type := 23, pos := "law.go:175", after := #[], guard := none }) (v := ?_) (by kernel_rfl) rfl (by rfl) (by kernel_rfl) (by kernel_rfl) (fun _ _ _ h => h) ?_ (by assumption) ?_
                    rotate_left
                    · (intro w hSw; (try dsimp only at hSw); go_simp; try with_reducible rfl)
                    try simp only [Act.put, List.setIfInBounds_toArray, List.set_cons_zero, List.set_cons_succ]
                    refine held_take 2 (oi := { dst := some 109, op := Op.fieldAddr 28 (Operand.tmp 4) 0, type := 0, pos := "law.go:175", after := #[], guard := none }) (v := ?_) (by kernel_rfl) rfl (by rfl) (by kernel_rfl) (by kernel_rfl) (fun _ _ _ h => h) ?_ (by assumption) ?_
                    rotate_left
                    · (intro w hSw; (try dsimp only at hSw); go_simp; try with_reducible rfl)
                    try simp only [Act.put, List.setIfInBounds_toArray, List.set_cons_zero, List.set_cons_succ]
                    refine held_take 3 (oi := { dst := some 110, op := Op.load 3 (Operand.tmp 109), type := 3, pos := "law.go:175", after := #[{ on := 2, ground := Ground.data }], guard := none }) (v := ?_) (by kernel_rfl) rfl (by rfl) (by kernel_rfl) (by kernel_rfl) (fun _ _ _ h => h) ?_ (by assumption) ?_
                    rotate_left
                    · (intro w hSw; (try dsimp only at hSw); go_simp; try with_reducible rfl)
                    try simp only [Act.put, List.setIfInBounds_toArray, List.set_cons_zero, List.set_cons_succ]
                    refine held_one 1 (oi := { dst := some 108, op := Op.call { callee := Callee.value (Operand.func 12), args := #[Operand.tmp 107], argTypes := #[23] }, type := 3, pos := "law.go:175", after := #[{ on := 0, ground := Ground.data }], guard := none }) (by kernel_rfl) rfl (fun K hK => ?_)
                    go_simp
                    first
                      | (go_at_call 12
                         refine (unhide VC _ _ _ _ _ _ _ _ (unhide Z)).mono ?_
                         rintro r U1 ⟨rfl, u1⟩
                         have Z := hide ((unhide Z).later u1)
                         clear u1)
                      | (go_at_call 14
                         refine (unhide CC _ _ _ _ _ _ _ _ (unhide Z) (unhide SH)).mono ?_
                         rintro r U2 ⟨k2, rfl, cf2, u2⟩
                         have Z := hide ((unhide Z).later u2)
                         have CF2 := hide cf2
                         clear u2 cf2)
                      | (go_at_call 13
                         refine (unhide SA _ _ _ _ (unhide CF2) ((unhide Z).cf.later (unhide Z).bel)).mono ?_
                         rintro r U3 ⟨rfl, u3⟩
                         have Z := hide ((unhide Z).later u3)
                         clear u3)
                    go_wp2_with fail
                    refine hK.out _ _ ?_ (fun hHeld => ?_)
                    · try dsimp only
                      exact (unhide Z).cells
                    clear hK K
                    try simp only [Act.put, List.setIfInBounds_toArray, List.set_cons_zero, List.set_cons_succ]
                    refine held_take 4 (oi := { dst := some 111, op := Op.binOp BinOp.neq 3 (Operand.tmp 108) (Operand.tmp 110) 3, type := 4, pos := "law.go:175", after := #[{ on := 1, ground := Ground.data }, { on := 3, ground := Ground.data }], guard := none }) (v := ?_) (by kernel_rfl) rfl (by rfl) (by kernel_rfl) (by kernel_rfl) (fun _ _ _ h => h) ?_ (by assumption) ?_
                    rotate_left
                    · (intro w hSw; (try dsimp only at hSw); go_simp; try with_reducible rfl)
                    try simp only [Act.put, List.setIfInBounds_toArray, List.set_cons_zero, List.set_cons_succ]
                    refine held_take 5 (oi := { dst := some 112, op := Op.move (Operand.tmp 111), type := 4, pos := "law.go:175", after := #[{ on := 4, ground := Ground.data }, { on := 1, ground := Ground.chain }], guard := none }) (v := ?_) (by kernel_rfl) rfl (by rfl) (by kernel_rfl) (by kernel_rfl) (fun _ _ _ h => h) ?_ (by assumption) ?_
                    rotate_left
                    · (intro w hSw; (try dsimp only at hSw); go_simp; try with_reducible rfl)
                    try simp only [Act.put, List.setIfInBounds_toArray, List.set_cons_zero, List.set_cons_succ]
                    refine held_take 6 (oi := { dst := some 113, op := Op.move (Operand.tmp 3), type := 23, pos := "law.go:175", after := #[{ on := 5, ground := Ground.guard }], guard := some (5, false) }) (v := ?_) (by kernel_rfl) rfl (by rfl) (by kernel_rfl) (by kernel_rfl) (fun _ _ _ h => h) ?_ (by assumption) ?_
                    rotate_left
                    · (intro w hSw; (try dsimp only at hSw); go_simp; try with_reducible rfl)
                    try simp only [Act.put, List.setIfInBounds_toArray, List.set_cons_zero, List.set_cons_succ]
                    refine held_take 8 (oi := { dst := some 115, op := Op.load 28 (Operand.tmp 4), type := 28, pos := "law.go:175", after := #[{ on := 5, ground := Ground.guard }], guard := some (5, false) }) (v := ?_) (by kernel_rfl) rfl (by rfl) (by kernel_rfl) (by kernel_rfl) (fun _ _ _ h => h) ?_ (by assumption) ?_
                    rotate_left
                    · (intro w hSw; (try dsimp only at hSw); go_simp; try with_reducible rfl)
                    try simp only [Act.put, List.setIfInBounds_toArray, List.set_cons_zero, List.set_cons_succ]
                    refine held_one 7 (oi := { dst := some 114, op := Op.call { callee := Callee.value (Operand.func 14), args := #[Operand.tmp 113], argTypes := #[23] }, type := 28, pos := "law.go:175", after := #[{ on := 6, ground := Ground.data }, { on := 5, ground := Ground.chain }, { on := 5, ground := Ground.guard }], guard := some (5, false) }) (by kernel_rfl) rfl (fun K hK => ?_)
                    go_simp
                    first
                      | (go_at_call 12
                         refine (unhide VC _ _ _ _ _ _ _ _ (unhide Z)).mono ?_
                         rintro r U1 ⟨rfl, u1⟩
                         have Z := hide ((unhide Z).later u1)
                         clear u1)
                      | (go_at_call 14
                         refine (unhide CC _ _ _ _ _ _ _ _ (unhide Z) (unhide SH)).mono ?_
                         rintro r U2 ⟨k2, rfl, cf2, u2⟩
                         have Z := hide ((unhide Z).later u2)
                         have CF2 := hide cf2
                         clear u2 cf2)
                      | (go_at_call 13
                         refine (unhide SA _ _ _ _ (unhide CF2) ((unhide Z).cf.later (unhide Z).bel)).mono ?_
                         rintro r U3 ⟨rfl, u3⟩
                         have Z := hide ((unhide Z).later u3)
                         clear u3)
                    go_wp2_with fail
                    refine hK.out _ _ ?_ (fun hHeld => ?_)
                    · try dsimp only
                      exact (unhide Z).cells
                    clear hK K
                    try simp only [Act.put, List.setIfInBounds_toArray, List.set_cons_zero, List.set_cons_succ]
                    refine held_one 9 (oi := { dst := some 116, op := Op.call { callee := Callee.value (Operand.func 13), args := #[Operand.tmp 114, Operand.tmp 115], argTypes := #[28, 28] }, type := 4, pos := "law.go:175", after := #[{ on := 7, ground := Ground.data }, { on := 8, ground := Ground.data }, { on := 7, ground := Ground.chain }, { on := 5, ground := Ground.guard }], guard := some (5, false) }) (by kernel_rfl) rfl (fun K hK => ?_)
                    go_simp
                    first
                      | (go_at_call 12
                         refine (unhide VC _ _ _ _ _ _ _ _ (unhide Z)).mono ?_
                         rintro r U1 ⟨rfl, u1⟩
                         have Z := hide ((unhide Z).later u1)
                         clear u1)
                      | (go_at_call 14
                         refine (unhide CC _ _ _ _ _ _ _ _ (unhide Z) (unhide SH)).mono ?_
                         rintro r U2 ⟨k2, rfl, cf2, u2⟩
                         have Z := hide ((unhide Z).later u2)
                         have CF2 := hide cf2
                         clear u2 cf2)
                      | (go_at_call 13
                         refine (unhide SA _ _ _ _ (unhide CF2) ((unhide Z).cf.later (unhide Z).bel)).mono ?_
                         rintro r U3 ⟨rfl, u3⟩
                         have Z := hide ((unhide Z).later u3)
                         clear u3)
                    go_wp2_with fail
                    refine hK.out _ _ ?_ (fun hHeld => ?_)
                    · try dsimp only
                      exact (unhide Z).cells
                    clear hK K
                    try simp only [Act.put, List.setIfInBounds_toArray, List.set_cons_zero, List.set_cons_succ]
                    refine held_take 10 (oi := { dst := some 117, op := Op.unOp UnOp.not 4 (Operand.tmp 116), type := 4, pos := "law.go:175", after := #[{ on := 9, ground := Ground.data }, { on := 5, ground := Ground.guard }], guard := some (5, false) }) (v := ?_) (by kernel_rfl) rfl (by rfl) (by kernel_rfl) (by kernel_rfl) (fun _ _ _ h => h) ?_ (by assumption) ?_
                    rotate_left
                    · (intro w hSw; (try dsimp only at hSw); go_simp; try with_reducible rfl)
                    try simp only [Act.put, List.setIfInBounds_toArray, List.set_cons_zero, List.set_cons_succ]
                    refine held_take 11 (oi := { dst := some 118, op := Op.pick (Operand.tmp 112) (Operand.const (Value.bool true)) (Operand.tmp 117), type := 4, pos := "law.go:175", after := #[{ on := 5, ground := Ground.data }, { on := 10, ground := Ground.data }], guard := none }) (v := ?_) (by kernel_rfl) rfl (by rfl) (by kernel_rfl) (by kernel_rfl) (fun _ _ _ h => h) ?_ (by assumption) ?_
                    rotate_left
                    · (intro w hSw; (try dsimp only at hSw); go_simp; try with_reducible rfl)
                    try simp only [Act.put, List.setIfInBounds_toArray, List.set_cons_zero, List.set_cons_succ]
                    refine wpAnyH_done (by kernel_rfl) ?_ _
                    go_wp2
                    exact ⟨⟨j + 1, x.cf, base3, top3, h3, hx.cf, by omega, by omega, by go_num, Z, SH⟩, by simp [intOf]; omega⟩
            · have AC := hide (applyS_calls (unhide Z) (unhide XB) (unhide B3) (unhide CF3) (unhide OW3) hs)
              have XO := heap_new V3 (.cells #[.int .i64 x.cf.ver, .slice k3.ra x.cf.rs.length k3.rc, .slice k3.pa x.cf.ps.length k3.pc] 28)
              have o0 := box_cell XO 0 _ rfl
              have o1 := box_cell XO 1 _ rfl
              have o2 := box_cell XO 2 _ rfl
              go_wp2_with fail
              clear o0 o1 o2 XO
              unfold cfVal at AC
              go_at_call 9
              refine (unhide AC).mono ?_
              rintro r V4 hend
              rcases hend with ⟨hv, rfl, ap⟩ | ⟨hn, _⟩
              rotate_left
              · omega
              · clear AC B3 CF3 OW3
                have A := hide ap
                clear ap
                generalize V2.heap.size = lo at *
                generalize V3.heap.size = O at *
                generalize hhi : O + 1 = hi at A
                clear hhi
                go_wp2_with fail
                go_loopw [9] (fun i wr => ∃ q : Nat, q ≤ x.cf.ps.length ∧ i = .int .i64 (q : Int) ∧ Hid (Ap w P C X O lo hi c base top h c hb x hx k3 l3 V4 wr)) (fun i _ => x.cf.ps.length - (intOf i).toNat)
                case atStart => exact ⟨0, by omega, rfl, A⟩
                case round =>
                  obtain ⟨q, hq, rfl, A⟩ := hrel
                  obtain ⟨wo, hwo⟩ : ∃ wo, wo = wr := ⟨_, rfl⟩
                  subst hwo
                  have o2 := box_cell (unhide A).ob 2 _ rfl
                  by_cases hqn : q < x.cf.ps.length
                  · have z0 : (0 : Int) ≤ (q : Int) := by omega
                    have z1 : (q : Int) < (x.cf.ps.length : Int) := by omega
                    have hql : q < l3.length := by rw [unhide L3]; exact hqn
                    obtain ⟨pg, hpg, pc⟩ := (unhide A).pool q hql
                    rw [Nat.zero_add] at pc
                    have PQ := hide (show ∀ W, Ap w P C X O lo hi c base top h c hb x hx k3 l3 V4 W → W.cell? ⟨pg, q * 2 + 1, none⟩ = some (.slice (some ⟨l3[q].g, 0, none⟩) l3[q].po.ts.length l3[q].c) from fun W a => by
                      obtain ⟨g, e, p⟩ := a.pool q hql
                      rw [Nat.zero_add] at p
                      rw [hpg] at e
                      cases e
                      exact p)
                    have PY := hide (List.getElem_mem hql)
                    have hyl : l3[q].po.ts.length ≤ 1000 := unhide HL3 _ (List.getElem_mem hql)
                    generalize hyy : l3[q] = y at *
                    clear hyy
                    rw [hpg] at o2
                    go_wp2_with fail
                    clear o2 pc
                    go_loopw [10] (fun i w5 => ∃ f : Nat, f ≤ y.po.ts.length ∧ i = .int .i64 (f : Int) ∧ Hid (Ap w P C X O lo hi c base top h c hb x hx k3 l3 V4 w5)) (fun i _ => y.po.ts.length - (intOf i).toNat)
                    case atStart => exact ⟨0, by omega, rfl, A⟩
                    case round =>
                      obtain ⟨f, hf, rfl, A⟩ := hrel
                      have o2 := box_cell (unhide A).ob 2 _ rfl
                      rw [hpg] at o2
                      have pc := unhide PQ _ (unhide A)
                      by_cases hfn : f < y.po.ts.length
                      · have w0 : (0 : Int) ≤ (f : Int) := by omega
                        have w1 : (f : Int) < (y.po.ts.length : Int) := by omega
                        obtain ⟨⟨s, sc⟩, sf, a'⟩ := (unhide A).step (unhide PY) f hfn
                        rw [Nat.zero_add] at sc sf a'
                        have A' := hide a'
                        clear a'
                        generalize y.po.ts.length = tl at *
                        go_wp2
                        exact ⟨⟨f + 1, by omega, by go_num, A'⟩, by simp [intOf]; omega⟩
                      · have w1 : ¬ (f : Int) < (y.po.ts.length : Int) := by omega
                        obtain rfl : f = y.po.ts.length := by omega
                        generalize y.po.ts.length = tl at *
                        go_wp2
                        exact ⟨⟨q + 1, by omega, by go_num, A⟩, by simp [intOf]; omega⟩
                  · have z1 : ¬ (q : Int) < (x.cf.ps.length : Int) := by omega
                    obtain rfl : q = x.cf.ps.length := by omega
                    have Z := hide (unhide A).z
                    have XB := hide (unhide A).xb
                    obtain ⟨⟨x0, x1, x2, x3⟩, x4, x5⟩ := (unhide XB).cells
                    obtain ⟨c0, c1, c2⟩ := (unhide Z).cells
                    have hv2 : decide (c.ver < x.cf.ver) = false := decide_eq_false (by omega)
                    go_wp2_with fail
                    clear x0 x1 x2 x3 x4 x5 c0 c1 c2 o2 A XB
                    obtain ⟨c0, c1, c2⟩ := (unhide Z).cells
                    go_wp2_with fail
                    clear c0 c1 c2
                    have Z := hide (unhide Z).drew
                    have hvv : (c.ver == c.ver) = true := by simp
                    refine wp_region_held_drew (S := fun w' => w'.cell? ⟨C, 0, none⟩ = some (.int .i64 c.ver) ∧ w'.cell? ⟨C, 1, none⟩ = some (.slice hb.ra c.rs.length hb.rc) ∧ w'.cell? ⟨C, 2, none⟩ = some (.slice hb.pa c.ps.length hb.pc)) (by kernel_rfl) ?_ (fun hHeld => ?_)
                    · try dsimp only
                      exact (unhide Z).cells
                    refine held_take 0 (oi := { dst := some 107, op := Op.move (Operand.tmp 3), type := 23, pos := "law.go:175", after := #[], guard := none }) (v := ?_) (by kernel_rfl) rfl (by rfl) (by kernel_rfl) (by kernel_rfl) (fun _ _ _ h => h) ?_ (by assumption) ?_
                    rotate_left
                    · (intro w hSw; (try dsimp only at hSw); go_simp; try with_reducible rfl)
                    try simp only [Act.put, List.setIfInBounds_toArray, List.set_cons_zero, List.set_cons_succ]
                    refine held_take 2 (oi := { dst := some 109, op := Op.fieldAddr 28 (Operand.tmp 4) 0, type := 0, pos := "law.go:175", after := #[], guard := none }) (v := ?_) (by kernel_rfl) rfl (by rfl) (by kernel_rfl) (by kernel_rfl) (fun _ _ _ h => h) ?_ (by assumption) ?_
                    rotate_left
                    · (intro w hSw; (try dsimp only at hSw); go_simp; try with_reducible rfl)
                    try simp only [Act.put, List.setIfInBounds_toArray, List.set_cons_zero, List.set_cons_succ]
                    refine held_take 3 (oi := { dst := some 110, op := Op.load 3 (Operand.tmp 109), type := 3, pos := "law.go:175", after := #[{ on := 2, ground := Ground.data }], guard := none }) (v := ?_) (by kernel_rfl) rfl (by rfl) (by kernel_rfl) (by kernel_rfl) (fun _ _ _ h => h) ?_ (by assumption) ?_
                    rotate_left
                    · (intro w hSw; (try dsimp only at hSw); go_simp; try with_reducible rfl)
                    try simp only [Act.put, List.setIfInBounds_toArray, List.set_cons_zero, List.set_cons_succ]
                    refine held_one 1 (oi := { dst := some 108, op := Op.call { callee := Callee.value (Operand.func 12), args := #[Operand.tmp 107], argTypes := #[23] }, type := 3, pos := "law.go:175", after := #[{ on := 0, ground := Ground.data }], guard := none }) (by kernel_rfl) rfl (fun K hK => ?_)
                    go_simp
                    first
                      | (go_at_call 12
                         refine (unhide VC _ _ _ _ _ _ _ _ (unhide Z)).mono ?_
                         rintro r U1 ⟨rfl, u1⟩
                         have Z := hide ((unhide Z).later u1)
                         clear u1)
                      | (go_at_call 14
                         refine (unhide CC _ _ _ _ _ _ _ _ (unhide Z) (unhide SH)).mono ?_
                         rintro r U2 ⟨k2, rfl, cf2, u2⟩
                         have Z := hide ((unhide Z).later u2)
                         have CF2 := hide cf2
                         clear u2 cf2)
                      | (go_at_call 13
                         refine (unhide SA _ _ _ _ (unhide CF2) ((unhide Z).cf.later (unhide Z).bel)).mono ?_
                         rintro r U3 ⟨rfl, u3⟩
                         have Z := hide ((unhide Z).later u3)
                         clear u3)
                    go_wp2_with fail
                    refine hK.out _ _ ?_ (fun hHeld => ?_)
                    · try dsimp only
                      exact (unhide Z).cells
                    clear hK K
                    try simp only [Act.put, List.setIfInBounds_toArray, List.set_cons_zero, List.set_cons_succ]
                    refine held_take 4 (oi := { dst := some 111, op := Op.binOp BinOp.neq 3 (Operand.tmp 108) (Operand.tmp 110) 3, type := 4, pos := "law.go:175", after := #[{ on := 1, ground := Ground.data }, { on := 3, ground := Ground.data }], guard := none }) (v := ?_) (by kernel_rfl) rfl (by rfl) (by kernel_rfl) (by kernel_rfl) (fun _ _ _ h => h) ?_ (by assumption) ?_
                    rotate_left
                    · (intro w hSw; (try dsimp only at hSw); go_simp; try with_reducible rfl)
                    try simp only [Act.put, List.setIfInBounds_toArray, List.set_cons_zero, List.set_cons_succ]
                    refine held_take 5 (oi := { dst := some 112, op := Op.move (Operand.tmp 111), type := 4, pos := "law.go:175", after := #[{ on := 4, ground := Ground.data }, { on := 1, ground := Ground.chain }], guard := none }) (v := ?_) (by kernel_rfl) rfl (by rfl) (by kernel_rfl) (by kernel_rfl) (fun _ _ _ h => h) ?_ (by assumption) ?_
                    rotate_left
                    · (intro w hSw; (try dsimp only at hSw); go_simp; try with_reducible rfl)
                    try simp only [Act.put, List.setIfInBounds_toArray, List.set_cons_zero, List.set_cons_succ]
                    refine held_take 6 (oi := { dst := some 113, op := Op.move (Operand.tmp 3), type := 23, pos := "law.go:175", after := #[{ on := 5, ground := Ground.guard }], guard := some (5, false) }) (v := ?_) (by kernel_rfl) rfl (by rfl) (by kernel_rfl) (by kernel_rfl) (fun _ _ _ h => h) ?_ (by assumption) ?_
                    rotate_left
                    · (intro w hSw; (try dsimp only at hSw); go_simp; try with_reducible rfl)
                    try simp only [Act.put, List.setIfInBounds_toArray, List.set_cons_zero, List.set_cons_succ]
                    refine held_take 8 (oi := { dst := some 115, op := Op.load 28 (Operand.tmp 4), type := 28, pos := "law.go:175", after := #[{ on := 5, ground := Ground.guard }], guard := some (5, false) }) (v := ?_) (by kernel_rfl) rfl (by rfl) (by kernel_rfl) (by kernel_rfl) (fun _ _ _ h => h) ?_ (by assumption) ?_
                    rotate_left
                    · (intro w hSw; (try dsimp only at hSw); go_simp; try with_reducible rfl)
                    try simp only [Act.put, List.setIfInBounds_toArray, List.set_cons_zero, List.set_cons_succ]
                    refine held_one 7 (oi := { dst := some 114, op := Op.call { callee := Callee.value (Operand.func 14), args := #[Operand.tmp 113], argTypes := #[23] }, type := 28, pos := "law.go:175", after := #[{ on := 6, ground := Ground.data }, { on := 5, ground := Ground.chain }, { on := 5, ground := Ground.guard }], guard := some (5, false) }) (by kernel_rfl) rfl (fun K hK => ?_)
                    go_simp
                    first
                      | (go_at_call 12
                         refine (unhide VC _ _ _ _ _ _ _ _ (unhide Z)).mono ?_
                         rintro r U1 ⟨rfl, u1⟩
                         have Z := hide ((unhide Z).later u1)
                         clear u1)
                      | (go_at_call 14
                         refine (unhide CC _ _ _ _ _ _ _ _ (unhide Z) (unhide SH)).mono ?_
                         rintro r U2 ⟨k2, rfl, cf2, u2⟩
                         have Z := hide ((unhide Z).later u2)
                         have CF2 := hide cf2
                         clear u2 cf2)
                      | (go_at_call 13
                         refine (unhide SA _ _ _ _ (unhide CF2) ((unhide Z).cf.later (unhide Z).bel)).mono ?_
                         rintro r U3 ⟨rfl, u3⟩
                         have Z := hide ((unhide Z).later u3)
                         clear u3)
                    go_wp2_with fail
                    refine hK.out _ _ ?_ (fun hHeld => ?_)
                    · try dsimp only
                      exact (unhide Z).cells
                    clear hK K
                    try simp only [Act.put, List.setIfInBounds_toArray, List.set_cons_zero, List.set_cons_succ]
                    refine held_one 9 (oi := { dst := some 116, op := Op.call { callee := Callee.value (Operand.func 13), args := #[Operand.tmp 114, Operand.tmp 115], argTypes := #[28, 28] }, type := 4, pos := "law.go:175", after := #[{ on := 7, ground := Ground.data }, { on := 8, ground := Ground.data }, { on := 7, ground := Ground.chain }, { on := 5, ground := Ground.guard }], guard := some (5, false) }) (by kernel_rfl) rfl (fun K hK => ?_)
                    go_simp
                    first
                      | (go_at_call 12
                         refine (unhide VC _ _ _ _ _ _ _ _ (unhide Z)).mono ?_
                         rintro r U1 ⟨rfl, u1⟩
                         have Z := hide ((unhide Z).later u1)
                         clear u1)
                      | (go_at_call 14
                         refine (unhide CC _ _ _ _ _ _ _ _ (unhide Z) (unhide SH)).mono ?_
                         rintro r U2 ⟨k2, rfl, cf2, u2⟩
                         have Z := hide ((unhide Z).later u2)
                         have CF2 := hide cf2
                         clear u2 cf2)
                      | (go_at_call 13
                         refine (unhide SA _ _ _ _ (unhide CF2) ((unhide Z).cf.later (unhide Z).bel)).mono ?_
                         rintro r U3 ⟨rfl, u3⟩
                         have Z := hide ((unhide Z).later u3)
                         clear u3)
                    go_wp2_with fail
                    refine hK.out _ _ ?_ (fun hHeld => ?_)
                    · try dsimp only
                      exact (unhide Z).cells
                    clear hK K
                    try simp only [Act.put, List.setIfInBounds_toArray, List.set_cons_zero, List.set_cons_succ]
                    refine held_take 10 (oi := { dst := some 117, op := Op.unOp UnOp.not 4 (Operand.tmp 116), type := 4, pos := "law.go:175", after := #[{ on := 9, ground := Ground.data }, { on := 5, ground := Ground.guard }], guard := some (5, false) }) (v := ?_) (by kernel_rfl) rfl (by rfl) (by kernel_rfl) (by kernel_rfl) (fun _ _ _ h => h) ?_ (by assumption) ?_
                    rotate_left
                    · (intro w hSw; (try dsimp only at hSw); go_simp; try with_reducible rfl)
                    try simp only [Act.put, List.setIfInBounds_toArray, List.set_cons_zero, List.set_cons_succ]
                    refine held_take 11 (oi := { dst := some 118, op := Op.pick (Operand.tmp 112) (Operand.const (Value.bool true)) (Operand.tmp 117), type := 4, pos := "law.go:175", after := #[{ on := 5, ground := Ground.data }, { on := 10, ground := Ground.data }], guard := none }) (v := ?_) (by kernel_rfl) rfl (by rfl) (by kernel_rfl) (by kernel_rfl) (fun _ _ _ h => h) ?_ (by assumption) ?_
                    rotate_left
                    · (intro w hSw; (try dsimp only at hSw); go_simp; try with_reducible rfl)
                    try simp only [Act.put, List.setIfInBounds_toArray, List.set_cons_zero, List.set_cons_succ]
                    refine wpAnyH_done (by kernel_rfl) ?_ _
                    go_wp2
                    exact ⟨⟨j + 1, c, base, top, h, hb, by omega, by omega, by go_num, Z, SH⟩, by simp [intOf]; omega⟩
          · have hk1 : (x.kind == 0) = false := by simp [hk]
            obtain ⟨st, hst⟩ : ∃ st, st = serveL x.bs c.rs c.ps x.draw := ⟨_, rfl⟩
            have SV := hide (show ∀ (W : World), SvI w P C c base top h c hb W → Calls Tryz.prog 10 #[.pointer (some ⟨P, 0, none⟩), .slice hx.ba x.bs.length hx.bc, .float .f64 x.draw] W fun r w' => r = .returned (.agg #[.int .i64 st.1, .int .i64 c.ver, .string st.2.1, .string st.2.2]) ∧ Below W.heap.size W w' from fun W z => by
              rw [hst]
              exact serve_calls z.own.at_ (fun y hy => by have := (unhide SH).2.2 y hy; omega) hx.ba hx.bc x.draw x.bs ((unhide PDW).bts.later z.bel) (unhide PDW).bl.1 (unhide PDW).bz ((unhide LZ).later z.bel) (unhide PDW).dl)
            have RV := hide (show ∀ (W : World), SvI w P C c base top h c hb W → Calls Tryz.prog 11 #[.agg #[.int .i64 c.ver, .slice hb.ra c.rs.length hb.rc, .slice hb.pa c.ps.length hb.pc], .slice hx.ba x.bs.length hx.bc, .float .f64 x.draw] W fun r w' => r = .returned (.agg #[.int .i64 st.1, .int .i64 c.ver, .string st.2.1, .string st.2.2]) ∧ Below W.heap.size W w' from fun W z => by
              rw [hst]
              exact rserve_calls (z.cf.later z.bel) (fun y hy => by have := (unhide SH).2.2 y hy; omega) hx.ba hx.bc x.draw x.bs ((unhide PDW).bts.later z.bel) (unhide PDW).bl.1 (by omega) (unhide PDW).dl)
            obtain ⟨s1, s2, s3⟩ := st
            dsimp only at SV RV
            clear hst
            go_wp2_with fail
            clear k0 k1 k2 k3 k4 k5
            have Z := hide (unhide Z).drew
            have XB := hide ((unhide XB).later ((Below.refl V2.heap.size V2).drew))
            refine wp_region_held_drew (S := fun w' => (w'.cell? ⟨X, 4, none⟩ = some (.slice hx.ba x.bs.length hx.bc) ∧ w'.cell? ⟨X, 5, none⟩ = some (.float .f64 x.draw)) ∧ w'.cell? ⟨C, 0, none⟩ = some (.int .i64 c.ver) ∧ w'.cell? ⟨C, 1, none⟩ = some (.slice hb.ra c.rs.length hb.rc) ∧ w'.cell? ⟨C, 2, none⟩ = some (.slice hb.pa c.ps.length hb.pc)) (by kernel_rfl) ?_ (fun hHeld => ?_)
            · try dsimp only
              exact ⟨(unhide XB).cells.2, (unhide Z).cells⟩
            refine held_take 0 (oi := { dst := some 94, op := Op.move (Operand.tmp 3), type := 23, pos := "law.go:172", after := #[], guard := none }) (v := ?_) (by kernel_rfl) rfl (by rfl) (by kernel_rfl) (by kernel_rfl) (fun _ _ _ h => h) ?_ (by assumption) ?_
            rotate_left
            · (intro w hSw; (try dsimp only at hSw); go_simp; try with_reducible rfl)
            try simp only [Act.put, List.setIfInBounds_toArray, List.set_cons_zero, List.set_cons_succ]
            refine held_take 1 (oi := { dst := some 95, op := Op.fieldAddr 32 (Operand.tmp 6) 2, type := 0, pos := "law.go:172", after := #[], guard := none }) (v := ?_) (by kernel_rfl) rfl (by rfl) (by kernel_rfl) (by kernel_rfl) (fun _ _ _ h => h) ?_ (by assumption) ?_
            rotate_left
            · (intro w hSw; (try dsimp only at hSw); go_simp; try with_reducible rfl)
            try simp only [Act.put, List.setIfInBounds_toArray, List.set_cons_zero, List.set_cons_succ]
            refine held_take 2 (oi := { dst := some 96, op := Op.load 29 (Operand.tmp 95), type := 29, pos := "law.go:172", after := #[{ on := 1, ground := Ground.data }], guard := none }) (v := ?_) (by kernel_rfl) rfl (by rfl) (by kernel_rfl) (by kernel_rfl) (fun _ _ _ h => h) ?_ (by assumption) ?_
            rotate_left
            · (intro w hSw; (try dsimp only at hSw); go_simp; try with_reducible rfl)
            try simp only [Act.put, List.setIfInBounds_toArray, List.set_cons_zero, List.set_cons_succ]
            refine held_take 3 (oi := { dst := some 97, op := Op.fieldAddr 32 (Operand.tmp 6) 3, type := 0, pos := "law.go:172", after := #[], guard := none }) (v := ?_) (by kernel_rfl) rfl (by rfl) (by kernel_rfl) (by kernel_rfl) (fun _ _ _ h => h) ?_ (by assumption) ?_
            rotate_left
            · (intro w hSw; (try dsimp only at hSw); go_simp; try with_reducible rfl)
            try simp only [Act.put, List.setIfInBounds_toArray, List.set_cons_zero, List.set_cons_succ]
            refine held_take 4 (oi := { dst := some 98, op := Op.load 30 (Operand.tmp 97), type := 30, pos := "law.go:172", after := #[{ on := 3, ground := Ground.data }], guard := none }) (v := ?_) (by kernel_rfl) rfl (by rfl) (by kernel_rfl) (by kernel_rfl) (fun _ _ _ h => h) ?_ (by assumption) ?_
            rotate_left
            · (intro w hSw; (try dsimp only at hSw); go_simp; try with_reducible rfl)
            try simp only [Act.put, List.setIfInBounds_toArray, List.set_cons_zero, List.set_cons_succ]
            refine held_take 6 (oi := { dst := some 100, op := Op.load 28 (Operand.tmp 4), type := 28, pos := "law.go:172", after := #[], guard := none }) (v := ?_) (by kernel_rfl) rfl (by rfl) (by kernel_rfl) (by kernel_rfl) (fun _ _ _ h => h) ?_ (by assumption) ?_
            rotate_left
            · (intro w hSw; (try dsimp only at hSw); go_simp; try with_reducible rfl)
            try simp only [Act.put, List.setIfInBounds_toArray, List.set_cons_zero, List.set_cons_succ]
            refine held_take 7 (oi := { dst := some 101, op := Op.fieldAddr 32 (Operand.tmp 6) 2, type := 0, pos := "law.go:172", after := #[], guard := none }) (v := ?_) (by kernel_rfl) rfl (by rfl) (by kernel_rfl) (by kernel_rfl) (fun _ _ _ h => h) ?_ (by assumption) ?_
            rotate_left
            · (intro w hSw; (try dsimp only at hSw); go_simp; try with_reducible rfl)
            try simp only [Act.put, List.setIfInBounds_toArray, List.set_cons_zero, List.set_cons_succ]
            refine held_take 8 (oi := { dst := some 102, op := Op.load 29 (Operand.tmp 101), type := 29, pos := "law.go:172", after := #[{ on := 7, ground := Ground.data }], guard := none }) (v := ?_) (by kernel_rfl) rfl (by rfl) (by kernel_rfl) (by kernel_rfl) (fun _ _ _ h => h) ?_ (by assumption) ?_
            rotate_left
            · (intro w hSw; (try dsimp only at hSw); go_simp; try with_reducible rfl)
            try simp only [Act.put, List.setIfInBounds_toArray, List.set_cons_zero, List.set_cons_succ]
            refine held_take 9 (oi := { dst := some 103, op := Op.fieldAddr 32 (Operand.tmp 6) 3, type := 0, pos := "law.go:172", after := #[], guard := none }) (v := ?_) (by kernel_rfl) rfl (by rfl) (by kernel_rfl) (by kernel_rfl) (fun _ _ _ h => h) ?_ (by assumption) ?_
            rotate_left
            · (intro w hSw; (try dsimp only at hSw); go_simp; try with_reducible rfl)
            try simp only [Act.put, List.setIfInBounds_toArray, List.set_cons_zero, List.set_cons_succ]
            refine held_take 10 (oi := { dst := some 104, op := Op.load 30 (Operand.tmp 103), type := 30, pos := "law.go:172", after := #[{ on := 9, ground := Ground.data }], guard := none }) (v := ?_) (by kernel_rfl) rfl (by rfl) (by kernel_rfl) (by kernel_rfl) (fun _ _ _ h => h) ?_ (by assumption) ?_
            rotate_left
            · (intro w hSw; (try dsimp only at hSw); go_simp; try with_reducible rfl)
            try simp only [Act.put, List.setIfInBounds_toArray, List.set_cons_zero, List.set_cons_succ]
            refine held_one 5 (oi := { dst := some 99, op := Op.call { callee := Callee.value (Operand.func 10), args := #[Operand.tmp 94, Operand.tmp 96, Operand.tmp 98], argTypes := #[23, 29, 30] }, type := 43, pos := "law.go:172", after := #[{ on := 0, ground := Ground.data }, { on := 2, ground := Ground.data }, { on := 4, ground := Ground.data }], guard := none }) (by kernel_rfl) rfl (fun K hK => ?_)
            go_simp
            first
              | (go_at_call 10
                 refine (unhide SV _ (unhide Z)).mono ?_
                 rintro r U4 ⟨rfl, u4⟩
                 have Z := hide ((unhide Z).later u4)
                 have XB := hide ((unhide XB).later u4)
                 clear u4)
              | (go_at_call 11
                 refine (unhide RV _ (unhide Z)).mono ?_
                 rintro r U5 ⟨rfl, u5⟩
                 have Z := hide ((unhide Z).later u5)
                 have XB := hide ((unhide XB).later u5)
                 clear u5)
            go_wp2_with fail
            refine hK.out _ _ ?_ (fun hHeld => ?_)
            · try dsimp only
              exact ⟨(unhide XB).cells.2, (unhide Z).cells⟩
            clear hK K
            try simp only [Act.put, List.setIfInBounds_toArray, List.set_cons_zero, List.set_cons_succ]
            refine held_one 11 (oi := { dst := some 105, op := Op.call { callee := Callee.value (Operand.func 11), args := #[Operand.tmp 100, Operand.tmp 102, Operand.tmp 104], argTypes := #[28, 29, 30] }, type := 43, pos := "law.go:172", after := #[{ on := 6, ground := Ground.data }, { on := 8, ground := Ground.data }, { on := 10, ground := Ground.data }, { on := 5, ground := Ground.chain }], guard := none }) (by kernel_rfl) rfl (fun K hK => ?_)
            go_simp
            first
              | (go_at_call 10
                 refine (unhide SV _ (unhide Z)).mono ?_
                 rintro r U4 ⟨rfl, u4⟩
                 have Z := hide ((unhide Z).later u4)
                 have XB := hide ((unhide XB).later u4)
                 clear u4)
              | (go_at_call 11
                 refine (unhide RV _ (unhide Z)).mono ?_
                 rintro r U5 ⟨rfl, u5⟩
                 have Z := hide ((unhide Z).later u5)
                 have XB := hide ((unhide XB).later u5)
                 clear u5)
            go_wp2_with fail
            refine hK.out _ _ ?_ (fun hHeld => ?_)
            · try dsimp only
              exact ⟨(unhide XB).cells.2, (unhide Z).cells⟩
            clear hK K
            try simp only [Act.put, List.setIfInBounds_toArray, List.set_cons_zero, List.set_cons_succ]
            refine held_take 12 (oi := { dst := some 106, op := Op.binOp BinOp.neq 43 (Operand.tmp 99) (Operand.tmp 105) 43, type := 4, pos := "law.go:172", after := #[{ on := 5, ground := Ground.data }, { on := 11, ground := Ground.data }], guard := none }) (v := ?_) (by kernel_rfl) rfl (by rfl) (by kernel_rfl) (by kernel_rfl) (fun _ _ _ h => h) ?_ (by assumption) ?_
            rotate_left
            · (intro w hSw; (try dsimp only at hSw); go_simp; try with_reducible rfl)
            try simp only [Act.put, List.setIfInBounds_toArray, List.set_cons_zero, List.set_cons_succ]
            refine wpAnyH_done (by kernel_rfl) ?_ _
            obtain ⟨c0, c1, c2⟩ := (unhide Z).cells
            go_wp2_with fail
            clear c0 c1 c2
            have Z := hide (unhide Z).drew
            have hvv : (c.ver == c.ver) = true := by simp
            refine wp_region_held_drew (S := fun w' => w'.cell? ⟨C, 0, none⟩ = some (.int .i64 c.ver) ∧ w'.cell? ⟨C, 1, none⟩ = some (.slice hb.ra c.rs.length hb.rc) ∧ w'.cell? ⟨C, 2, none⟩ = some (.slice hb.pa c.ps.length hb.pc)) (by kernel_rfl) ?_ (fun hHeld => ?_)
            · try dsimp only
              exact (unhide Z).cells
            refine held_take 0 (oi := { dst := some 107, op := Op.move (Operand.tmp 3), type := 23, pos := "law.go:175", after := #[], guard := none }) (v := ?_) (by kernel_rfl) rfl (by rfl) (by kernel_rfl) (by kernel_rfl) (fun _ _ _ h => h) ?_ (by assumption) ?_
            rotate_left
            · (intro w hSw; (try dsimp only at hSw); go_simp; try with_reducible rfl)
            try simp only [Act.put, List.setIfInBounds_toArray, List.set_cons_zero, List.set_cons_succ]
            refine held_take 2 (oi := { dst := some 109, op := Op.fieldAddr 28 (Operand.tmp 4) 0, type := 0, pos := "law.go:175", after := #[], guard := none }) (v := ?_) (by kernel_rfl) rfl (by rfl) (by kernel_rfl) (by kernel_rfl) (fun _ _ _ h => h) ?_ (by assumption) ?_
            rotate_left
            · (intro w hSw; (try dsimp only at hSw); go_simp; try with_reducible rfl)
            try simp only [Act.put, List.setIfInBounds_toArray, List.set_cons_zero, List.set_cons_succ]
            refine held_take 3 (oi := { dst := some 110, op := Op.load 3 (Operand.tmp 109), type := 3, pos := "law.go:175", after := #[{ on := 2, ground := Ground.data }], guard := none }) (v := ?_) (by kernel_rfl) rfl (by rfl) (by kernel_rfl) (by kernel_rfl) (fun _ _ _ h => h) ?_ (by assumption) ?_
            rotate_left
            · (intro w hSw; (try dsimp only at hSw); go_simp; try with_reducible rfl)
            try simp only [Act.put, List.setIfInBounds_toArray, List.set_cons_zero, List.set_cons_succ]
            refine held_one 1 (oi := { dst := some 108, op := Op.call { callee := Callee.value (Operand.func 12), args := #[Operand.tmp 107], argTypes := #[23] }, type := 3, pos := "law.go:175", after := #[{ on := 0, ground := Ground.data }], guard := none }) (by kernel_rfl) rfl (fun K hK => ?_)
            go_simp
            first
              | (go_at_call 12
                 refine (unhide VC _ _ _ _ _ _ _ _ (unhide Z)).mono ?_
                 rintro r U1 ⟨rfl, u1⟩
                 have Z := hide ((unhide Z).later u1)
                 clear u1)
              | (go_at_call 14
                 refine (unhide CC _ _ _ _ _ _ _ _ (unhide Z) (unhide SH)).mono ?_
                 rintro r U2 ⟨k2, rfl, cf2, u2⟩
                 have Z := hide ((unhide Z).later u2)
                 have CF2 := hide cf2
                 clear u2 cf2)
              | (go_at_call 13
                 refine (unhide SA _ _ _ _ (unhide CF2) ((unhide Z).cf.later (unhide Z).bel)).mono ?_
                 rintro r U3 ⟨rfl, u3⟩
                 have Z := hide ((unhide Z).later u3)
                 clear u3)
            go_wp2_with fail
            refine hK.out _ _ ?_ (fun hHeld => ?_)
            · try dsimp only
              exact (unhide Z).cells
            clear hK K
            try simp only [Act.put, List.setIfInBounds_toArray, List.set_cons_zero, List.set_cons_succ]
            refine held_take 4 (oi := { dst := some 111, op := Op.binOp BinOp.neq 3 (Operand.tmp 108) (Operand.tmp 110) 3, type := 4, pos := "law.go:175", after := #[{ on := 1, ground := Ground.data }, { on := 3, ground := Ground.data }], guard := none }) (v := ?_) (by kernel_rfl) rfl (by rfl) (by kernel_rfl) (by kernel_rfl) (fun _ _ _ h => h) ?_ (by assumption) ?_
            rotate_left
            · (intro w hSw; (try dsimp only at hSw); go_simp; try with_reducible rfl)
            try simp only [Act.put, List.setIfInBounds_toArray, List.set_cons_zero, List.set_cons_succ]
            refine held_take 5 (oi := { dst := some 112, op := Op.move (Operand.tmp 111), type := 4, pos := "law.go:175", after := #[{ on := 4, ground := Ground.data }, { on := 1, ground := Ground.chain }], guard := none }) (v := ?_) (by kernel_rfl) rfl (by rfl) (by kernel_rfl) (by kernel_rfl) (fun _ _ _ h => h) ?_ (by assumption) ?_
            rotate_left
            · (intro w hSw; (try dsimp only at hSw); go_simp; try with_reducible rfl)
            try simp only [Act.put, List.setIfInBounds_toArray, List.set_cons_zero, List.set_cons_succ]
            refine held_take 6 (oi := { dst := some 113, op := Op.move (Operand.tmp 3), type := 23, pos := "law.go:175", after := #[{ on := 5, ground := Ground.guard }], guard := some (5, false) }) (v := ?_) (by kernel_rfl) rfl (by rfl) (by kernel_rfl) (by kernel_rfl) (fun _ _ _ h => h) ?_ (by assumption) ?_
            rotate_left
            · (intro w hSw; (try dsimp only at hSw); go_simp; try with_reducible rfl)
            try simp only [Act.put, List.setIfInBounds_toArray, List.set_cons_zero, List.set_cons_succ]
            refine held_take 8 (oi := { dst := some 115, op := Op.load 28 (Operand.tmp 4), type := 28, pos := "law.go:175", after := #[{ on := 5, ground := Ground.guard }], guard := some (5, false) }) (v := ?_) (by kernel_rfl) rfl (by rfl) (by kernel_rfl) (by kernel_rfl) (fun _ _ _ h => h) ?_ (by assumption) ?_
            rotate_left
            · (intro w hSw; (try dsimp only at hSw); go_simp; try with_reducible rfl)
            try simp only [Act.put, List.setIfInBounds_toArray, List.set_cons_zero, List.set_cons_succ]
            refine held_one 7 (oi := { dst := some 114, op := Op.call { callee := Callee.value (Operand.func 14), args := #[Operand.tmp 113], argTypes := #[23] }, type := 28, pos := "law.go:175", after := #[{ on := 6, ground := Ground.data }, { on := 5, ground := Ground.chain }, { on := 5, ground := Ground.guard }], guard := some (5, false) }) (by kernel_rfl) rfl (fun K hK => ?_)
            go_simp
            first
              | (go_at_call 12
                 refine (unhide VC _ _ _ _ _ _ _ _ (unhide Z)).mono ?_
                 rintro r U1 ⟨rfl, u1⟩
                 have Z := hide ((unhide Z).later u1)
                 clear u1)
              | (go_at_call 14
                 refine (unhide CC _ _ _ _ _ _ _ _ (unhide Z) (unhide SH)).mono ?_
                 rintro r U2 ⟨k2, rfl, cf2, u2⟩
                 have Z := hide ((unhide Z).later u2)
                 have CF2 := hide cf2
                 clear u2 cf2)
              | (go_at_call 13
                 refine (unhide SA _ _ _ _ (unhide CF2) ((unhide Z).cf.later (unhide Z).bel)).mono ?_
                 rintro r U3 ⟨rfl, u3⟩
                 have Z := hide ((unhide Z).later u3)
                 clear u3)
            go_wp2_with fail
            refine hK.out _ _ ?_ (fun hHeld => ?_)
            · try dsimp only
              exact (unhide Z).cells
            clear hK K
            try simp only [Act.put, List.setIfInBounds_toArray, List.set_cons_zero, List.set_cons_succ]
            refine held_one 9 (oi := { dst := some 116, op := Op.call { callee := Callee.value (Operand.func 13), args := #[Operand.tmp 114, Operand.tmp 115], argTypes := #[28, 28] }, type := 4, pos := "law.go:175", after := #[{ on := 7, ground := Ground.data }, { on := 8, ground := Ground.data }, { on := 7, ground := Ground.chain }, { on := 5, ground := Ground.guard }], guard := some (5, false) }) (by kernel_rfl) rfl (fun K hK => ?_)
            go_simp
            first
              | (go_at_call 12
                 refine (unhide VC _ _ _ _ _ _ _ _ (unhide Z)).mono ?_
                 rintro r U1 ⟨rfl, u1⟩
                 have Z := hide ((unhide Z).later u1)
                 clear u1)
              | (go_at_call 14
                 refine (unhide CC _ _ _ _ _ _ _ _ (unhide Z) (unhide SH)).mono ?_
                 rintro r U2 ⟨k2, rfl, cf2, u2⟩
                 have Z := hide ((unhide Z).later u2)
                 have CF2 := hide cf2
                 clear u2 cf2)
              | (go_at_call 13
                 refine (unhide SA _ _ _ _ (unhide CF2) ((unhide Z).cf.later (unhide Z).bel)).mono ?_
                 rintro r U3 ⟨rfl, u3⟩
                 have Z := hide ((unhide Z).later u3)
                 clear u3)
            go_wp2_with fail
            refine hK.out _ _ ?_ (fun hHeld => ?_)
            · try dsimp only
              exact (unhide Z).cells
            clear hK K
            try simp only [Act.put, List.setIfInBounds_toArray, List.set_cons_zero, List.set_cons_succ]
            refine held_take 10 (oi := { dst := some 117, op := Op.unOp UnOp.not 4 (Operand.tmp 116), type := 4, pos := "law.go:175", after := #[{ on := 9, ground := Ground.data }, { on := 5, ground := Ground.guard }], guard := some (5, false) }) (v := ?_) (by kernel_rfl) rfl (by rfl) (by kernel_rfl) (by kernel_rfl) (fun _ _ _ h => h) ?_ (by assumption) ?_
            rotate_left
            · (intro w hSw; (try dsimp only at hSw); go_simp; try with_reducible rfl)
            try simp only [Act.put, List.setIfInBounds_toArray, List.set_cons_zero, List.set_cons_succ]
            refine held_take 11 (oi := { dst := some 118, op := Op.pick (Operand.tmp 112) (Operand.const (Value.bool true)) (Operand.tmp 117), type := 4, pos := "law.go:175", after := #[{ on := 5, ground := Ground.data }, { on := 10, ground := Ground.data }], guard := none }) (v := ?_) (by kernel_rfl) rfl (by rfl) (by kernel_rfl) (by kernel_rfl) (fun _ _ _ h => h) ?_ (by assumption) ?_
            rotate_left
            · (intro w hSw; (try dsimp only at hSw); go_simp; try with_reducible rfl)
            try simp only [Act.put, List.setIfInBounds_toArray, List.set_cons_zero, List.set_cons_succ]
            refine wpAnyH_done (by kernel_rfl) ?_ _
            go_wp2
            exact ⟨⟨j + 1, c, base, top, h, hb, by omega, by omega, by go_num, Z, SH⟩, by simp [intOf]; omega⟩

set_option maxRecDepth 100000 in
theorem lifted (os : Os) (started : os.Started) (H : Type) (enc : TypeId × Value → H) :
    ReturnsInHanded {} Tryz.checked os 3 .any (fun w args => (Rows.planeServesSpec.pre enc Tryz.prog Tryz.f3 Rows.planeServesRow.domain false w args ∧ laidMetH Tryz.prog Rows.planeServesRow.laid w) ∧ sizedMet enc Tryz.prog Tryz.f3 (OpenSpec.ofChange Rows.planeServesSpec) false w args)
      (Rows.planeServesSpec.post enc Tryz.prog Tryz.f3 false true false false) := by
  refine handed_both (C := Tryz.checked) (X := fun w _ => laidMetH Tryz.prog Rows.planeServesRow.laid w) (fun _ _ _ hh h => h.of_heap hh) own started (by kernel_rfl) Tryz.func3
    (ChangeSpec.witness_shaped (enc := enc) (C := Tryz.checked) (os := os) (X := fun w _ => laidMetH Tryz.prog Rows.planeServesRow.laid w) false (World.laidAll Tryz.prog os Rows.planeServesRow.laid) #[.slice none 0 0] 8 (World.laidAll_os _ _ _)
      (World.shaped_of_ZipB (by kernel_rfl) (by kernel_rfl)) (by kernel_rfl) (by kernel_rfl) (by kernel_rfl)
      (by rw [MakeChecks.laidMetH_plain _ _ _ (by kernel_rfl)]; exact laidMet_laidAll _ (by kernel_rfl) (by kernel_rfl))) ?_
  intro W base args ds gs before hval0 hW hcnd hsz hL hsh _
  have hLz : Lz W := lz_of (by rw [MakeChecks.laidMetH_plain _ _ _ (by kernel_rfl)] at hL; exact hL) hsh
  have hval : ∀ (j : Nat) t v, Tryz.f3.params[j]? = some t → args[j]? = some v → Value.okWide Tryz.prog W .any base t v := hval0
  have hW' := hW
  obtain ⟨p, q, hA0, hV, rfl, hfz, hnd⟩ := hW
  have hA : DataW.TrodAll enc Tryz.prog W 0 (fun _ => true) true Tryz.f3.params.toList args.toList ds p := hA0
  rw [Tryz.params3] at hA hval
  obtain ⟨v0, vs0, d0, ds0, p0, q0, hargs, rfl, rfl, h0, r0⟩ := trodAll_cons hA
  obtain ⟨rfl, rfl, rfl⟩ := trodAll_nil r0
  obtain rfl : args = #[v0] := by cases args; simp_all
  obtain ⟨rfl, rfl⟩ := trodVars_none hV
  obtain ⟨a0, len0, c0, rfl⟩ := okWide_slice Tryz.underlying22 (hval 0 22 v0 rfl rfl)
  have k0 := h0
  have lt0 : ∀ x ∈ p0, x.block < W.heap.size := by obtain ⟨m, hm⟩ := k0; exact DataW.trod_lt m _ _ _ hm
  obtain ⟨l0, rfl, hx0, hb0⟩ := ddeeds_arg h0
  clear hA0 hval0
  refine (walk a0 c0 l0 W hx0 hb0 hLz).mono fun e W' ⟨he, bel⟩ => ?_
  subst he
  exact ⟨_, rfl, _, _, _, [], _, [], hW', trodAll_mk1 (shut_bool Tryz.underlying4 _), (trodAll_cons_mk (Below.trod laidOut (by kernel_rfl) (of_decide_eq_true (by kernel_rfl)) k0 bel lt0) trodAll_mk0), rfl, bel.frame _, fun h => by cases h⟩

theorem proved : Rows.PlaneServesSaid :=
  OpenClaim.holds_of_wide 3 Tryz.f3 rfl rfl rfl rfl rfl rfl rfl ⟨rfl, rfl, rfl, rfl, rfl⟩ rfl rfl rfl rfl rfl (by kernel_rfl) Tryz.func3 (by kernel_rfl)
    (of_decide_eq_true (by kernel_rfl)) (by unfold Func.isWrapper; first | (rw [if_pos (by decide +kernel)]; kernel_rfl) | (rw [if_neg (by decide +kernel)]; exact ⟨rfl, rfl⟩))
    (fun os started H enc _ => lifted os started H enc)
theorem card : Rows.PlaneServesCardSaid :=
  Claim7.holds_tied_plain_at .later [] [.data, .pinned, .pinned] true (true, "47b1fa12dcda590fd344540124ecfd24233d7d6f0f953137380c7b4caf07fdec") false proved (fun _ h => by cases h) (by kernel_rfl) (fun _ h => by cases h) planeServes_row_tie rfl ⟨rfl, rfl⟩ (by kernel_rfl) rfl
    (fun f fn hf hfn => by
      obtain rfl : f = 3 := Option.some.inj ((show Tryz.prog.funcNamed "tollgate/tollgatelaw10.PlaneServes" = some 3 by kernel_rfl).symm.trans hf) |>.symm
      obtain rfl : fn = Tryz.f3 := (Option.some.inj (Tryz.func3.symm.trans hfn)).symm
      exact ⟨by kernel_rfl, fun j t ht => by
        rw [Tryz.params3] at ht
        have hm : t ∈ [22] := by simpa using Array.mem_of_getElem? ht
        have hall : ([22].all fun u => !Tryz.prog.wantsStandIn u) = true := by kernel_rfl
        exact (show Tryz.prog.wantsStandIn t = false by simpa using List.all_eq_true.1 hall t hm)⟩)
    (by kernel_rfl)
end Go.Proofs.YtcmiappiocfbiaaGreatDoor.planeServes
namespace Go.Proofs.YtcmiappiocfbiaaGreatDoor
theorem planeServes_holds : Rows.PlaneServesCardSaid := planeServes.card
#print axioms planeServes_holds
end Go.Proofs.YtcmiappiocfbiaaGreatDoor
