/- Proved: planes of one configuration answer alike, whichever they had ahead of it; for all two configurations (those that are short are looked at), bytes and draws; no condition beyond the tables that the row lists (lz_of). -/
import Derived.Test.YtcmiappiocfbiaaGreatDoorB19
import Derived.Test.YtcmiappiocfbiaaGreatDoorTie
import Derived.Test.YtcmiappiocfbiaaGreatDoorCards
import Derived.Lay
import Derived.MakeChecks
import Derived.SevenTiedAt
import Derived.Stop.Joined
namespace Go.Proofs.YtcmiappiocfbiaaGreatDoor.planeSame
open Go.ChangeShapes Go.WideShapes Go.ChangeAt Go.RowKit
set_option linter.unusedVariables false

theorem own : ownKnob Tryz.prog.godebug = none := by kernel_rfl
theorem laidOut : laidOutB Tryz.prog = true := by kernel_rfl

set_option maxRecDepth 20000 in
set_option maxHeartbeats 8000000 in
theorem early (a : Cf) (ha : CfH) (b : Cf) (hb : CfH) (x : Pd) (hx : PdH) (w : World) (h1 : CfAt w a ha) (h2 : CfAt w b hb) (h3 : PdAt w x hx) (hsa : shortC a = true) (hway : shortC b = false ∨ (shortC b = true ∧ ((5000 : Int) < (x.bs.length : Int) ∨ ((x.bs.length : Int) ≤ 5000 ∧ (b.ver ≤ a.ver ∨ (a.ver < b.ver ∧ b.ver < 1)))))) :
    Calls Tryz.prog 5 #[cfVal a ha, cfVal b hb, pdVal x hx] w fun e w' => e = .returned (.bool true) ∧ Below w.heap.size w w' := by
  have S := hide (sm_first w a ha b hb x hx)
  have F1 := hide (fun (W : World) (s : SmAt w a ha b hb x hx W) => short_calls (h1.later s.bel))
  have F2 := hide (fun (W : World) (s : SmAt w a ha b hb x hx W) => short_calls (h2.later s.bel))
  have a1 := h1.wv
  have a2 := h2.wv
  rw [hsa] at F1
  have hl : (x.bs.length : Int) ≤ 9223372036854775807 := by have := h3.bl; simp only [maxLen] at this; omega
  unfold cfVal pdVal at *
  clear h1 h2 h3 hsa
  rcases hway with hsb | ⟨hsb, hway⟩
  · rw [hsb] at F2
    clear hsb
    go_enter Tryz.func5, Tryz.ntmps5
    obtain ⟨⟨c0, c1, c2⟩, ⟨d0, d1, d2⟩, y0, y1⟩ := (unhide S).cells
    go_wp2_with fail
    clear c0 c1 c2 d0 d1 d2 y0 y1
    generalize ((w.alloc _).alloc _).alloc _ = W3 at *
    go_at_call 7
    refine (unhide F1 _ (unhide S)).mono ?_
    rintro r V1 ⟨rfl, v1⟩
    have S := hide ((unhide S).later v1)
    clear v1
    obtain ⟨⟨c0, c1, c2⟩, ⟨d0, d1, d2⟩, y0, y1⟩ := (unhide S).cells
    go_wp2_with fail
    go_at_call 7
    refine (unhide F2 _ (unhide S)).mono ?_
    clear c0 c1 c2 d0 d1 d2 y0 y1
    rintro r V2 ⟨rfl, v2⟩
    have S := hide ((unhide S).later v2)
    clear v2
    obtain ⟨⟨c0, c1, c2⟩, ⟨d0, d1, d2⟩, y0, y1⟩ := (unhide S).cells
    go_wp2_with fail
    go_at_call 15
    refine (live10_calls _).mono ?_
    clear c0 c1 c2 d0 d1 d2 y0 y1
    rintro r V3 ⟨rfl, v3⟩
    have S := hide ((unhide S).later v3)
    clear v3
    go_wp2_with fail
    go_ret
    exact ⟨rfl, (unhide S).bel⟩
  · rw [hsb] at F2
    clear hsb
    rcases hway with y | ⟨y, y2 | ⟨y2, y3⟩⟩
    all_goals
      go_enter Tryz.func5, Tryz.ntmps5
      obtain ⟨⟨c0, c1, c2⟩, ⟨d0, d1, d2⟩, y0, y1⟩ := (unhide S).cells
      go_wp2_with fail
      clear c0 c1 c2 d0 d1 d2 y0 y1
      generalize ((w.alloc _).alloc _).alloc _ = W3 at *
      go_at_call 7
      refine (unhide F1 _ (unhide S)).mono ?_
      rintro r V1 ⟨rfl, v1⟩
      have S := hide ((unhide S).later v1)
      clear v1
      obtain ⟨⟨c0, c1, c2⟩, ⟨d0, d1, d2⟩, y0, y1⟩ := (unhide S).cells
      go_wp2_with fail
      go_at_call 7
      refine (unhide F2 _ (unhide S)).mono ?_
      clear c0 c1 c2 d0 d1 d2 y0 y1
      rintro r V2 ⟨rfl, v2⟩
      have S := hide ((unhide S).later v2)
      clear v2
      obtain ⟨⟨c0, c1, c2⟩, ⟨d0, d1, d2⟩, y0, y1⟩ := (unhide S).cells
      go_wp2_with fail
      go_at_call 15
      refine (live10_calls _).mono ?_
      clear c0 c1 c2 d0 d1 d2 y0 y1
      rintro r V3 ⟨rfl, v3⟩
      have S := hide ((unhide S).later v3)
      clear v3
      go_wp2_with fail
      go_ret
      exact ⟨rfl, (unhide S).bel⟩
set_option maxRecDepth 20000 in
set_option maxHeartbeats 16000000 in
theorem main (a : Cf) (ha : CfH) (b : Cf) (hb : CfH) (x : Pd) (hx : PdH) (w : World) (h1 : CfAt w a ha) (h2 : CfAt w b hb) (h3 : PdAt w x hx) (hLz : Lz w) (hsa : shortC a = true) (hsb : shortC b = true) (y : (x.bs.length : Int) ≤ 5000) (y2 : a.ver < b.ver) (y3 : 1 ≤ b.ver) :
    Calls Tryz.prog 5 #[cfVal a ha, cfVal b hb, pdVal x hx] w fun e w' => e = .returned (.bool true) ∧ Below w.heap.size w w' := by
  have S := hide (sm_first w a ha b hb x hx)
  have F1 := hide (fun (W : World) (s : SmAt w a ha b hb x hx W) => short_calls (h1.later s.bel))
  have F2 := hide (fun (W : World) (s : SmAt w a ha b hb x hx W) => short_calls (h2.later s.bel))
  rw [hsa] at F1
  rw [hsb] at F2
  obtain ⟨g1, g2, g3⟩ := short_each hsb
  obtain ⟨st, hst⟩ : ∃ st, st = serveL x.bs b.rs b.ps x.draw := ⟨_, rfl⟩
  have A1 := hide (fun (W : World) (P Q bp bq : Nat) (e : Cf) (h : CfH) (f : Cf) (k : CfH) (z : Pl2 w a ha b hb x hx P Q bp bq e h f k W) (he : e.ver < b.ver) => applyA_calls z h1 hsa he y2)
  have A2 := hide (fun (W : World) (P Q bp bq : Nat) (e : Cf) (h : CfH) (f : Cf) (k : CfH) (z : Pl2 w a ha b hb x hx P Q bp bq e h f k W) (he : e.ver < b.ver) => applyP_calls z h2 hsb he)
  have A3 := hide (fun (W : World) (P Q bp bq : Nat) (e : Cf) (h : CfH) (k : CfH) (z : Pl2 w a ha b hb x hx P Q bp bq e h ⟨0, [], []⟩ k W) => applyQ_calls z h2 hsb (show (0 : Int) < b.ver by omega))
  have A4 := hide (fun (W : World) (P Q bp bq : Nat) (h : CfH) (f : Cf) (k : CfH) (z : Pl2 w a ha b hb x hx P Q bp bq b h f k W) => applyO_calls z h2 hsb (Int.le_refl _))
  have SV := hide (show ∀ (W : World) (P Q bp bq : Nat) (h : CfH) (k : CfH), Pl2 w a ha b hb x hx P Q bp bq b h b k W → Calls Tryz.prog 10 #[.pointer (some ⟨P, 0, none⟩), .slice hx.ba x.bs.length hx.bc, .float .f64 x.draw] W fun r w' => r = .returned (.agg #[.int .i64 st.1, .int .i64 b.ver, .string st.2.1, .string st.2.2]) ∧ Below W.heap.size W w' from fun W P Q bp bq h k z => by
    rw [hst]
    exact serve_calls z.p.at_ (fun y hy => by have := g3 y hy; omega) hx.ba hx.bc x.draw x.bs (h3.bts.later z.s.bel) h3.bl.1 h3.bz (hLz.later z.s.bel) h3.dl)
  have SC := hide (show ∀ (W : World) (P Q bp bq : Nat) (h : CfH) (k : CfH), Pl2 w a ha b hb x hx P Q bp bq b h b k W → Calls Tryz.prog 14 #[.pointer (some ⟨P, 0, none⟩)] W fun r w' => ∃ h', r = .returned (cfVal b h') ∧ CfAt w' b h' ∧ Below W.heap.size W w' from fun W P Q bp bq h k z => config_calls z.p.at_ (by omega) (by omega) (fun y hy => by have := g3 y hy; omega))
  have SA := hide (show ∀ (W : World) (h h' : CfH), CfAt W b h → CfAt W b h' → Calls Tryz.prog 13 #[cfVal b h, cfVal b h'] W fun r w' => r = .returned (.bool true) ∧ Below W.heap.size W w' from fun W h h' u v => sameC_calls u v)
  have a1 := h1.wv
  have a2 := h2.wv
  have y0' : (0 : Int) < b.ver := by omega
  have Y0 := hide y0'
  have y3' : ¬ b.ver < 1 := by omega
  have y2' : ¬ b.ver ≤ a.ver := by omega
  have y' : ¬ (5000 : Int) < (x.bs.length : Int) := by omega
  obtain ⟨s1, s2, s3⟩ := st
  dsimp only at SV
  have Y2 := hide y2
  clear h1 h2 h3 hsa hsb g1 g2 g3 hst hLz y y2 y3 y0'
  unfold cfVal at *
  unfold pdVal
  go_enter Tryz.func5, Tryz.ntmps5
  obtain ⟨⟨c0, c1, c2⟩, ⟨d0, d1, d2⟩, y0, y1⟩ := (unhide S).cells
  go_wp2_with fail
  clear c0 c1 c2 d0 d1 d2 y0 y1
  generalize ((w.alloc _).alloc _).alloc _ = W3 at *
  go_at_call 7
  refine (unhide F1 _ (unhide S)).mono ?_
  rintro r V1 ⟨rfl, v1⟩
  have S := hide ((unhide S).later v1)
  clear v1
  obtain ⟨⟨c0, c1, c2⟩, ⟨d0, d1, d2⟩, y0, y1⟩ := (unhide S).cells
  go_wp2_with fail
  go_at_call 7
  refine (unhide F2 _ (unhide S)).mono ?_
  clear c0 c1 c2 d0 d1 d2 y0 y1
  rintro r V2 ⟨rfl, v2⟩
  have S := hide ((unhide S).later v2)
  clear v2
  obtain ⟨⟨c0, c1, c2⟩, ⟨d0, d1, d2⟩, y0, y1⟩ := (unhide S).cells
  go_wp2_with fail
  clear c0 c1 c2 d0 d1 d2 y0 y1
  go_at_call 6
  refine (new_calls _).mono ?_
  rintro r V3 ⟨rfl, n3, b3⟩
  have N3 := hide n3
  have B3 := hide b3
  clear n3 b3
  go_wp2_with fail
  go_at_call 6
  refine (new_calls _).mono ?_
  rintro r V4 ⟨rfl, n4, b4⟩
  have Z := hide (new2 (unhide S) (unhide N3) (unhide B3) n4 b4)
  clear n4 b4 N3 B3 S
  generalize V2.heap.size = P at *
  generalize V3.heap.size = Q at *
  generalize hbp : V4.heap.size = bp at Z
  clear hbp
  obtain ⟨⟨c0, c1, c2⟩, ⟨d0, d1, d2⟩, y0, y1⟩ := (unhide Z).s.cells
  go_wp2_with fail
  clear c0 c1 c2 d0 d1 d2 y0 y1
  go_at_call 9
  refine (unhide A1 _ _ _ _ _ _ _ _ _ (unhide Z) (unhide Y0)).mono ?_
  rintro r V5 ⟨m, rfl, bp5, e5, h5, z5, v5⟩
  have Z := hide z5
  have H5 := hide v5
  clear z5 v5
  go_wp2_with fail
  have Z := hide (unhide Z).drew
  refine wp_region_held_drew (S := fun w' => w'.cell? ⟨w.heap.size + 1, 0, none⟩ = some (.int .i64 b.ver) ∧ w'.cell? ⟨w.heap.size + 1, 1, none⟩ = some (.slice hb.ra b.rs.length hb.rc) ∧ w'.cell? ⟨w.heap.size + 1, 2, none⟩ = some (.slice hb.pa b.ps.length hb.pc)) (by kernel_rfl) ?_ (fun hHeld => ?_)
  · try dsimp only
    exact (unhide Z).s.cells.2.1
  refine held_take 0 (oi := { dst := some 44, op := Op.move (Operand.tmp 7), type := 23, pos := "law.go:215", after := #[], guard := none }) (v := ?_) (by kernel_rfl) rfl (by rfl) (by kernel_rfl) (by kernel_rfl) (fun _ _ _ h => h) ?_ (by assumption) ?_
  rotate_left
  · (intro w hSw; (try dsimp only at hSw); go_simp; try with_reducible rfl)
  try simp only [Act.put, List.setIfInBounds_toArray, List.set_cons_zero, List.set_cons_succ]
  refine held_take 1 (oi := { dst := some 45, op := Op.load 28 (Operand.tmp 4), type := 28, pos := "law.go:215", after := #[], guard := none }) (v := ?_) (by kernel_rfl) rfl (by rfl) (by kernel_rfl) (by kernel_rfl) (fun _ _ _ h => h) ?_ (by assumption) ?_
  rotate_left
  · (intro w hSw; (try dsimp only at hSw); go_simp; try with_reducible rfl)
  try simp only [Act.put, List.setIfInBounds_toArray, List.set_cons_zero, List.set_cons_succ]
  refine held_take 3 (oi := { dst := some 47, op := Op.move (Operand.tmp 8), type := 23, pos := "law.go:215", after := #[], guard := none }) (v := ?_) (by kernel_rfl) rfl (by rfl) (by kernel_rfl) (by kernel_rfl) (fun _ _ _ h => h) ?_ (by assumption) ?_
  rotate_left
  · (intro w hSw; (try dsimp only at hSw); go_simp; try with_reducible rfl)
  try simp only [Act.put, List.setIfInBounds_toArray, List.set_cons_zero, List.set_cons_succ]
  refine held_take 4 (oi := { dst := some 48, op := Op.load 28 (Operand.tmp 4), type := 28, pos := "law.go:215", after := #[], guard := none }) (v := ?_) (by kernel_rfl) rfl (by rfl) (by kernel_rfl) (by kernel_rfl) (fun _ _ _ h => h) ?_ (by assumption) ?_
  rotate_left
  · (intro w hSw; (try dsimp only at hSw); go_simp; try with_reducible rfl)
  try simp only [Act.put, List.setIfInBounds_toArray, List.set_cons_zero, List.set_cons_succ]
  refine held_one 2 (oi := { dst := some 46, op := Op.call { callee := Callee.value (Operand.func 9), args := #[Operand.tmp 44, Operand.tmp 45], argTypes := #[23, 28] }, type := 35, pos := "law.go:215", after := #[{ on := 0, ground := Ground.data }, { on := 1, ground := Ground.data }], guard := none }) (by kernel_rfl) rfl (fun K hK => ?_)
  go_simp
  first
    | (have hV : V6 = V6 := rfl
       clear hV
       go_at_call 9
       refine (unhide A3 _ _ _ _ _ _ _ _ (unhide Z)).mono ?_
       rintro r V7 ⟨rfl, h7, z7⟩
       have Z := hide z7
       clear z7)
    | (go_at_call 9
       refine (unhide A2 _ _ _ _ _ _ _ _ _ (unhide Z) (unhide H5)).mono ?_
       rintro r V6 ⟨rfl, h6, z6⟩
       have Z := hide z6
       clear z6)
  go_wp2_with fail
  refine hK.out _ _ ?_ (fun hHeld => ?_)
  · try dsimp only
    exact (unhide Z).s.cells.2.1
  clear hK K
  try simp only [Act.put, List.setIfInBounds_toArray, List.set_cons_zero, List.set_cons_succ]
  refine held_one 5 (oi := { dst := some 49, op := Op.call { callee := Callee.value (Operand.func 9), args := #[Operand.tmp 47, Operand.tmp 48], argTypes := #[23, 28] }, type := 35, pos := "law.go:215", after := #[{ on := 3, ground := Ground.data }, { on := 4, ground := Ground.data }, { on := 2, ground := Ground.chain }], guard := none }) (by kernel_rfl) rfl (fun K hK => ?_)
  go_simp
  first
    | (have hV : V6 = V6 := rfl
       clear hV
       go_at_call 9
       refine (unhide A3 _ _ _ _ _ _ _ _ (unhide Z)).mono ?_
       rintro r V7 ⟨rfl, h7, z7⟩
       have Z := hide z7
       clear z7)
    | (go_at_call 9
       refine (unhide A2 _ _ _ _ _ _ _ _ _ (unhide Z) (unhide H5)).mono ?_
       rintro r V6 ⟨rfl, h6, z6⟩
       have Z := hide z6
       clear z6)
  go_wp2_with fail
  refine hK.out _ _ ?_ (fun hHeld => ?_)
  · try dsimp only
    exact (unhide Z).s.cells.2.1
  clear hK K
  try simp only [Act.put, List.setIfInBounds_toArray, List.set_cons_zero, List.set_cons_succ]
  refine held_take 6 (oi := { dst := some 9, op := Op.assign (Operand.tmp 46), type := 35, pos := "law.go:215", after := #[{ on := 2, ground := Ground.data }, { on := 5, ground := Ground.chain }, { on := 0, ground := Ground.phase }, { on := 1, ground := Ground.phase }, { on := 2, ground := Ground.phase }, { on := 3, ground := Ground.textOnly Departure.lateStores }, { on := 4, ground := Ground.textOnly Departure.lateStores }, { on := 5, ground := Ground.textOnly Departure.lateStoresUnsure }], guard := none }) (v := ?_) (by kernel_rfl) rfl (by rfl) (by kernel_rfl) (by kernel_rfl) (fun _ _ _ h => h) ?_ (by assumption) ?_
  rotate_left
  · (intro w hSw; (try dsimp only at hSw); go_simp; try with_reducible rfl)
  try simp only [Act.put, List.setIfInBounds_toArray, List.set_cons_zero, List.set_cons_succ]
  refine held_take 7 (oi := { dst := some 10, op := Op.assign (Operand.tmp 49), type := 35, pos := "law.go:215", after := #[{ on := 5, ground := Ground.data }, { on := 6, ground := Ground.chain }, { on := 0, ground := Ground.phase }, { on := 1, ground := Ground.phase }, { on := 2, ground := Ground.phase }, { on := 3, ground := Ground.phase }, { on := 4, ground := Ground.phase }, { on := 5, ground := Ground.phase }, { on := 6, ground := Ground.phase }], guard := none }) (v := ?_) (by kernel_rfl) rfl (by rfl) (by kernel_rfl) (by kernel_rfl) (fun _ _ _ h => h) ?_ (by assumption) ?_
  rotate_left
  · (intro w hSw; (try dsimp only at hSw); go_simp; try with_reducible rfl)
  try simp only [Act.put, List.setIfInBounds_toArray, List.set_cons_zero, List.set_cons_succ]
  refine wpAnyH_done (by kernel_rfl) ?_ _
  obtain ⟨⟨c0, c1, c2⟩, ⟨d0, d1, d2⟩, y0, y1⟩ := (unhide Z).s.cells
  go_wp2_with fail
  clear c0 c1 c2 d0 d1 d2 y0 y1
  go_at_call 9
  refine (unhide A4 _ _ _ _ _ _ _ _ (unhide Z)).mono ?_
  rintro r V8 ⟨rfl, z8⟩
  have Z := hide z8
  clear z8
  go_wp2_with fail
  have Z := hide (unhide Z).drew
  refine wp_region_held_drew (S := fun w' => w'.cell? ⟨w.heap.size + 2, 4, none⟩ = some (.slice hx.ba x.bs.length hx.bc) ∧ w'.cell? ⟨w.heap.size + 2, 5, none⟩ = some (.float .f64 x.draw)) (by kernel_rfl) ?_ (fun hHeld => ?_)
  · try dsimp only
    exact (unhide Z).s.cells.2.2
  refine held_one 0 (oi := { dst := some 53, op := Op.call { callee := Callee.value (Operand.func 15), args := #[], argTypes := #[] }, type := 4, pos := "law.go:217", after := #[], guard := none }) (by kernel_rfl) rfl (fun K hK => ?_)
  go_simp
  first
    | (go_at_call 15
       refine (live10_calls _).mono ?_
       rintro r V9 ⟨rfl, v9⟩
       have Z := hide ((unhide Z).later v9)
       clear v9)
    | (have hV : V10 = V10 := rfl
       clear hV
       go_at_call 10
       refine (unhide SV _ _ _ _ _ _ _ (unhide Z).swap).mono ?_
       rintro r V11 ⟨rfl, v11⟩
       have Z := hide ((unhide Z).later v11)
       clear v11)
    | (go_at_call 10
       refine (unhide SV _ _ _ _ _ _ _ (unhide Z)).mono ?_
       rintro r V10 ⟨rfl, v10⟩
       have Z := hide ((unhide Z).later v10)
       clear v10)
    | (have hV : V12 = V12 := rfl
       clear hV
       go_at_call 14
       refine (unhide SC _ _ _ _ _ _ _ (unhide Z).swap).mono ?_
       rintro r V13 ⟨h13, rfl, cf13, v13⟩
       have Z := hide ((unhide Z).later v13)
       have C12 := hide ((unhide C12).later v13)
       have C13 := hide cf13
       clear v13 cf13)
    | (go_at_call 14
       refine (unhide SC _ _ _ _ _ _ _ (unhide Z)).mono ?_
       rintro r V12 ⟨h12, rfl, cf12, v12⟩
       have Z := hide ((unhide Z).later v12)
       have C12 := hide cf12
       clear v12 cf12)
    | (go_at_call 13
       refine (unhide SA _ _ _ (unhide C12) (unhide C13)).mono ?_
       rintro r V14 ⟨rfl, v14⟩
       have Z := hide ((unhide Z).later v14)
       clear v14)
  go_wp2_with fail
  refine hK.out _ _ ?_ (fun hHeld => ?_)
  · try dsimp only
    exact (unhide Z).s.cells.2.2
  clear hK K
  try simp only [Act.put, List.setIfInBounds_toArray, List.set_cons_zero, List.set_cons_succ]
  refine held_take 1 (oi := { dst := some 54, op := Op.move (Operand.tmp 53), type := 4, pos := "law.go:217", after := #[{ on := 0, ground := Ground.data }, { on := 0, ground := Ground.chain }], guard := none }) (v := ?_) (by kernel_rfl) rfl (by rfl) (by kernel_rfl) (by kernel_rfl) (fun _ _ _ h => h) ?_ (by assumption) ?_
  rotate_left
  · (intro w hSw; (try dsimp only at hSw); go_simp; try with_reducible rfl)
  try simp only [Act.put, List.setIfInBounds_toArray, List.set_cons_zero, List.set_cons_succ]
  refine held_take 2 (oi := { dst := some 55, op := Op.move (Operand.tmp 9), type := 35, pos := "law.go:217", after := #[{ on := 1, ground := Ground.guard }], guard := some (1, true) }) (v := ?_) (by kernel_rfl) rfl (by rfl) (by kernel_rfl) (by kernel_rfl) (fun _ _ _ h => h) ?_ (by assumption) ?_
  rotate_left
  · (intro w hSw; (try dsimp only at hSw); go_simp; try with_reducible rfl)
  try simp only [Act.put, List.setIfInBounds_toArray, List.set_cons_zero, List.set_cons_succ]
  refine held_take 3 (oi := { dst := some 56, op := Op.binOp BinOp.eql 35 (Operand.tmp 55) (Operand.const (Value.int IntKind.i64 0)) 35, type := 4, pos := "law.go:217", after := #[{ on := 2, ground := Ground.data }, { on := 1, ground := Ground.guard }], guard := some (1, true) }) (v := ?_) (by kernel_rfl) rfl (by rfl) (by kernel_rfl) (by kernel_rfl) (fun _ _ _ h => h) ?_ (by assumption) ?_
  rotate_left
  · (intro w hSw; (try dsimp only at hSw); go_simp; try with_reducible rfl)
  try simp only [Act.put, List.setIfInBounds_toArray, List.set_cons_zero, List.set_cons_succ]
  refine held_take 4 (oi := { dst := some 57, op := Op.pick (Operand.tmp 54) (Operand.tmp 56) (Operand.const (Value.bool false)), type := 4, pos := "law.go:217", after := #[{ on := 1, ground := Ground.data }, { on := 3, ground := Ground.data }], guard := none }) (v := ?_) (by kernel_rfl) rfl (by rfl) (by kernel_rfl) (by kernel_rfl) (fun _ _ _ h => h) ?_ (by assumption) ?_
  rotate_left
  · (intro w hSw; (try dsimp only at hSw); go_simp; try with_reducible rfl)
  try simp only [Act.put, List.setIfInBounds_toArray, List.set_cons_zero, List.set_cons_succ]
  refine held_take 5 (oi := { dst := some 58, op := Op.move (Operand.tmp 57), type := 4, pos := "law.go:217", after := #[{ on := 4, ground := Ground.data }, { on := 1, ground := Ground.chain }], guard := none }) (v := ?_) (by kernel_rfl) rfl (by rfl) (by kernel_rfl) (by kernel_rfl) (fun _ _ _ h => h) ?_ (by assumption) ?_
  rotate_left
  · (intro w hSw; (try dsimp only at hSw); go_simp; try with_reducible rfl)
  try simp only [Act.put, List.setIfInBounds_toArray, List.set_cons_zero, List.set_cons_succ]
  refine held_take 6 (oi := { dst := some 59, op := Op.move (Operand.tmp 10), type := 35, pos := "law.go:217", after := #[{ on := 5, ground := Ground.guard }], guard := some (5, true) }) (v := ?_) (by kernel_rfl) rfl (by rfl) (by kernel_rfl) (by kernel_rfl) (fun _ _ _ h => h) ?_ (by assumption) ?_
  rotate_left
  · (intro w hSw; (try dsimp only at hSw); go_simp; try with_reducible rfl)
  try simp only [Act.put, List.setIfInBounds_toArray, List.set_cons_zero, List.set_cons_succ]
  refine held_take 7 (oi := { dst := some 60, op := Op.binOp BinOp.eql 35 (Operand.tmp 59) (Operand.const (Value.int IntKind.i64 0)) 35, type := 4, pos := "law.go:217", after := #[{ on := 6, ground := Ground.data }, { on := 5, ground := Ground.guard }], guard := some (5, true) }) (v := ?_) (by kernel_rfl) rfl (by rfl) (by kernel_rfl) (by kernel_rfl) (fun _ _ _ h => h) ?_ (by assumption) ?_
  rotate_left
  · (intro w hSw; (try dsimp only at hSw); go_simp; try with_reducible rfl)
  try simp only [Act.put, List.setIfInBounds_toArray, List.set_cons_zero, List.set_cons_succ]
  refine held_take 8 (oi := { dst := some 61, op := Op.pick (Operand.tmp 58) (Operand.tmp 60) (Operand.const (Value.bool false)), type := 4, pos := "law.go:217", after := #[{ on := 5, ground := Ground.data }, { on := 7, ground := Ground.data }], guard := none }) (v := ?_) (by kernel_rfl) rfl (by rfl) (by kernel_rfl) (by kernel_rfl) (fun _ _ _ h => h) ?_ (by assumption) ?_
  rotate_left
  · (intro w hSw; (try dsimp only at hSw); go_simp; try with_reducible rfl)
  try simp only [Act.put, List.setIfInBounds_toArray, List.set_cons_zero, List.set_cons_succ]
  refine held_take 9 (oi := { dst := some 62, op := Op.move (Operand.tmp 61), type := 4, pos := "law.go:217", after := #[{ on := 8, ground := Ground.data }, { on := 5, ground := Ground.chain }], guard := none }) (v := ?_) (by kernel_rfl) rfl (by rfl) (by kernel_rfl) (by kernel_rfl) (fun _ _ _ h => h) ?_ (by assumption) ?_
  rotate_left
  · (intro w hSw; (try dsimp only at hSw); go_simp; try with_reducible rfl)
  try simp only [Act.put, List.setIfInBounds_toArray, List.set_cons_zero, List.set_cons_succ]
  refine held_take 10 (oi := { dst := some 63, op := Op.move (Operand.tmp 11), type := 35, pos := "law.go:217", after := #[{ on := 9, ground := Ground.guard }], guard := some (9, true) }) (v := ?_) (by kernel_rfl) rfl (by rfl) (by kernel_rfl) (by kernel_rfl) (fun _ _ _ h => h) ?_ (by assumption) ?_
  rotate_left
  · (intro w hSw; (try dsimp only at hSw); go_simp; try with_reducible rfl)
  try simp only [Act.put, List.setIfInBounds_toArray, List.set_cons_zero, List.set_cons_succ]
  refine held_take 11 (oi := { dst := some 64, op := Op.binOp BinOp.eql 35 (Operand.tmp 63) (Operand.const (Value.int IntKind.i64 12)) 35, type := 4, pos := "law.go:217", after := #[{ on := 10, ground := Ground.data }, { on := 9, ground := Ground.guard }], guard := some (9, true) }) (v := ?_) (by kernel_rfl) rfl (by rfl) (by kernel_rfl) (by kernel_rfl) (fun _ _ _ h => h) ?_ (by assumption) ?_
  rotate_left
  · (intro w hSw; (try dsimp only at hSw); go_simp; try with_reducible rfl)
  try simp only [Act.put, List.setIfInBounds_toArray, List.set_cons_zero, List.set_cons_succ]
  refine held_take 12 (oi := { dst := some 65, op := Op.pick (Operand.tmp 62) (Operand.tmp 64) (Operand.const (Value.bool false)), type := 4, pos := "law.go:217", after := #[{ on := 9, ground := Ground.data }, { on := 11, ground := Ground.data }], guard := none }) (v := ?_) (by kernel_rfl) rfl (by rfl) (by kernel_rfl) (by kernel_rfl) (fun _ _ _ h => h) ?_ (by assumption) ?_
  rotate_left
  · (intro w hSw; (try dsimp only at hSw); go_simp; try with_reducible rfl)
  try simp only [Act.put, List.setIfInBounds_toArray, List.set_cons_zero, List.set_cons_succ]
  refine held_take 13 (oi := { dst := some 66, op := Op.move (Operand.tmp 65), type := 4, pos := "law.go:217", after := #[{ on := 12, ground := Ground.data }, { on := 9, ground := Ground.chain }], guard := none }) (v := ?_) (by kernel_rfl) rfl (by rfl) (by kernel_rfl) (by kernel_rfl) (fun _ _ _ h => h) ?_ (by assumption) ?_
  rotate_left
  · (intro w hSw; (try dsimp only at hSw); go_simp; try with_reducible rfl)
  try simp only [Act.put, List.setIfInBounds_toArray, List.set_cons_zero, List.set_cons_succ]
  refine held_take 14 (oi := { dst := some 67, op := Op.move (Operand.tmp 7), type := 23, pos := "law.go:217", after := #[{ on := 13, ground := Ground.guard }], guard := some (13, true) }) (v := ?_) (by kernel_rfl) rfl (by rfl) (by kernel_rfl) (by kernel_rfl) (fun _ _ _ h => h) ?_ (by assumption) ?_
  rotate_left
  · (intro w hSw; (try dsimp only at hSw); go_simp; try with_reducible rfl)
  try simp only [Act.put, List.setIfInBounds_toArray, List.set_cons_zero, List.set_cons_succ]
  refine held_take 15 (oi := { dst := some 68, op := Op.fieldAddr 32 (Operand.tmp 5) 2, type := 0, pos := "law.go:217", after := #[{ on := 13, ground := Ground.guard }], guard := some (13, true) }) (v := ?_) (by kernel_rfl) rfl (by rfl) (by kernel_rfl) (by kernel_rfl) (fun _ _ _ h => h) ?_ (by assumption) ?_
  rotate_left
  · (intro w hSw; (try dsimp only at hSw); go_simp; try with_reducible rfl)
  try simp only [Act.put, List.setIfInBounds_toArray, List.set_cons_zero, List.set_cons_succ]
  refine held_take 16 (oi := { dst := some 69, op := Op.load 29 (Operand.tmp 68), type := 29, pos := "law.go:217", after := #[{ on := 15, ground := Ground.data }, { on := 13, ground := Ground.guard }], guard := some (13, true) }) (v := ?_) (by kernel_rfl) rfl (by rfl) (by kernel_rfl) (by kernel_rfl) (fun _ _ _ h => h) ?_ (by assumption) ?_
  rotate_left
  · (intro w hSw; (try dsimp only at hSw); go_simp; try with_reducible rfl)
  try simp only [Act.put, List.setIfInBounds_toArray, List.set_cons_zero, List.set_cons_succ]
  refine held_take 17 (oi := { dst := some 70, op := Op.fieldAddr 32 (Operand.tmp 5) 3, type := 0, pos := "law.go:217", after := #[{ on := 13, ground := Ground.guard }], guard := some (13, true) }) (v := ?_) (by kernel_rfl) rfl (by rfl) (by kernel_rfl) (by kernel_rfl) (fun _ _ _ h => h) ?_ (by assumption) ?_
  rotate_left
  · (intro w hSw; (try dsimp only at hSw); go_simp; try with_reducible rfl)
  try simp only [Act.put, List.setIfInBounds_toArray, List.set_cons_zero, List.set_cons_succ]
  refine held_take 18 (oi := { dst := some 71, op := Op.load 30 (Operand.tmp 70), type := 30, pos := "law.go:217", after := #[{ on := 17, ground := Ground.data }, { on := 13, ground := Ground.guard }], guard := some (13, true) }) (v := ?_) (by kernel_rfl) rfl (by rfl) (by kernel_rfl) (by kernel_rfl) (fun _ _ _ h => h) ?_ (by assumption) ?_
  rotate_left
  · (intro w hSw; (try dsimp only at hSw); go_simp; try with_reducible rfl)
  try simp only [Act.put, List.setIfInBounds_toArray, List.set_cons_zero, List.set_cons_succ]
  refine held_take 20 (oi := { dst := some 73, op := Op.move (Operand.tmp 8), type := 23, pos := "law.go:217", after := #[{ on := 13, ground := Ground.guard }], guard := some (13, true) }) (v := ?_) (by kernel_rfl) rfl (by rfl) (by kernel_rfl) (by kernel_rfl) (fun _ _ _ h => h) ?_ (by assumption) ?_
  rotate_left
  · (intro w hSw; (try dsimp only at hSw); go_simp; try with_reducible rfl)
  try simp only [Act.put, List.setIfInBounds_toArray, List.set_cons_zero, List.set_cons_succ]
  refine held_take 21 (oi := { dst := some 74, op := Op.fieldAddr 32 (Operand.tmp 5) 2, type := 0, pos := "law.go:217", after := #[{ on := 13, ground := Ground.guard }], guard := some (13, true) }) (v := ?_) (by kernel_rfl) rfl (by rfl) (by kernel_rfl) (by kernel_rfl) (fun _ _ _ h => h) ?_ (by assumption) ?_
  rotate_left
  · (intro w hSw; (try dsimp only at hSw); go_simp; try with_reducible rfl)
  try simp only [Act.put, List.setIfInBounds_toArray, List.set_cons_zero, List.set_cons_succ]
  refine held_take 22 (oi := { dst := some 75, op := Op.load 29 (Operand.tmp 74), type := 29, pos := "law.go:217", after := #[{ on := 21, ground := Ground.data }, { on := 13, ground := Ground.guard }], guard := some (13, true) }) (v := ?_) (by kernel_rfl) rfl (by rfl) (by kernel_rfl) (by kernel_rfl) (fun _ _ _ h => h) ?_ (by assumption) ?_
  rotate_left
  · (intro w hSw; (try dsimp only at hSw); go_simp; try with_reducible rfl)
  try simp only [Act.put, List.setIfInBounds_toArray, List.set_cons_zero, List.set_cons_succ]
  refine held_take 23 (oi := { dst := some 76, op := Op.fieldAddr 32 (Operand.tmp 5) 3, type := 0, pos := "law.go:217", after := #[{ on := 13, ground := Ground.guard }], guard := some (13, true) }) (v := ?_) (by kernel_rfl) rfl (by rfl) (by kernel_rfl) (by kernel_rfl) (fun _ _ _ h => h) ?_ (by assumption) ?_
  rotate_left
  · (intro w hSw; (try dsimp only at hSw); go_simp; try with_reducible rfl)
  try simp only [Act.put, List.setIfInBounds_toArray, List.set_cons_zero, List.set_cons_succ]
  refine held_take 24 (oi := { dst := some 77, op := Op.load 30 (Operand.tmp 76), type := 30, pos := "law.go:217", after := #[{ on := 23, ground := Ground.data }, { on := 13, ground := Ground.guard }], guard := some (13, true) }) (v := ?_) (by kernel_rfl) rfl (by rfl) (by kernel_rfl) (by kernel_rfl) (fun _ _ _ h => h) ?_ (by assumption) ?_
  rotate_left
  · (intro w hSw; (try dsimp only at hSw); go_simp; try with_reducible rfl)
  try simp only [Act.put, List.setIfInBounds_toArray, List.set_cons_zero, List.set_cons_succ]
  refine held_one 19 (oi := { dst := some 72, op := Op.call { callee := Callee.value (Operand.func 10), args := #[Operand.tmp 67, Operand.tmp 69, Operand.tmp 71], argTypes := #[23, 29, 30] }, type := 43, pos := "law.go:217", after := #[{ on := 14, ground := Ground.data }, { on := 16, ground := Ground.data }, { on := 18, ground := Ground.data }, { on := 13, ground := Ground.chain }, { on := 13, ground := Ground.guard }], guard := some (13, true) }) (by kernel_rfl) rfl (fun K hK => ?_)
  go_simp
  first
    | (go_at_call 15
       refine (live10_calls _).mono ?_
       rintro r V9 ⟨rfl, v9⟩
       have Z := hide ((unhide Z).later v9)
       clear v9)
    | (have hV : V10 = V10 := rfl
       clear hV
       go_at_call 10
       refine (unhide SV _ _ _ _ _ _ _ (unhide Z).swap).mono ?_
       rintro r V11 ⟨rfl, v11⟩
       have Z := hide ((unhide Z).later v11)
       clear v11)
    | (go_at_call 10
       refine (unhide SV _ _ _ _ _ _ _ (unhide Z)).mono ?_
       rintro r V10 ⟨rfl, v10⟩
       have Z := hide ((unhide Z).later v10)
       clear v10)
    | (have hV : V12 = V12 := rfl
       clear hV
       go_at_call 14
       refine (unhide SC _ _ _ _ _ _ _ (unhide Z).swap).mono ?_
       rintro r V13 ⟨h13, rfl, cf13, v13⟩
       have Z := hide ((unhide Z).later v13)
       have C12 := hide ((unhide C12).later v13)
       have C13 := hide cf13
       clear v13 cf13)
    | (go_at_call 14
       refine (unhide SC _ _ _ _ _ _ _ (unhide Z)).mono ?_
       rintro r V12 ⟨h12, rfl, cf12, v12⟩
       have Z := hide ((unhide Z).later v12)
       have C12 := hide cf12
       clear v12 cf12)
    | (go_at_call 13
       refine (unhide SA _ _ _ (unhide C12) (unhide C13)).mono ?_
       rintro r V14 ⟨rfl, v14⟩
       have Z := hide ((unhide Z).later v14)
       clear v14)
  go_wp2_with fail
  refine hK.out _ _ ?_ (fun hHeld => ?_)
  · try dsimp only
    exact (unhide Z).s.cells.2.2
  clear hK K
  try simp only [Act.put, List.setIfInBounds_toArray, List.set_cons_zero, List.set_cons_succ]
  refine held_one 25 (oi := { dst := some 78, op := Op.call { callee := Callee.value (Operand.func 10), args := #[Operand.tmp 73, Operand.tmp 75, Operand.tmp 77], argTypes := #[23, 29, 30] }, type := 43, pos := "law.go:217", after := #[{ on := 20, ground := Ground.data }, { on := 22, ground := Ground.data }, { on := 24, ground := Ground.data }, { on := 19, ground := Ground.chain }, { on := 13, ground := Ground.guard }], guard := some (13, true) }) (by kernel_rfl) rfl (fun K hK => ?_)
  go_simp
  first
    | (go_at_call 15
       refine (live10_calls _).mono ?_
       rintro r V9 ⟨rfl, v9⟩
       have Z := hide ((unhide Z).later v9)
       clear v9)
    | (have hV : V10 = V10 := rfl
       clear hV
       go_at_call 10
       refine (unhide SV _ _ _ _ _ _ _ (unhide Z).swap).mono ?_
       rintro r V11 ⟨rfl, v11⟩
       have Z := hide ((unhide Z).later v11)
       clear v11)
    | (go_at_call 10
       refine (unhide SV _ _ _ _ _ _ _ (unhide Z)).mono ?_
       rintro r V10 ⟨rfl, v10⟩
       have Z := hide ((unhide Z).later v10)
       clear v10)
    | (have hV : V12 = V12 := rfl
       clear hV
       go_at_call 14
       refine (unhide SC _ _ _ _ _ _ _ (unhide Z).swap).mono ?_
       rintro r V13 ⟨h13, rfl, cf13, v13⟩
       have Z := hide ((unhide Z).later v13)
       have C12 := hide ((unhide C12).later v13)
       have C13 := hide cf13
       clear v13 cf13)
    | (go_at_call 14
       refine (unhide SC _ _ _ _ _ _ _ (unhide Z)).mono ?_
       rintro r V12 ⟨h12, rfl, cf12, v12⟩
       have Z := hide ((unhide Z).later v12)
       have C12 := hide cf12
       clear v12 cf12)
    | (go_at_call 13
       refine (unhide SA _ _ _ (unhide C12) (unhide C13)).mono ?_
       rintro r V14 ⟨rfl, v14⟩
       have Z := hide ((unhide Z).later v14)
       clear v14)
  go_wp2_with fail
  refine hK.out _ _ ?_ (fun hHeld => ?_)
  · try dsimp only
    exact (unhide Z).s.cells.2.2
  clear hK K
  try simp only [Act.put, List.setIfInBounds_toArray, List.set_cons_zero, List.set_cons_succ]
  refine held_take 26 (oi := { dst := some 79, op := Op.binOp BinOp.eql 43 (Operand.tmp 72) (Operand.tmp 78) 43, type := 4, pos := "law.go:217", after := #[{ on := 19, ground := Ground.data }, { on := 25, ground := Ground.data }, { on := 13, ground := Ground.guard }], guard := some (13, true) }) (v := ?_) (by kernel_rfl) rfl (by rfl) (by kernel_rfl) (by kernel_rfl) (fun _ _ _ h => h) ?_ (by assumption) ?_
  rotate_left
  · (intro w hSw; (try dsimp only at hSw); go_simp; try with_reducible rfl)
  try simp only [Act.put, List.setIfInBounds_toArray, List.set_cons_zero, List.set_cons_succ]
  refine held_take 27 (oi := { dst := some 80, op := Op.pick (Operand.tmp 66) (Operand.tmp 79) (Operand.const (Value.bool false)), type := 4, pos := "law.go:217", after := #[{ on := 13, ground := Ground.data }, { on := 26, ground := Ground.data }], guard := none }) (v := ?_) (by kernel_rfl) rfl (by rfl) (by kernel_rfl) (by kernel_rfl) (fun _ _ _ h => h) ?_ (by assumption) ?_
  rotate_left
  · (intro w hSw; (try dsimp only at hSw); go_simp; try with_reducible rfl)
  try simp only [Act.put, List.setIfInBounds_toArray, List.set_cons_zero, List.set_cons_succ]
  refine held_take 28 (oi := { dst := some 81, op := Op.move (Operand.tmp 80), type := 4, pos := "law.go:217", after := #[{ on := 27, ground := Ground.data }, { on := 25, ground := Ground.chain }], guard := none }) (v := ?_) (by kernel_rfl) rfl (by rfl) (by kernel_rfl) (by kernel_rfl) (fun _ _ _ h => h) ?_ (by assumption) ?_
  rotate_left
  · (intro w hSw; (try dsimp only at hSw); go_simp; try with_reducible rfl)
  try simp only [Act.put, List.setIfInBounds_toArray, List.set_cons_zero, List.set_cons_succ]
  refine held_take 29 (oi := { dst := some 82, op := Op.move (Operand.tmp 7), type := 23, pos := "law.go:217", after := #[{ on := 28, ground := Ground.guard }], guard := some (28, true) }) (v := ?_) (by kernel_rfl) rfl (by rfl) (by kernel_rfl) (by kernel_rfl) (fun _ _ _ h => h) ?_ (by assumption) ?_
  rotate_left
  · (intro w hSw; (try dsimp only at hSw); go_simp; try with_reducible rfl)
  try simp only [Act.put, List.setIfInBounds_toArray, List.set_cons_zero, List.set_cons_succ]
  refine held_take 31 (oi := { dst := some 84, op := Op.move (Operand.tmp 8), type := 23, pos := "law.go:217", after := #[{ on := 28, ground := Ground.guard }], guard := some (28, true) }) (v := ?_) (by kernel_rfl) rfl (by rfl) (by kernel_rfl) (by kernel_rfl) (fun _ _ _ h => h) ?_ (by assumption) ?_
  rotate_left
  · (intro w hSw; (try dsimp only at hSw); go_simp; try with_reducible rfl)
  try simp only [Act.put, List.setIfInBounds_toArray, List.set_cons_zero, List.set_cons_succ]
  refine held_one 30 (oi := { dst := some 83, op := Op.call { callee := Callee.value (Operand.func 14), args := #[Operand.tmp 82], argTypes := #[23] }, type := 28, pos := "law.go:217", after := #[{ on := 29, ground := Ground.data }, { on := 28, ground := Ground.chain }, { on := 28, ground := Ground.guard }], guard := some (28, true) }) (by kernel_rfl) rfl (fun K hK => ?_)
  go_simp
  first
    | (go_at_call 15
       refine (live10_calls _).mono ?_
       rintro r V9 ⟨rfl, v9⟩
       have Z := hide ((unhide Z).later v9)
       clear v9)
    | (have hV : V10 = V10 := rfl
       clear hV
       go_at_call 10
       refine (unhide SV _ _ _ _ _ _ _ (unhide Z).swap).mono ?_
       rintro r V11 ⟨rfl, v11⟩
       have Z := hide ((unhide Z).later v11)
       clear v11)
    | (go_at_call 10
       refine (unhide SV _ _ _ _ _ _ _ (unhide Z)).mono ?_
       rintro r V10 ⟨rfl, v10⟩
       have Z := hide ((unhide Z).later v10)
       clear v10)
    | (have hV : V12 = V12 := rfl
       clear hV
       go_at_call 14
       refine (unhide SC _ _ _ _ _ _ _ (unhide Z).swap).mono ?_
       rintro r V13 ⟨h13, rfl, cf13, v13⟩
       have Z := hide ((unhide Z).later v13)
       have C12 := hide ((unhide C12).later v13)
       have C13 := hide cf13
       clear v13 cf13)
    | (go_at_call 14
       refine (unhide SC _ _ _ _ _ _ _ (unhide Z)).mono ?_
       rintro r V12 ⟨h12, rfl, cf12, v12⟩
       have Z := hide ((unhide Z).later v12)
       have C12 := hide cf12
       clear v12 cf12)
    | (go_at_call 13
       refine (unhide SA _ _ _ (unhide C12) (unhide C13)).mono ?_
       rintro r V14 ⟨rfl, v14⟩
       have Z := hide ((unhide Z).later v14)
       clear v14)
  go_wp2_with fail
  refine hK.out _ _ ?_ (fun hHeld => ?_)
  · try dsimp only
    exact (unhide Z).s.cells.2.2
  clear hK K
  try simp only [Act.put, List.setIfInBounds_toArray, List.set_cons_zero, List.set_cons_succ]
  refine held_one 32 (oi := { dst := some 85, op := Op.call { callee := Callee.value (Operand.func 14), args := #[Operand.tmp 84], argTypes := #[23] }, type := 28, pos := "law.go:217", after := #[{ on := 31, ground := Ground.data }, { on := 30, ground := Ground.chain }, { on := 28, ground := Ground.guard }], guard := some (28, true) }) (by kernel_rfl) rfl (fun K hK => ?_)
  go_simp
  first
    | (go_at_call 15
       refine (live10_calls _).mono ?_
       rintro r V9 ⟨rfl, v9⟩
       have Z := hide ((unhide Z).later v9)
       clear v9)
    | (have hV : V10 = V10 := rfl
       clear hV
       go_at_call 10
       refine (unhide SV _ _ _ _ _ _ _ (unhide Z).swap).mono ?_
       rintro r V11 ⟨rfl, v11⟩
       have Z := hide ((unhide Z).later v11)
       clear v11)
    | (go_at_call 10
       refine (unhide SV _ _ _ _ _ _ _ (unhide Z)).mono ?_
       rintro r V10 ⟨rfl, v10⟩
       have Z := hide ((unhide Z).later v10)
       clear v10)
    | (have hV : V12 = V12 := rfl
       clear hV
       go_at_call 14
       refine (unhide SC _ _ _ _ _ _ _ (unhide Z).swap).mono ?_
       rintro r V13 ⟨h13, rfl, cf13, v13⟩
       have Z := hide ((unhide Z).later v13)
       have C12 := hide ((unhide C12).later v13)
       have C13 := hide cf13
       clear v13 cf13)
    | (go_at_call 14
       refine (unhide SC _ _ _ _ _ _ _ (unhide Z)).mono ?_
       rintro r V12 ⟨h12, rfl, cf12, v12⟩
       have Z := hide ((unhide Z).later v12)
       have C12 := hide cf12
       clear v12 cf12)
    | (go_at_call 13
       refine (unhide SA _ _ _ (unhide C12) (unhide C13)).mono ?_
       rintro r V14 ⟨rfl, v14⟩
       have Z := hide ((unhide Z).later v14)
       clear v14)
  go_wp2_with fail
  refine hK.out _ _ ?_ (fun hHeld => ?_)
  · try dsimp only
    exact (unhide Z).s.cells.2.2
  clear hK K
  try simp only [Act.put, List.setIfInBounds_toArray, List.set_cons_zero, List.set_cons_succ]
  refine held_one 33 (oi := { dst := some 86, op := Op.call { callee := Callee.value (Operand.func 13), args := #[Operand.tmp 83, Operand.tmp 85], argTypes := #[28, 28] }, type := 4, pos := "law.go:217", after := #[{ on := 30, ground := Ground.data }, { on := 32, ground := Ground.data }, { on := 32, ground := Ground.chain }, { on := 28, ground := Ground.guard }], guard := some (28, true) }) (by kernel_rfl) rfl (fun K hK => ?_)
  go_simp
  first
    | (go_at_call 15
       refine (live10_calls _).mono ?_
       rintro r V9 ⟨rfl, v9⟩
       have Z := hide ((unhide Z).later v9)
       clear v9)
    | (have hV : V10 = V10 := rfl
       clear hV
       go_at_call 10
       refine (unhide SV _ _ _ _ _ _ _ (unhide Z).swap).mono ?_
       rintro r V11 ⟨rfl, v11⟩
       have Z := hide ((unhide Z).later v11)
       clear v11)
    | (go_at_call 10
       refine (unhide SV _ _ _ _ _ _ _ (unhide Z)).mono ?_
       rintro r V10 ⟨rfl, v10⟩
       have Z := hide ((unhide Z).later v10)
       clear v10)
    | (have hV : V12 = V12 := rfl
       clear hV
       go_at_call 14
       refine (unhide SC _ _ _ _ _ _ _ (unhide Z).swap).mono ?_
       rintro r V13 ⟨h13, rfl, cf13, v13⟩
       have Z := hide ((unhide Z).later v13)
       have C12 := hide ((unhide C12).later v13)
       have C13 := hide cf13
       clear v13 cf13)
    | (go_at_call 14
       refine (unhide SC _ _ _ _ _ _ _ (unhide Z)).mono ?_
       rintro r V12 ⟨h12, rfl, cf12, v12⟩
       have Z := hide ((unhide Z).later v12)
       have C12 := hide cf12
       clear v12 cf12)
    | (go_at_call 13
       refine (unhide SA _ _ _ (unhide C12) (unhide C13)).mono ?_
       rintro r V14 ⟨rfl, v14⟩
       have Z := hide ((unhide Z).later v14)
       clear v14)
  go_wp2_with fail
  refine hK.out _ _ ?_ (fun hHeld => ?_)
  · try dsimp only
    exact (unhide Z).s.cells.2.2
  clear hK K
  try simp only [Act.put, List.setIfInBounds_toArray, List.set_cons_zero, List.set_cons_succ]
  refine held_take 34 (oi := { dst := some 87, op := Op.pick (Operand.tmp 81) (Operand.tmp 86) (Operand.const (Value.bool false)), type := 4, pos := "law.go:217", after := #[{ on := 28, ground := Ground.data }, { on := 33, ground := Ground.data }], guard := none }) (v := ?_) (by kernel_rfl) rfl (by rfl) (by kernel_rfl) (by kernel_rfl) (fun _ _ _ h => h) ?_ (by assumption) ?_
  rotate_left
  · (intro w hSw; (try dsimp only at hSw); go_simp; try with_reducible rfl)
  try simp only [Act.put, List.setIfInBounds_toArray, List.set_cons_zero, List.set_cons_succ]
  refine held_take 35 (oi := { dst := some 6, op := Op.assign (Operand.tmp 87), type := 4, pos := "law.go:217", after := #[{ on := 34, ground := Ground.data }, { on := 33, ground := Ground.chain }, { on := 0, ground := Ground.phase }, { on := 1, ground := Ground.phase }, { on := 2, ground := Ground.phase }, { on := 3, ground := Ground.phase }, { on := 4, ground := Ground.phase }, { on := 5, ground := Ground.phase }, { on := 6, ground := Ground.phase }, { on := 7, ground := Ground.phase }, { on := 8, ground := Ground.phase }, { on := 9, ground := Ground.phase }, { on := 10, ground := Ground.phase }, { on := 11, ground := Ground.phase }, { on := 12, ground := Ground.phase }, { on := 13, ground := Ground.phase }, { on := 14, ground := Ground.phase }, { on := 15, ground := Ground.phase }, { on := 16, ground := Ground.phase }, { on := 17, ground := Ground.phase }, { on := 18, ground := Ground.phase }, { on := 19, ground := Ground.phase }, { on := 20, ground := Ground.phase }, { on := 21, ground := Ground.phase }, { on := 22, ground := Ground.phase }, { on := 23, ground := Ground.phase }, { on := 24, ground := Ground.phase }, { on := 25, ground := Ground.phase }, { on := 26, ground := Ground.phase }, { on := 27, ground := Ground.phase }, { on := 28, ground := Ground.phase }, { on := 29, ground := Ground.phase }, { on := 30, ground := Ground.phase }, { on := 31, ground := Ground.phase }, { on := 32, ground := Ground.phase }, { on := 33, ground := Ground.phase }, { on := 34, ground := Ground.phase }], guard := none }) (v := ?_) (by kernel_rfl) rfl (by rfl) (by kernel_rfl) (by kernel_rfl) (fun _ _ _ h => h) ?_ (by assumption) ?_
  rotate_left
  · (intro w hSw; (try dsimp only at hSw); go_simp; try with_reducible rfl)
  try simp only [Act.put, List.setIfInBounds_toArray, List.set_cons_zero, List.set_cons_succ]
  refine wpAnyH_done (by kernel_rfl) ?_ _
  go_wp2_with fail
  go_ret
  exact ⟨rfl, (unhide Z).s.bel⟩
theorem walk (a : Cf) (ha : CfH) (b : Cf) (hb : CfH) (x : Pd) (hx : PdH) (w : World) (h1 : CfAt w a ha) (h2 : CfAt w b hb) (h3 : PdAt w x hx) (hLz : Lz w) :
    Calls Tryz.prog 5 #[cfVal a ha, cfVal b hb, pdVal x hx] w fun e w' => e = .returned (.bool true) ∧ Below w.heap.size w w' := by
  cases hsa : shortC a with
  | false => exact same_shortA a ha b hb x hx w h1 h2 h3 hsa
  | true =>
    cases hsb : shortC b with
    | false => exact early a ha b hb x hx w h1 h2 h3 hsa (.inl hsb)
    | true =>
      by_cases y : (5000 : Int) < (x.bs.length : Int)
      · exact early a ha b hb x hx w h1 h2 h3 hsa (.inr ⟨hsb, .inl y⟩)
      · by_cases y2 : b.ver ≤ a.ver
        · exact early a ha b hb x hx w h1 h2 h3 hsa (.inr ⟨hsb, .inr ⟨by omega, .inl y2⟩⟩)
        · by_cases y3 : b.ver < 1
          · exact early a ha b hb x hx w h1 h2 h3 hsa (.inr ⟨hsb, .inr ⟨by omega, .inr ⟨by omega, y3⟩⟩⟩)
          · exact main a ha b hb x hx w h1 h2 h3 hLz hsa hsb (by omega) (by omega) (by omega)

set_option maxRecDepth 100000 in
theorem lifted (os : Os) (started : os.Started) (H : Type) (enc : TypeId × Value → H) :
    ReturnsInHanded {} Tryz.checked os 5 .any (fun w args => (Rows.planeSameSpec.pre enc Tryz.prog Tryz.f5 Rows.planeSameRow.domain false w args ∧ laidMetH Tryz.prog Rows.planeSameRow.laid w) ∧ sizedMet enc Tryz.prog Tryz.f5 (OpenSpec.ofChange Rows.planeSameSpec) false w args)
      (Rows.planeSameSpec.post enc Tryz.prog Tryz.f5 false true false false) := by
  refine handed_both (C := Tryz.checked) (X := fun w _ => laidMetH Tryz.prog Rows.planeSameRow.laid w) (fun _ _ _ hh h => h.of_heap hh) own started (by kernel_rfl) Tryz.func5
    (ChangeSpec.witness_shaped (enc := enc) (C := Tryz.checked) (os := os) (X := fun w _ => laidMetH Tryz.prog Rows.planeSameRow.laid w) false (World.laidAll Tryz.prog os Rows.planeSameRow.laid) #[.agg #[.int .i64 0, .slice none 0 0, .slice none 0 0], .agg #[.int .i64 0, .slice none 0 0, .slice none 0 0], .agg #[.int .i64 0, .int .i64 0, .slice none 0 0, .slice none 0 0, .slice none 0 0, .float .f64 0]] 8 (World.laidAll_os _ _ _)
      (World.shaped_of_ZipB (by kernel_rfl) (by kernel_rfl)) (by kernel_rfl) (by kernel_rfl) (by kernel_rfl)
      (by rw [MakeChecks.laidMetH_plain _ _ _ (by kernel_rfl)]; exact laidMet_laidAll _ (by kernel_rfl) (by kernel_rfl))) ?_
  intro W base args ds gs before hval0 hW hcnd hsz hL hsh _
  have hLz : Lz W := lz_of (by rw [MakeChecks.laidMetH_plain _ _ _ (by kernel_rfl)] at hL; exact hL) hsh
  have hval : ∀ (j : Nat) t v, Tryz.f5.params[j]? = some t → args[j]? = some v → Value.okWide Tryz.prog W .any base t v := hval0
  have hW' := hW
  obtain ⟨p, q, hA0, hV, rfl, hfz, hnd⟩ := hW
  have hA : DataW.TrodAll enc Tryz.prog W 0 (fun _ => true) true Tryz.f5.params.toList args.toList ds p := hA0
  rw [Tryz.params5] at hA hval
  obtain ⟨v0, vs0, d0, ds0, p0, q0, hargs, rfl, rfl, h0, r0⟩ := trodAll_cons hA
  obtain ⟨v1, vs1, d1, ds1, p1, q1, rfl, rfl, rfl, h1, r1⟩ := trodAll_cons r0
  obtain ⟨v2, vs2, d2, ds2, p2, q2, rfl, rfl, rfl, h2, r2⟩ := trodAll_cons r1
  obtain ⟨rfl, rfl, rfl⟩ := trodAll_nil r2
  obtain rfl : args = #[v0, v1, v2] := by cases args; simp_all
  obtain ⟨rfl, rfl⟩ := trodVars_none hV
  have k0 := h0
  have lt0 : ∀ x ∈ p0, x.block < W.heap.size := by obtain ⟨m, hm⟩ := k0; exact DataW.trod_lt m _ _ _ hm
  obtain ⟨e0, q0, rfl, hb0⟩ := open_conf (hval 0 28 v0 rfl rfl) h0
  have k1 := h1
  have lt1 : ∀ x ∈ p1, x.block < W.heap.size := by obtain ⟨m, hm⟩ := k1; exact DataW.trod_lt m _ _ _ hm
  obtain ⟨e1, q1, rfl, hb1⟩ := open_conf (hval 1 28 v1 rfl rfl) h1
  have k2 := h2
  have lt2 : ∀ x ∈ p2, x.block < W.heap.size := by obtain ⟨m, hm⟩ := k2; exact DataW.trod_lt m _ _ _ hm
  obtain ⟨e2, q2, rfl, hb2⟩ := open_pd (hval 2 32 v2 rfl rfl) h2
  clear hA0 hval0
  refine (walk e0 q0 e1 q1 e2 q2 W hb0 hb1 hb2 hLz).mono fun e W' ⟨he, bel⟩ => ?_
  subst he
  exact ⟨_, rfl, _, _, _, [], _, [], hW', trodAll_mk1 (shut_bool Tryz.underlying4 _), (trodAll_cons_mk (Below.trod laidOut (by kernel_rfl) (of_decide_eq_true (by kernel_rfl)) k0 bel lt0) (trodAll_cons_mk (Below.trod laidOut (by kernel_rfl) (of_decide_eq_true (by kernel_rfl)) k1 bel lt1) (trodAll_cons_mk (Below.trod laidOut (by kernel_rfl) (of_decide_eq_true (by kernel_rfl)) k2 bel lt2) trodAll_mk0))), rfl, bel.frame _, fun h => by cases h⟩

theorem proved : Rows.PlaneSameSaid :=
  OpenClaim.holds_of_wide 5 Tryz.f5 rfl rfl rfl rfl rfl rfl rfl ⟨rfl, rfl, rfl, rfl, rfl⟩ rfl rfl rfl rfl rfl (by kernel_rfl) Tryz.func5 (by kernel_rfl)
    (of_decide_eq_true (by kernel_rfl)) (by unfold Func.isWrapper; first | (rw [if_pos (by decide +kernel)]; kernel_rfl) | (rw [if_neg (by decide +kernel)]; exact ⟨rfl, rfl⟩))
    (fun os started H enc _ => lifted os started H enc)
theorem card : Rows.PlaneSameCardSaid :=
  Claim7.holds_tied_plain_at .later [] [.data, .pinned, .pinned] true (true, "47b1fa12dcda590fd344540124ecfd24233d7d6f0f953137380c7b4caf07fdec") false proved (fun _ h => by cases h) (by kernel_rfl) (fun _ h => by cases h) planeSame_row_tie rfl ⟨rfl, rfl⟩ (by kernel_rfl) rfl
    (fun f fn hf hfn => by
      obtain rfl : f = 5 := Option.some.inj ((show Tryz.prog.funcNamed "tollgate/tollgatelaw10.PlaneSame" = some 5 by kernel_rfl).symm.trans hf) |>.symm
      obtain rfl : fn = Tryz.f5 := (Option.some.inj (Tryz.func5.symm.trans hfn)).symm
      exact ⟨by kernel_rfl, fun j t ht => by
        rw [Tryz.params5] at ht
        have hm : t ∈ [28, 28, 32] := by simpa using Array.mem_of_getElem? ht
        have hall : ([28, 28, 32].all fun u => !Tryz.prog.wantsStandIn u) = true := by kernel_rfl
        exact (show Tryz.prog.wantsStandIn t = false by simpa using List.all_eq_true.1 hall t hm)⟩)
    (by kernel_rfl)
end Go.Proofs.YtcmiappiocfbiaaGreatDoor.planeSame
namespace Go.Proofs.YtcmiappiocfbiaaGreatDoor
theorem planeSame_holds : Rows.PlaneSameCardSaid := planeSame.card
#print axioms planeSame_holds
end Go.Proofs.YtcmiappiocfbiaaGreatDoor
