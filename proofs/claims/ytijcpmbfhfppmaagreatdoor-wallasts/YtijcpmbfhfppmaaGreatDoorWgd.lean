/- Logs: Reset. -/
import Derived.Test.YtijcpmbfhfppmaaGreatDoorWgc
namespace Go.Proofs.YtijcpmbfhfppmaaGreatDoor
open Go.ChangeShapes Go.WideShapes Go.ChangeAt Go.RowKit
set_option linter.unusedVariables false

/-- A log written anew with a content, or as it was. -/
def wNew (room n : Nat) (c c2 : Wc) (ss : Ds) : Nat × Ds × Wc × Nat :=
  if (wAnew room n (allB c2) ss).1 ≠ 0 then ((wAnew room n (allB c2) ss).1, (wAnew room n (allB c2) ss).2, c, n) else (0, (wAnew room n (allB c2) ss).2, c2, n + 1)
theorem isNumber_calls (i : Int) (w : World) : Calls Tryz.prog 71 #[.int .i64 i] w fun e w' => e = .returned (.bool (decide (0 ≤ i ∧ i ≤ 1099511627776))) ∧ w' = w := by
  by_cases h1 : 0 ≤ i
  · by_cases h2 : i ≤ 1099511627776
    · rw [decide_eq_true ⟨h1, h2⟩]
      go_enter Tryz.func71, Tryz.ntmps71
      go_wp2
      go_ret
      exact ⟨rfl, rfl⟩
    · rw [decide_eq_false (fun h => h2 h.2)]
      go_enter Tryz.func71, Tryz.ntmps71
      go_wp2
      go_ret
      exact ⟨rfl, rfl⟩
  · rw [decide_eq_false (fun h => h1 h.1)]
    go_enter Tryz.func71, Tryz.ntmps71
    go_wp2
    go_ret
    exact ⟨rfl, rfl⟩
section
variable {Av : Nat → Prop} {base : Nat} {w w' : World} {L d M room N N' : Nat} {ss ss' : Ds} {c : Wc} {n : Nat} {ep : Option Addr} {ec : Nat} {hs : List (Option Addr × Nat)}
theorem AnEnd.lg {c2 : Wc} {ep2 : Option Addr} {ec2 : Nat} {hs2 : List (Option Addr × Nat)} {Bv : Nat → Prop} {w0 : World} {e : Ending} (ha : Asd Bv base w0 w) (hs1 : ∀ g, Bv g → Av g ∧ ¬ LFoot ep2 hs2 g) (h : AnEnd Av base L d M room N w c n ep ec hs c2 ep2 ec2 hs2 (wAnew room n (allB c2) ss) e w') : LgEnd Bv base L d M room N w0 (wNew room n c c2 ss) e w' := by
  obtain ⟨rfl, a, y, x⟩ := h
  unfold wNew
  have A := ha.trans (a.sub (fun g hg => (hs1 g hg).1))
  by_cases h0 : (wAnew room n (allB c2) ss).1 = 0
  · rw [if_neg (by simp [h0])]
    exact ⟨by rw [h0], ⟨ep2, ec2, hs2, (y h0).2.sub hs1⟩, A⟩
  · rw [if_pos h0]
    exact ⟨rfl, ⟨ep, ec, hs, (x h0).sub (fun g hg => (hs1 g hg).1)⟩, A⟩
set_option maxRecDepth 20000 in
set_option maxHeartbeats 16000000 in
theorem reset_no (z : WAt Av base w L d M room N ss c n ep ec hs) (i t : Int) (h : ¬ ((0 ≤ i ∧ i ≤ 1099511627776) ∧ 0 ≤ t ∧ t ≤ 1099511627776)) :
    Calls Tryz.prog 31 #[.pointer (some ⟨L, 0, none⟩), .agg #[.int .i64 i, .int .i64 t]] w (LgEnd Av base L d M room N w (2, ss, c, n)) := by
  have U1 := hide (show Below w.heap.size w (w.alloc (.cells #[.int .i64 i, .int .i64 t] 31)) from (Below.refl _ _).alloc (Nat.le_refl _) _)
  have X1 := heap_new w (.cells #[.int .i64 i, .int .i64 t] 31)
  have x0 : (w.alloc (.cells #[.int .i64 i, .int .i64 t] 31)).cell? ⟨w.heap.size, 0, none⟩ = some (.int .i64 i) := box_cell X1 0 _ rfl
  have x1 : (w.alloc (.cells #[.int .i64 i, .int .i64 t] 31)).cell? ⟨w.heap.size, 1, none⟩ = some (.int .i64 t) := box_cell X1 1 _ rfl
  have FE := hide (show LgEnd Av base L d M room N w (2, ss, c, n) (.returned (.int .i64 2)) (w.alloc (.cells #[.int .i64 i, .int .i64 t] 31)) from ⟨rfl, ⟨ep, ec, hs, z.later (unhide U1)⟩, (z.asdB (unhide U1)).sub (fun g hg => .inl hg)⟩)
  have NI := hide (isNumber_calls i)
  have NT := hide (isNumber_calls t)
  have DI : (decide (0 ≤ i ∧ i ≤ 1099511627776) = false) ∨ (decide (0 ≤ i ∧ i ≤ 1099511627776) = true ∧ decide (0 ≤ t ∧ t ≤ 1099511627776) = false) := by
    by_cases h1 : 0 ≤ i ∧ i ≤ 1099511627776
    · exact .inr ⟨decide_eq_true h1, decide_eq_false (fun h2 => h ⟨h1, h2⟩)⟩
    · exact .inl (decide_eq_false h1)
  generalize decide (0 ≤ i ∧ i ≤ 1099511627776) = di at *
  generalize decide (0 ≤ t ∧ t ≤ 1099511627776) = dt at *
  clear z X1 h
  rcases DI with rfl | ⟨rfl, rfl⟩
  · go_enter Tryz.func31, Tryz.ntmps31
    go_wp2_with fail
    go_at_call 71
    refine (unhide NI _).mono ?_
    rintro e V1 ⟨rfl, hV⟩
    subst hV
    go_wp2
    go_ret
    exact unhide FE
  · go_enter Tryz.func31, Tryz.ntmps31
    go_wp2_with fail
    go_at_call 71
    refine (unhide NI _).mono ?_
    rintro e V1 ⟨rfl, hV⟩
    subst hV
    go_wp2_with fail
    go_at_call 71
    refine (unhide NT _).mono ?_
    rintro e V2 ⟨rfl, hV⟩
    subst hV
    go_wp2
    go_ret
    exact unhide FE
set_option maxRecDepth 20000 in
set_option maxHeartbeats 16000000 in
theorem reset_yes (z : WAt Av base w L d M room N ss c n ep ec hs) (hN : N + 1 ≤ 1000000) (i t : Nat) (hi : i ≤ 1099511627776) (ht : t ≤ 1099511627776) :
    Calls Tryz.prog 31 #[.pointer (some ⟨L, 0, none⟩), .agg #[.int .i64 (i : Int), .int .i64 (t : Int)]] w (LgEnd Av base L d M room (N + 1) w (wNew room n c ⟨i, t, c.ht, c.hv, []⟩ ss)) := by
  have U1 := hide (show Below w.heap.size w (w.alloc (.cells #[.int .i64 (i : Int), .int .i64 (t : Int)] 31)) from (Below.refl _ _).alloc (Nat.le_refl _) _)
  have X1 := hide (heap_new w (.cells #[.int .i64 (i : Int), .int .i64 (t : Int)] 31))
  have x0 : (w.alloc (.cells #[.int .i64 (i : Int), .int .i64 (t : Int)] 31)).cell? ⟨w.heap.size, 0, none⟩ = some (.int .i64 (i : Int)) := box_cell (unhide X1) 0 _ rfl
  have x1 : (w.alloc (.cells #[.int .i64 (i : Int), .int .i64 (t : Int)] 31)).cell? ⟨w.heap.size, 1, none⟩ = some (.int .i64 (t : Int)) := box_cell (unhide X1) 1 _ rfl
  have NI := hide (isNumber_calls (i : Int))
  have NT := hide (isNumber_calls (t : Int))
  rw [decide_eq_true ⟨by omega, by omega⟩] at NI NT
  have Z1 := hide (z.more (unhide U1))
  have A1 := hide ((z.asdB (unhide U1)).sub (Bv := Av) (fun g hg => .inl hg))
  have nf : ∀ g, ¬ LFoot none [] g := fun g hg => by
    rcases hg with hg | ⟨x, hx, _⟩
    · cases hg
    · simp at hx
  have AC := hide (wanew_calls (c2 := ⟨i, t, c.ht, c.hv, []⟩) (ep2 := none) (ec2 := 0) (hs2 := []) ((unhide Z1).later ((Below.refl _ _).drew)) hN (OwnL.ofNil _ _) (fun g hg => absurd hg (nf g)) ⟨hi, ht, z.ok.ht, z.ok.hv, fun e he => by simp at he⟩ (by simp))
  have A2 := hide ((unhide A1).trans (((unhide Z1).asdB ((Below.refl _ _).drew)).sub (Bv := Av) (fun g hg => .inl (.inl hg))))
  have FL := hide (show ∀ e W, AnEnd (fun g => Av g ∨ (w.heap.size ≤ g ∧ g < (w.alloc (.cells #[.int .i64 (i : Int), .int .i64 (t : Int)] 31)).heap.size)) base L d M room (N + 1) (w.alloc (.cells #[.int .i64 (i : Int), .int .i64 (t : Int)] 31)).drew c n ep ec hs ⟨i, t, c.ht, c.hv, []⟩ none 0 [] (wAnew room n (allB ⟨i, t, c.ht, c.hv, []⟩) ss) e W → LgEnd Av base L d M room (N + 1) w (wNew room n c ⟨i, t, c.ht, c.hv, []⟩ ss) e W from fun e W h => AnEnd.lg (unhide A2) (fun g hg => ⟨.inl hg, nf g⟩) h)
  have SZ := hide (show w.heap.size < (w.alloc (.cells #[.int .i64 (i : Int), .int .i64 (t : Int)] 31)).heap.size from (Array.getElem?_eq_some_iff.1 (unhide X1)).1)
  dsimp only at AC
  rw [show (([] : List EntN).length) = 0 from rfl] at AC
  have l3 : (w.alloc (.cells #[.int .i64 (i : Int), .int .i64 (t : Int)] 31)).cell? ⟨L, 3, none⟩ = some (.int .i64 (c.ht : Int)) := box_cell (unhide Z1).lg.row 3 _ rfl
  have l4 : (w.alloc (.cells #[.int .i64 (i : Int), .int .i64 (t : Int)] 31)).cell? ⟨L, 4, none⟩ = some (.int .i64 (c.hv : Int)) := box_cell (unhide Z1).lg.row 4 _ rfl
  have NF := hide nf
  clear z X1 nf
  go_enter Tryz.func31, Tryz.ntmps31
  go_wp2_with fail
  go_at_call 71
  refine (unhide NI _).mono ?_
  rintro e V1 ⟨rfl, hV⟩
  subst hV
  go_wp2_with fail
  go_at_call 71
  refine (unhide NT _).mono ?_
  rintro e V2 ⟨rfl, hV⟩
  subst hV
  go_wp2_with fail
  generalize w.alloc _ = W1 at *
  have d0 : W1.drew.cell? ⟨w.heap.size, 0, none⟩ = some (.int .i64 (i : Int)) := x0
  have d1 : W1.drew.cell? ⟨w.heap.size, 1, none⟩ = some (.int .i64 (t : Int)) := x1
  have d3 : W1.drew.cell? ⟨L, 3, none⟩ = some (.int .i64 (c.ht : Int)) := l3
  have d4 : W1.drew.cell? ⟨L, 4, none⟩ = some (.int .i64 (c.hv : Int)) := l4
  clear x0 x1 l3 l4
  generalize wNew room n c ⟨i, t, c.ht, c.hv, []⟩ ss = wn at *
  generalize wAnew room n (allB ⟨i, t, c.ht, c.hv, []⟩) ss = r6 at *
  refine wp_region_held_drew (S := fun w' => w'.cell? ⟨w.heap.size, 0, none⟩ = some (.int .i64 (i : Int)) ∧ w'.cell? ⟨w.heap.size, 1, none⟩ = some (.int .i64 (t : Int)) ∧ w'.cell? ⟨L, 3, none⟩ = some (.int .i64 (c.ht : Int)) ∧ w'.cell? ⟨L, 4, none⟩ = some (.int .i64 (c.hv : Int))) (by kernel_rfl) ?_ (fun hHeld => ?_)
  · try dsimp only
    first | exact ⟨d0, d1, d3, d4⟩ | exact ⟨g0, g1, g3, g4⟩
  refine held_take 0 (oi := { dst := some 17, op := Op.move (Operand.tmp 0), type := 39, pos := "wal.go:114", after := #[], guard := none }) (v := ?_) (by kernel_rfl) rfl (by rfl) (by kernel_rfl) (by kernel_rfl) (fun _ _ _ h => h) ?_ (by assumption) ?_
  rotate_left
  · (intro w hSw; (try dsimp only at hSw); go_simp; try with_reducible rfl)
  try simp only [Act.put, List.setIfInBounds_toArray, List.set_cons_zero, List.set_cons_succ]
  refine held_take 1 (oi := { dst := some 18, op := Op.load 31 (Operand.tmp 3), type := 31, pos := "wal.go:114", after := #[], guard := none }) (v := ?_) (by kernel_rfl) rfl (by rfl) (by kernel_rfl) (by kernel_rfl) (fun _ _ _ h => h) ?_ (by assumption) ?_
  rotate_left
  · (intro w hSw; (try dsimp only at hSw); go_simp; try with_reducible rfl)
  try simp only [Act.put, List.setIfInBounds_toArray, List.set_cons_zero, List.set_cons_succ]
  refine held_take 2 (oi := { dst := some 19, op := Op.move (Operand.tmp 0), type := 39, pos := "wal.go:114", after := #[], guard := none }) (v := ?_) (by kernel_rfl) rfl (by rfl) (by kernel_rfl) (by kernel_rfl) (fun _ _ _ h => h) ?_ (by assumption) ?_
  rotate_left
  · (intro w hSw; (try dsimp only at hSw); go_simp; try with_reducible rfl)
  try simp only [Act.put, List.setIfInBounds_toArray, List.set_cons_zero, List.set_cons_succ]
  refine held_take 3 (oi := { dst := some 20, op := Op.nilCheck (Operand.tmp 19), type := 0, pos := "wal.go:114", after := #[{ on := 2, ground := Ground.data }], guard := none }) (v := ?_) (by kernel_rfl) rfl (by rfl) (by kernel_rfl) (by kernel_rfl) (fun _ _ _ h => h) ?_ (by assumption) ?_
  rotate_left
  · (intro w hSw; (try dsimp only at hSw); go_simp; try with_reducible rfl)
  try simp only [Act.put, List.setIfInBounds_toArray, List.set_cons_zero, List.set_cons_succ]
  refine held_take 4 (oi := { dst := some 21, op := Op.fieldAddr 96 (Operand.tmp 20) 1, type := 0, pos := "wal.go:114", after := #[{ on := 3, ground := Ground.data }], guard := none }) (v := ?_) (by kernel_rfl) rfl (by rfl) (by kernel_rfl) (by kernel_rfl) (fun _ _ _ h => h) ?_ (by assumption) ?_
  rotate_left
  · (intro w hSw; (try dsimp only at hSw); go_simp; try with_reducible rfl)
  try simp only [Act.put, List.setIfInBounds_toArray, List.set_cons_zero, List.set_cons_succ]
  refine held_take 5 (oi := { dst := some 22, op := Op.fieldAddr 94 (Operand.tmp 21) 1, type := 0, pos := "wal.go:114", after := #[{ on := 4, ground := Ground.data }], guard := none }) (v := ?_) (by kernel_rfl) rfl (by rfl) (by kernel_rfl) (by kernel_rfl) (fun _ _ _ h => h) ?_ (by assumption) ?_
  rotate_left
  · (intro w hSw; (try dsimp only at hSw); go_simp; try with_reducible rfl)
  try simp only [Act.put, List.setIfInBounds_toArray, List.set_cons_zero, List.set_cons_succ]
  refine held_take 6 (oi := { dst := some 23, op := Op.load 29 (Operand.tmp 22), type := 29, pos := "wal.go:114", after := #[{ on := 5, ground := Ground.data }], guard := none }) (v := ?_) (by kernel_rfl) rfl (by rfl) (by kernel_rfl) (by kernel_rfl) (fun _ _ _ h => h) ?_ (by assumption) ?_
  rotate_left
  · (intro w hSw; (try dsimp only at hSw); go_simp; try with_reducible rfl)
  try simp only [Act.put, List.setIfInBounds_toArray, List.set_cons_zero, List.set_cons_succ]
  refine held_take 7 (oi := { dst := some 24, op := Op.build 94 #[(0, Operand.tmp 18), (1, Operand.tmp 23)], type := 94, pos := "wal.go:114", after := #[{ on := 1, ground := Ground.data }, { on := 6, ground := Ground.data }], guard := none }) (v := ?_) (by kernel_rfl) rfl (by rfl) (by kernel_rfl) (by kernel_rfl) (fun _ _ _ h => h) ?_ (by assumption) ?_
  rotate_left
  · (intro w hSw; (try dsimp only at hSw); go_simp; try with_reducible rfl)
  try simp only [Act.put, List.setIfInBounds_toArray, List.set_cons_zero, List.set_cons_succ]
  refine held_one 8 (oi := { dst := some 25, op := Op.call { callee := Callee.value (Operand.func 63), args := #[Operand.tmp 17, Operand.tmp 24], argTypes := #[39, 94] }, type := 49, pos := "wal.go:114", after := #[{ on := 0, ground := Ground.data }, { on := 7, ground := Ground.data }], guard := none }) (by kernel_rfl) rfl (fun K hK => ?_)
  go_simp
  first
    | (go_at_call 63
       refine (unhide AC).mono ?_
       rintro e V6 hA
       have FE := hide (unhide FL _ _ hA)
       obtain ⟨rfl, a6, y6, n6⟩ := hA
       have hk6 := a6.av w.heap.size (.inr ⟨Nat.le_refl _, unhide SZ⟩)
       have g0 := (World.cell?_of_block (a := ⟨w.heap.size, 0, none⟩) hk6).trans d0
       have g1 := (World.cell?_of_block (a := ⟨w.heap.size, 1, none⟩) hk6).trans d1
       have g34 : V6.cell? ⟨L, 3, none⟩ = some (.int .i64 (c.ht : Int)) ∧ V6.cell? ⟨L, 4, none⟩ = some (.int .i64 (c.hv : Int)) := by
         by_cases h0 : r6.1 = 0
         · exact ⟨box_cell (y6 h0).2.lg.row 3 _ rfl, box_cell (y6 h0).2.lg.row 4 _ rfl⟩
         · exact ⟨box_cell (n6 h0).lg.row 3 _ rfl, box_cell (n6 h0).lg.row 4 _ rfl⟩
       have g3 := g34.1
       have g4 := g34.2
       clear a6 y6 n6 hk6 g34)
  go_wp2_with fail
  refine hK.out _ _ ?_ (fun hHeld => ?_)
  · try dsimp only
    first | exact ⟨d0, d1, d3, d4⟩ | exact ⟨g0, g1, g3, g4⟩
  clear hK K
  try simp only [Act.put, List.setIfInBounds_toArray, List.set_cons_zero, List.set_cons_succ]
  refine held_take 9 (oi := { dst := some 4, op := Op.assign (Operand.tmp 25), type := 49, pos := "wal.go:114", after := #[{ on := 8, ground := Ground.data }, { on := 8, ground := Ground.chain }, { on := 0, ground := Ground.phase }, { on := 1, ground := Ground.phase }, { on := 2, ground := Ground.phase }, { on := 3, ground := Ground.phase }, { on := 4, ground := Ground.phase }, { on := 5, ground := Ground.phase }, { on := 6, ground := Ground.phase }, { on := 7, ground := Ground.phase }, { on := 8, ground := Ground.phase }], guard := none }) (v := ?_) (by kernel_rfl) rfl (by rfl) (by kernel_rfl) (by kernel_rfl) (fun _ _ _ h => h) ?_ (by assumption) ?_
  rotate_left
  · (intro w hSw; (try dsimp only at hSw); go_simp; try with_reducible rfl)
  try simp only [Act.put, List.setIfInBounds_toArray, List.set_cons_zero, List.set_cons_succ]
  refine wpAnyH_done (by kernel_rfl) ?_ _
  go_wp2
  go_ret
  exact unhide FE
end
end Go.Proofs.YtijcpmbfhfppmaaGreatDoor
