/- Logs: Reset. -/
import Derived.Test.YtijcpmbfhfppmaaGreatDoorB26
import Derived.Test.YtijcpmbfhfppmaaGreatDoorB04
import Derived.Test.YtijcpmbfhfppmaaGreatDoorB01
import Derived.Test.YtijcpmbfhfppmaaGreatDoorB18
section
namespace Go.Proofs.YtijcpmbfhfppmaaGreatDoor
open Go.ChangeShapes Go.WideShapes Go.ChangeAt Go.RowKit
set_option linter.unusedVariables false

/-- A log written anew with a content, or as it was. -/
def wNew (room n : Nat) (c c2 : Wc) (ss : Ds) : Nat × Ds × Wc × Nat :=
  if (wAnew room n (allB c2) ss).1 ≠ 0 then ((wAnew room n (allB c2) ss).1, (wAnew room n (allB c2) ss).2, c, n) else (0, (wAnew room n (allB c2) ss).2, c2, n + 1)
theorem isNumber_calls (i : Int) (w : World) : Calls Tryz.prog 71 #[.int .i64 i] w fun e w' => e = .returned (.bool (decide (0 ≤ i ∧ i ≤ 1099511627776))) ∧ w' = w := by
  by_cases h1 : 0 ≤ i
  · by_cases h2 : i ≤ 1099511627776
    · rw [decide_eq_true ⟨h1, h2⟩]
      go_enter Tryz.func71, Tryz.ntmps71
      go_wp2
      go_ret
      exact ⟨rfl, rfl⟩
    · rw [decide_eq_false (fun h => h2 h.2)]
      go_enter Tryz.func71, Tryz.ntmps71
      go_wp2
      go_ret
      exact ⟨rfl, rfl⟩
  · rw [decide_eq_false (fun h => h1 h.1)]
    go_enter Tryz.func71, Tryz.ntmps71
    go_wp2
    go_ret
    exact ⟨rfl, rfl⟩
section
variable {Av : Nat → Prop} {base : Nat} {w w' : World} {L d M room N N' : Nat} {ss ss' : Ds} {c : Wc} {n : Nat} {ep : Option Addr} {ec : Nat} {hs : List (Option Addr × Nat)}
theorem AnEnd.lg {c2 : Wc} {ep2 : Option Addr} {ec2 : Nat} {hs2 : List (Option Addr × Nat)} {Bv : Nat → Prop} {w0 : World} {e : Ending} (ha : Asd Bv base w0 w) (hs1 : ∀ g, Bv g → Av g ∧ ¬ LFoot ep2 hs2 g) (h : AnEnd Av base L d M room N w c n ep ec hs c2 ep2 ec2 hs2 (wAnew room n (allB c2) ss) e w') : LgEnd Bv base L d M room N w0 (wNew room n c c2 ss) e w' := by
  obtain ⟨rfl, a, y, x⟩ := h
  unfold wNew
  have A := ha.trans (a.sub (fun g hg => (hs1 g hg).1))
  by_cases h0 : (wAnew room n (allB c2) ss).1 = 0
  · rw [if_neg (by simp [h0])]
    exact ⟨by rw [h0], ⟨ep2, ec2, hs2, (y h0).2.sub hs1⟩, A⟩
  · rw [if_pos h0]
    exact ⟨rfl, ⟨ep, ec, hs, (x h0).sub (fun g hg => (hs1 g hg).1)⟩, A⟩
set_option maxRecDepth 20000 in
set_option maxHeartbeats 16000000 in
theorem reset_no (z : WAt Av base w L d M room N ss c n ep ec hs) (i t : Int) (h : ¬ ((0 ≤ i ∧ i ≤ 1099511627776) ∧ 0 ≤ t ∧ t ≤ 1099511627776)) :
    Calls Tryz.prog 31 #[.pointer (some ⟨L, 0, none⟩), .agg #[.int .i64 i, .int .i64 t]] w (LgEnd Av base L d M room N w (2, ss, c, n)) := by
  have U1 := hide (show Below w.heap.size w (w.alloc (.cells #[.int .i64 i, .int .i64 t] 31)) from (Below.refl _ _).alloc (Nat.le_refl _) _)
  have X1 := heap_new w (.cells #[.int .i64 i, .int .i64 t] 31)
  have x0 : (w.alloc (.cells #[.int .i64 i, .int .i64 t] 31)).cell? ⟨w.heap.size, 0, none⟩ = some (.int .i64 i) := box_cell X1 0 _ rfl
  have x1 : (w.alloc (.cells #[.int .i64 i, .int .i64 t] 31)).cell? ⟨w.heap.size, 1, none⟩ = some (.int .i64 t) := box_cell X1 1 _ rfl
  have FE := hide (show LgEnd Av base L d M room N w (2, ss, c, n) (.returned (.int .i64 2)) (w.alloc (.cells #[.int .i64 i, .int .i64 t] 31)) from ⟨rfl, ⟨ep, ec, hs, z.later (unhide U1)⟩, (z.asdB (unhide U1)).sub (fun g hg => .inl hg)⟩)
  have NI := hide (isNumber_calls i)
  have NT := hide (isNumber_calls t)
  have DI : (decide (0 ≤ i ∧ i ≤ 1099511627776) = false) ∨ (decide (0 ≤ i ∧ i ≤ 1099511627776) = true ∧ decide (0 ≤ t ∧ t ≤ 1099511627776) = false) := by
    by_cases h1 : 0 ≤ i ∧ i ≤ 1099511627776
    · exact .inr ⟨decide_eq_true h1, decide_eq_false (fun h2 => h ⟨h1, h2⟩)⟩
    · exact .inl (decide_eq_false h1)
  generalize decide (0 ≤ i ∧ i ≤ 1099511627776) = di at *
  generalize decide (0 ≤ t ∧ t ≤ 1099511627776) = dt at *
  clear z X1 h
  rcases DI with rfl | ⟨rfl, rfl⟩
  · go_enter Tryz.func31, Tryz.ntmps31
    go_wp2_with fail
    go_at_call 71
    refine (unhide NI _).mono ?_
    rintro e V1 ⟨rfl, hV⟩
    subst hV
    go_wp2
    go_ret
    exact unhide FE
  · go_enter Tryz.func31, Tryz.ntmps31
    go_wp2_with fail
    go_at_call 71
    refine (unhide NI _).mono ?_
    rintro e V1 ⟨rfl, hV⟩
    subst hV
    go_wp2_with fail
    go_at_call 71
    refine (unhide NT _).mono ?_
    rintro e V2 ⟨rfl, hV⟩
    subst hV
    go_wp2
    go_ret
    exact unhide FE
set_option maxRecDepth 20000 in
set_option maxHeartbeats 16000000 in
theorem reset_yes (z : WAt Av base w L d M room N ss c n ep ec hs) (hN : N + 1 ≤ 1000000) (i t : Nat) (hi : i ≤ 1099511627776) (ht : t ≤ 1099511627776) :
    Calls Tryz.prog 31 #[.pointer (some ⟨L, 0, none⟩), .agg #[.int .i64 (i : Int), .int .i64 (t : Int)]] w (LgEnd Av base L d M room (N + 1) w (wNew room n c ⟨i, t, c.ht, c.hv, []⟩ ss)) := by
  have U1 := hide (show Below w.heap.size w (w.alloc (.cells #[.int .i64 (i : Int), .int .i64 (t : Int)] 31)) from (Below.refl _ _).alloc (Nat.le_refl _) _)
  have X1 := hide (heap_new w (.cells #[.int .i64 (i : Int), .int .i64 (t : Int)] 31))
  have x0 : (w.alloc (.cells #[.int .i64 (i : Int), .int .i64 (t : Int)] 31)).cell? ⟨w.heap.size, 0, none⟩ = some (.int .i64 (i : Int)) := box_cell (unhide X1) 0 _ rfl
  have x1 : (w.alloc (.cells #[.int .i64 (i : Int), .int .i64 (t : Int)] 31)).cell? ⟨w.heap.size, 1, none⟩ = some (.int .i64 (t : Int)) := box_cell (unhide X1) 1 _ rfl
  have NI := hide (isNumber_calls (i : Int))
  have NT := hide (isNumber_calls (t : Int))
  rw [decide_eq_true ⟨by omega, by omega⟩] at NI NT
  have Z1 := hide (z.more (unhide U1))
  have A1 := hide ((z.asdB (unhide U1)).sub (Bv := Av) (fun g hg => .inl hg))
  have nf : ∀ g, ¬ LFoot none [] g := fun g hg => by
    rcases hg with hg | ⟨x, hx, _⟩
    · cases hg
    · simp at hx
  have AC := hide (wanew_calls (c2 := ⟨i, t, c.ht, c.hv, []⟩) (ep2 := none) (ec2 := 0) (hs2 := []) ((unhide Z1).later ((Below.refl _ _).drew)) hN (OwnL.ofNil _ _) (fun g hg => absurd hg (nf g)) ⟨hi, ht, z.ok.ht, z.ok.hv, fun e he => by simp at he⟩ (by simp))
  have A2 := hide ((unhide A1).trans (((unhide Z1).asdB ((Below.refl _ _).drew)).sub (Bv := Av) (fun g hg => .inl (.inl hg))))
  have FL := hide (show ∀ e W, AnEnd (fun g => Av g ∨ (w.heap.size ≤ g ∧ g < (w.alloc (.cells #[.int .i64 (i : Int), .int .i64 (t : Int)] 31)).heap.size)) base L d M room (N + 1) (w.alloc (.cells #[.int .i64 (i : Int), .int .i64 (t : Int)] 31)).drew c n ep ec hs ⟨i, t, c.ht, c.hv, []⟩ none 0 [] (wAnew room n (allB ⟨i, t, c.ht, c.hv, []⟩) ss) e W → LgEnd Av base L d M room (N + 1) w (wNew room n c ⟨i, t, c.ht, c.hv, []⟩ ss) e W from fun e W h => AnEnd.lg (unhide A2) (fun g hg => ⟨.inl hg, nf g⟩) h)
  have SZ := hide (show w.heap.size < (w.alloc (.cells #[.int .i64 (i : Int), .int .i64 (t : Int)] 31)).heap.size from (Array.getElem?_eq_some_iff.1 (unhide X1)).1)
  dsimp only at AC
  rw [show (([] : List EntN).length) = 0 from rfl] at AC
  have l3 : (w.alloc (.cells #[.int .i64 (i : Int), .int .i64 (t : Int)] 31)).cell? ⟨L, 3, none⟩ = some (.int .i64 (c.ht : Int)) := box_cell (unhide Z1).lg.row 3 _ rfl
  have l4 : (w.alloc (.cells #[.int .i64 (i : Int), .int .i64 (t : Int)] 31)).cell? ⟨L, 4, none⟩ = some (.int .i64 (c.hv : Int)) := box_cell (unhide Z1).lg.row 4 _ rfl
  have NF := hide nf
  clear z X1 nf
  go_enter Tryz.func31, Tryz.ntmps31
  go_wp2_with fail
  go_at_call 71
  refine (unhide NI _).mono ?_
  rintro e V1 ⟨rfl, hV⟩
  subst hV
  go_wp2_with fail
  go_at_call 71
  refine (unhide NT _).mono ?_
  rintro e V2 ⟨rfl, hV⟩
  subst hV
  go_wp2_with fail
  generalize w.alloc _ = W1 at *
  have d0 : W1.drew.cell? ⟨w.heap.size, 0, none⟩ = some (.int .i64 (i : Int)) := x0
  have d1 : W1.drew.cell? ⟨w.heap.size, 1, none⟩ = some (.int .i64 (t : Int)) := x1
  have d3 : W1.drew.cell? ⟨L, 3, none⟩ = some (.int .i64 (c.ht : Int)) := l3
  have d4 : W1.drew.cell? ⟨L, 4, none⟩ = some (.int .i64 (c.hv : Int)) := l4
  clear x0 x1 l3 l4
  generalize wNew room n c ⟨i, t, c.ht, c.hv, []⟩ ss = wn at *
  generalize wAnew room n (allB ⟨i, t, c.ht, c.hv, []⟩) ss = r6 at *
  refine wp_region_held_drew (S := fun w' => w'.cell? ⟨w.heap.size, 0, none⟩ = some (.int .i64 (i : Int)) ∧ w'.cell? ⟨w.heap.size, 1, none⟩ = some (.int .i64 (t : Int)) ∧ w'.cell? ⟨L, 3, none⟩ = some (.int .i64 (c.ht : Int)) ∧ w'.cell? ⟨L, 4, none⟩ = some (.int .i64 (c.hv : Int))) (by kernel_rfl) ?_ (fun hHeld => ?_)
  · try dsimp only
    first | exact ⟨d0, d1, d3, d4⟩ | exact ⟨g0, g1, g3, g4⟩
  refine held_take 0 (oi := { dst := some 17, op := Op.move (Operand.tmp 0), type := 39, pos := "wal.go:114", after := #[], guard := none }) (v := ?_) (by kernel_rfl) rfl (by rfl) (by kernel_rfl) (by kernel_rfl) (fun _ _ _ h => h) ?_ (by assumption) ?_
  rotate_left
  · (intro w hSw; (try dsimp only at hSw); go_simp; try with_reducible rfl)
  try simp only [Act.put, List.setIfInBounds_toArray, List.set_cons_zero, List.set_cons_succ]
  refine held_take 1 (oi := { dst := some 18, op := Op.load 31 (Operand.tmp 3), type := 31, pos := "wal.go:114", after := #[], guard := none }) (v := ?_) (by kernel_rfl) rfl (by rfl) (by kernel_rfl) (by kernel_rfl) (fun _ _ _ h => h) ?_ (by assumption) ?_
  rotate_left
  · (intro w hSw; (try dsimp only at hSw); go_simp; try with_reducible rfl)
  try simp only [Act.put, List.setIfInBounds_toArray, List.set_cons_zero, List.set_cons_succ]
  refine held_take 2 (oi := { dst := some 19, op := Op.move (Operand.tmp 0), type := 39, pos := "wal.go:114", after := #[], guard := none }) (v := ?_) (by kernel_rfl) rfl (by rfl) (by kernel_rfl) (by kernel_rfl) (fun _ _ _ h => h) ?_ (by assumption) ?_
  rotate_left
  · (intro w hSw; (try dsimp only at hSw); go_simp; try with_reducible rfl)
  try simp only [Act.put, List.setIfInBounds_toArray, List.set_cons_zero, List.set_cons_succ]
  refine held_take 3 (oi := { dst := some 20, op := Op.nilCheck (Operand.tmp 19), type := 0, pos := "wal.go:114", after := #[{ on := 2, ground := Ground.data }], guard := none }) (v := ?_) (by kernel_rfl) rfl (by rfl) (by kernel_rfl) (by kernel_rfl) (fun _ _ _ h => h) ?_ (by assumption) ?_
  rotate_left
  · (intro w hSw; (try dsimp only at hSw); go_simp; try with_reducible rfl)
  try simp only [Act.put, List.setIfInBounds_toArray, List.set_cons_zero, List.set_cons_succ]
  refine held_take 4 (oi := { dst := some 21, op := Op.fieldAddr 96 (Operand.tmp 20) 1, type := 0, pos := "wal.go:114", after := #[{ on := 3, ground := Ground.data }], guard := none }) (v := ?_) (by kernel_rfl) rfl (by rfl) (by kernel_rfl) (by kernel_rfl) (fun _ _ _ h => h) ?_ (by assumption) ?_
  rotate_left
  · (intro w hSw; (try dsimp only at hSw); go_simp; try with_reducible rfl)
  try simp only [Act.put, List.setIfInBounds_toArray, List.set_cons_zero, List.set_cons_succ]
  refine held_take 5 (oi := { dst := some 22, op := Op.fieldAddr 94 (Operand.tmp 21) 1, type := 0, pos := "wal.go:114", after := #[{ on := 4, ground := Ground.data }], guard := none }) (v := ?_) (by kernel_rfl) rfl (by rfl) (by kernel_rfl) (by kernel_rfl) (fun _ _ _ h => h) ?_ (by assumption) ?_
  rotate_left
  · (intro w hSw; (try dsimp only at hSw); go_simp; try with_reducible rfl)
  try simp only [Act.put, List.setIfInBounds_toArray, List.set_cons_zero, List.set_cons_succ]
  refine held_take 6 (oi := { dst := some 23, op := Op.load 29 (Operand.tmp 22), type := 29, pos := "wal.go:114", after := #[{ on := 5, ground := Ground.data }], guard := none }) (v := ?_) (by kernel_rfl) rfl (by rfl) (by kernel_rfl) (by kernel_rfl) (fun _ _ _ h => h) ?_ (by assumption) ?_
  rotate_left
  · (intro w hSw; (try dsimp only at hSw); go_simp; try with_reducible rfl)
  try simp only [Act.put, List.setIfInBounds_toArray, List.set_cons_zero, List.set_cons_succ]
  refine held_take 7 (oi := { dst := some 24, op := Op.build 94 #[(0, Operand.tmp 18), (1, Operand.tmp 23)], type := 94, pos := "wal.go:114", after := #[{ on := 1, ground := Ground.data }, { on := 6, ground := Ground.data }], guard := none }) (v := ?_) (by kernel_rfl) rfl (by rfl) (by kernel_rfl) (by kernel_rfl) (fun _ _ _ h => h) ?_ (by assumption) ?_
  rotate_left
  · (intro w hSw; (try dsimp only at hSw); go_simp; try with_reducible rfl)
  try simp only [Act.put, List.setIfInBounds_toArray, List.set_cons_zero, List.set_cons_succ]
  refine held_one 8 (oi := { dst := some 25, op := Op.call { callee := Callee.value (Operand.func 63), args := #[Operand.tmp 17, Operand.tmp 24], argTypes := #[39, 94] }, type := 49, pos := "wal.go:114", after := #[{ on := 0, ground := Ground.data }, { on := 7, ground := Ground.data }], guard := none }) (by kernel_rfl) rfl (fun K hK => ?_)
  go_simp
  first
    | (go_at_call 63
       refine (unhide AC).mono ?_
       rintro e V6 hA
       have FE := hide (unhide FL _ _ hA)
       obtain ⟨rfl, a6, y6, n6⟩ := hA
       have hk6 := a6.av w.heap.size (.inr ⟨Nat.le_refl _, unhide SZ⟩)
       have g0 := (World.cell?_of_block (a := ⟨w.heap.size, 0, none⟩) hk6).trans d0
       have g1 := (World.cell?_of_block (a := ⟨w.heap.size, 1, none⟩) hk6).trans d1
       have g34 : V6.cell? ⟨L, 3, none⟩ = some (.int .i64 (c.ht : Int)) ∧ V6.cell? ⟨L, 4, none⟩ = some (.int .i64 (c.hv : Int)) := by
         by_cases h0 : r6.1 = 0
         · exact ⟨box_cell (y6 h0).2.lg.row 3 _ rfl, box_cell (y6 h0).2.lg.row 4 _ rfl⟩
         · exact ⟨box_cell (n6 h0).lg.row 3 _ rfl, box_cell (n6 h0).lg.row 4 _ rfl⟩
       have g3 := g34.1
       have g4 := g34.2
       clear a6 y6 n6 hk6 g34)
  go_wp2_with fail
  refine hK.out _ _ ?_ (fun hHeld => ?_)
  · try dsimp only
    first | exact ⟨d0, d1, d3, d4⟩ | exact ⟨g0, g1, g3, g4⟩
  clear hK K
  try simp only [Act.put, List.setIfInBounds_toArray, List.set_cons_zero, List.set_cons_succ]
  refine held_take 9 (oi := { dst := some 4, op := Op.assign (Operand.tmp 25), type := 49, pos := "wal.go:114", after := #[{ on := 8, ground := Ground.data }, { on := 8, ground := Ground.chain }, { on := 0, ground := Ground.phase }, { on := 1, ground := Ground.phase }, { on := 2, ground := Ground.phase }, { on := 3, ground := Ground.phase }, { on := 4, ground := Ground.phase }, { on := 5, ground := Ground.phase }, { on := 6, ground := Ground.phase }, { on := 7, ground := Ground.phase }, { on := 8, ground := Ground.phase }], guard := none }) (v := ?_) (by kernel_rfl) rfl (by rfl) (by kernel_rfl) (by kernel_rfl) (fun _ _ _ h => h) ?_ (by assumption) ?_
  rotate_left
  · (intro w hSw; (try dsimp only at hSw); go_simp; try with_reducible rfl)
  try simp only [Act.put, List.setIfInBounds_toArray, List.set_cons_zero, List.set_cons_succ]
  refine wpAnyH_done (by kernel_rfl) ?_ _
  go_wp2
  go_ret
  exact unhide FE
end
end Go.Proofs.YtijcpmbfhfppmaaGreatDoor
end
/- Small aids: a remainder as a number, b[:n]. -/
section
namespace Go.Proofs.YtijcpmbfhfppmaaGreatDoor
open Go.ChangeShapes Go.WideShapes Go.ChangeAt Go.RowKit
end Go.Proofs.YtijcpmbfhfppmaaGreatDoor
end
/- Next and All with the length apart. -/
section
namespace Go.Proofs.YtijcpmbfhfppmaaGreatDoor
open Go.ChangeShapes Go.WideShapes Go.ChangeAt Go.RowKit

theorem next_any' (a : Option Addr) (n c : Nat) (l : List Nat) (k : Nat) (kk : Int) (w : World) (hkk : kk = (k : Int)) (hn : l.length = n) (hl : l.length ≤ maxLen) (hc : l.length ≤ c) (hk : k ≤ l.length) (hb : BytesAt w a l) :
    Calls Tryz.prog 132 #[.slice a n c, .int .i64 kk] w fun e w' => Below w.heap.size w w' ∧
      ((0 < nextE l k ∧ e = .returned (.tuple #[.slice none 0 0, .int .i64 0, .int .i64 (nextE l k : Nat)])) ∨
       (nextE l k = 0 ∧ ∃ g, e = .returned (.tuple #[.slice (some ⟨g, 0, none⟩) (nextH l k).length (nextH l k).length, .int .i64 ((k + 8 + (nextH l k).length : Nat) : Int), .int .i64 0]) ∧ w.heap.size ≤ g ∧ w'.heap[g]? = some (.cells ((nextH l k).map byteV).toArray 5 (0, 0)))) := by
  subst hn; subst hkk; exact next_any a c l k w hl hc hk hb
/-- Next at a place where there is an error. -/
theorem next_err' (a : Option Addr) (n c : Nat) (l : List Nat) (k : Nat) (kk : Int) (w : World) (hkk : kk = (k : Int)) (hn : l.length = n) (hl : l.length ≤ maxLen) (hc : l.length ≤ c) (hk : k ≤ l.length) (hb : BytesAt w a l) (E : Nat) (he : nextE l k = E) (hE : 0 < E) :
    Calls Tryz.prog 132 #[.slice a n c, .int .i64 kk] w fun e w' => e = .returned (.tuple #[.slice none 0 0, .int .i64 0, .int .i64 (E : Int)]) ∧ Below w.heap.size w w' := by
  refine (next_any' a n c l k kk w hkk hn hl hc hk hb).mono ?_
  rintro e w' ⟨hbw, ⟨_, rfl⟩ | ⟨h0, _⟩⟩
  · exact ⟨by rw [he], hbw⟩
  · omega
theorem all_calls' (a : Option Addr) (n c : Nat) (l : List Nat) (w : World) (hn : l.length = n) (hl : l.length ≤ 1099511627776) (hc : l.length ≤ c) (hb : BytesAt w a l) :
    Calls Tryz.prog 100 #[.slice a n c] w fun e w' => ∃ v hs k, e = .returned (.tuple #[v, .int .i64 ((k : Nat) : Int)]) ∧ Below w.heap.size w w' ∧ OwnS w.heap.size w' v hs ∧ Steps l 0 hs k ∧ 0 < nextE l k ∧ k ≤ l.length := by
  subst hn; exact all_calls a c l w hl hc hb
/-- All, where what comes out is known. -/
theorem all_known (a : Option Addr) (n c : Nat) (l : List Nat) (hs : List (List Nat)) (k : Nat) (w : World) (hn : l.length = n) (hl : l.length ≤ 1099511627776) (hc : l.length ≤ c) (hb : BytesAt w a l) (hst : Steps l 0 hs k) (he : 0 < nextE l k) :
    Calls Tryz.prog 100 #[.slice a n c] w fun e w' => ∃ sp c', e = .returned (.tuple #[.slice sp hs.length c', .int .i64 (k : Int)]) ∧ Below w.heap.size w w' ∧ OwnS w.heap.size w' (.slice sp hs.length c') hs := by
  refine (all_calls' a n c l w hn hl hc hb).mono ?_
  rintro e w' ⟨v, hs', k', rfl, hbw, ho, hst', he', _⟩
  obtain ⟨rfl, rfl⟩ := Steps.uniq hst he hst' he'
  obtain ⟨sp, c', rfl⟩ := ho.form
  exact ⟨sp, c', rfl, hbw, ho⟩
/-- A frame that is cut short is none. -/
theorem cut_next (l : List Nat) (n : Nat) (hl : l.length ≤ 65536) (hn : n < 8 + l.length) : nextE ((frameB l).take n) 0 = 3 := by
  unfold nextE
  have hlen : ((frameB l).take n).length = n := by rw [List.length_take, frameB_length]; omega
  rw [hlen, Nat.sub_zero, List.drop_zero]
  by_cases h8 : n < 8
  · rw [if_pos h8]
  · have hd : (frameB l).drop 0 = word4 l.length ++ (word4 (fsum l.length l) ++ (l ++ [])) := by rw [List.drop_zero, List.append_nil]; rfl
    have hnum : num4 ((frameB l).take n) = l.length := by
      have e : num4 (((frameB l).take n).take 4) = num4 ((frameB l).take 4) := by rw [List.take_take, Nat.min_eq_left (by omega)]
      rw [num4_take, num4_take] at e
      rw [e]
      exact num4_word4 l.length _
    rw [if_neg h8, hnum, if_neg (by omega), if_pos (by omega)]
end Go.Proofs.YtijcpmbfhfppmaaGreatDoor
end
/- Slices of numbers that the call itself makes by append: laws for the walk. -/
section
namespace Go.Proofs.YtijcpmbfhfppmaaGreatDoor
open Go.ChangeShapes Go.WideShapes Go.ChangeAt Go.RowKit

theorem info64 : (Tryz.prog.info? 3).map (fun i => (i.zero, i.size, i.bytes)) = some (some (.int .i64 0), 1, 8) := by kernel_rfl
abbrev iV : Int → Value := Value.int .i64
/-- A slice of numbers in memory of the call's own, from block 'base' on. -/
structure OwnI (base : Nat) (w : World) (sp : Option Addr) (c : Nat) (l : List Int) : Prop where
  owns : w.ownsRow base 3 1 (.slice sp l.length c) l.length (l.map iV)
  bd : ∀ n ∈ l, -9223372036854775808 ≤ n ∧ n ≤ 9223372036854775807
theorem OwnI.ints {base : Nat} {w : World} {sp : Option Addr} {c : Nat} {l : List Int} (h : OwnI base w sp c l) : IntsAt w sp l := by
  refine ⟨h.bd, fun i hi => ?_⟩
  rcases h.owns.2 with ⟨hv, h0⟩ | ⟨g, cap, cur, hv, _, hg, _, _, _, ht⟩
  · omega
  · cases hv
    refine ⟨g, 0, rfl, ?_⟩
    rw [cell_of_row w g (0 + i) cur _ _ hg, Nat.zero_add]
    have e : (l.map iV)[i]? = some (iV l[i]) := by
      rw [List.getElem?_map, List.getElem?_eq_getElem hi]; rfl
    rw [← ht, List.getElem?_take, if_pos (by omega)] at e
    rw [← Array.getElem?_toList]
    exact e
theorem OwnI.cap {base : Nat} {w : World} {sp : Option Addr} {c : Nat} {l : List Int} (h : OwnI base w sp c l) : l.length ≤ c ∧ c ≤ maxLen := by
  rcases h.owns.2 with ⟨hv, h0⟩ | ⟨g, cap, cur, hv, _, hg, h1, h2, _, ht⟩
  · simp only [Value.slice.injEq] at hv
    obtain ⟨_, _, rfl⟩ := hv
    exact ⟨by omega, by simp [maxLen]⟩
  · simp only [Value.slice.injEq] at hv
    obtain ⟨_, _, rfl⟩ := hv
    exact ⟨h1, h2⟩
theorem OwnI.nil0 {base : Nat} {w : World} {sp : Option Addr} {c : Nat} {l : List Int} (h : OwnI base w sp c l) : sp = none → c = 0 := by
  rcases h.owns.2 with ⟨hv, h0⟩ | ⟨g, cap, cur, hv, _⟩
  · simp only [Value.slice.injEq] at hv
    exact fun _ => hv.2.2
  · simp only [Value.slice.injEq] at hv
    intro e
    rw [e] at hv
    cases hv.1
theorem OwnI.empty (w : World) (base : Nat) (hb : base ≤ w.heap.size) : OwnI base (w.alloc (.cells #[] 3)) (some ⟨w.heap.size, 0, none⟩) 0 [] :=
  ⟨⟨rfl, .inr ⟨w.heap.size, 0, #[], rfl, hb, heap_new _ _, Nat.le_refl _, by simp [maxLen], rfl, rfl⟩⟩, by simp⟩
theorem OwnI.ofNil (w : World) (base : Nat) : OwnI base w none 0 [] := ⟨w.ownsRow_nil base 3 1, by simp⟩
theorem OwnI.later {base : Nat} {w w' : World} {sp : Option Addr} {c : Nat} {l : List Int} (h : OwnI base w sp c l) (hb : Below w.heap.size w w') : OwnI base w' sp c l := by
  refine ⟨⟨h.owns.1, ?_⟩, h.bd⟩
  rcases h.owns.2 with hv | ⟨g, cap, cur, hv, hbg, hg, r⟩
  · exact .inl hv
  · exact .inr ⟨g, cap, cur, hv, hbg, (hb.block g (Array.getElem?_eq_some_iff.1 hg).1).trans hg, r⟩
theorem OwnI.mono {base base' : Nat} {w : World} {sp : Option Addr} {c : Nat} {l : List Int} (h : OwnI base w sp c l) (hb : base' ≤ base) : OwnI base' w sp c l := by
  refine ⟨⟨h.owns.1, ?_⟩, h.bd⟩
  rcases h.owns.2 with hv | ⟨g, cap, cur, hv, hbg, r⟩
  · exact .inl hv
  · exact .inr ⟨g, cap, cur, hv, by omega, r⟩
theorem OwnI.ofBlock {base g : Nat} {w : World} {l : List Int} (hg : w.heap[g]? = some (.cells (l.map iV).toArray 3 (0, 0))) (hbg : base ≤ g) (hl : ∀ n ∈ l, -9223372036854775808 ≤ n ∧ n ≤ 9223372036854775807) (hm : l.length ≤ maxLen) : OwnI base w (some ⟨g, 0, none⟩) l.length l :=
  ⟨⟨by simp, .inr ⟨g, l.length, (l.map iV).toArray, rfl, hbg, hg, Nat.le_refl _, hm, by simp, by rw [Nat.mul_one]; exact List.take_of_length_le (by simp)⟩⟩, hl⟩
theorem OwnI.kept {base : Nat} {w w' : World} {sp : Option Addr} {c : Nat} {l : List Int} {row : Option Nat} (h : OwnI base w sp c l) (hg : w.grownBy w' row) (hne : ∀ g, blk sp = some g → row ≠ some g) : OwnI base w' sp c l := by
  refine ⟨⟨h.owns.1, ?_⟩, h.bd⟩
  rcases h.owns.2 with hv | ⟨g, cap, cur, hv, hbg, hgg, r⟩
  · exact .inl hv
  · refine .inr ⟨g, cap, cur, hv, hbg, (hg.block g (Array.getElem?_eq_some_iff.1 hgg).1 (fun e => hne g ?_ e.symm)).trans hgg, r⟩
    simp only [Value.slice.injEq] at hv
    rw [hv.1]
    rfl
theorem OwnI.blk_lt {base : Nat} {w : World} {sp : Option Addr} {c : Nat} {l : List Int} (h : OwnI base w sp c l) : ∀ g, blk sp = some g → base ≤ g ∧ g < w.heap.size := by
  intro g hg
  have := h.owns.lt g (by rw [ownBlock_slice]; exact hg)
  exact this
theorem IntsAt.kept {w w' : World} {a : Option Addr} {l : List Int} {row : Option Nat} (h : IntsAt w a l) (hg : w.grownBy w' row) (hne : ∀ b off, a = some ⟨b, off, none⟩ → row ≠ some b) : IntsAt w' a l :=
  ⟨h.bd, fun i hi => by
    obtain ⟨b, off, e, hc⟩ := h.cell i hi
    refine ⟨b, off, e, ?_⟩
    have hlt : b < w.heap.size := by
      rcases Nat.lt_or_ge b w.heap.size with h1 | h1
      · exact h1
      · have : w.heap[b]? = none := Array.getElem?_eq_none h1
        simp [World.cell?, this] at hc
    have e2 := hg.block b hlt (fun e' => hne b off e e'.symm)
    simp only [World.cell?, e2] at hc ⊢
    exact hc⟩
theorem IntsAt.take {w : World} {a : Option Addr} {l : List Int} (h : IntsAt w a l) (k : Nat) : IntsAt w a (l.take k) :=
  ⟨fun n hn => h.bd n (List.mem_of_mem_take hn), fun i hi => by
    rw [List.length_take] at hi
    obtain ⟨b, off, e, hc⟩ := h.cell i (by omega)
    exact ⟨b, off, e, by rw [List.getElem_take]; exact hc⟩⟩
theorem cells_of_intsAt {w : World} {a : Option Addr} {l : List Int} (hb : IntsAt w a l) (h : 0 < (l.map iV).length) : ∃ ad, a = some ad ∧ ∀ j v, (l.map iV)[j]? = some v → w.cell? (ad.add j) = some v := by
  rw [List.length_map] at h
  obtain ⟨b, off, rfl, _⟩ := hb.cell 0 h
  refine ⟨_, rfl, fun j v hv => ?_⟩
  have hj : j < l.length := by
    rcases Nat.lt_or_ge j l.length with h1 | h1
    · exact h1
    · rw [List.getElem?_eq_none (by rw [List.length_map]; exact h1)] at hv; cases hv
  obtain ⟨b', off', e, hc⟩ := hb.cell j hj
  cases e
  rw [List.getElem?_map, List.getElem?_eq_getElem hj] at hv
  cases hv
  rw [Addr.add_lit]
  exact hc
theorem oneCell_ints (l : List Int) : ∀ v ∈ l.map iV, v.oneCell' = true := by
  intro v hv
  obtain ⟨x, _, rfl⟩ := List.mem_map.1 hv
  rfl
/-- What an append of numbers leaves. -/
theorem run_appendI {w : World} (base : Nat) (sp : Option Addr) (c : Nat) (l : List Int) (hown : OwnI base w sp c l) (xp : Option Addr) (m xc : Nat) (k : List Int) (hk : k.length = m) (hB : IntsAt w xp k) (hx0 : xp = none → xc = 0)
    (hsz : (l.length + m) * 8 ≤ 140737488355328) (hbase : base ≤ w.heap.size) (ty : TypeId) :
    ∃ sp' c' w', (Builtin.append_ #[32, 32] ty #[.slice sp l.length c, .slice xp m xc]).run Tryz.prog w = .ok (.slice sp' (l ++ k).length c') w' ∧ OwnI base w' sp' c' (l ++ k) ∧ w.grownBy w' (blk sp) ∧ ∀ g, blk sp' = some g → blk sp = some g ∨ w.heap.size ≤ g := by
  subst hk
  obtain ⟨i0, hi, hz0, hz1, hz2⟩ := info_parts info64
  have hbd : ∀ n ∈ l ++ k, -9223372036854775808 ≤ n ∧ n ≤ 9223372036854775807 := fun c hc => (List.mem_append.1 hc).elim (hown.bd c) (hB.bd c)
  cases xp with
  | none =>
    have hk0 : k = [] := by
      cases k with
      | nil => rfl
      | cons x r => obtain ⟨b, off, h, _⟩ := hB.cell 0 (by simp); cases h
    subst hk0
    rw [hx0 rfl]
    have hrun := run_append_owned_none (P := Tryz.prog) (w := w) base 32 ty 3 i0 1 Tryz.underlying32 hi _ _ _ hown.owns
    refine ⟨sp, c, w, ?_, ?_, ⟨rfl, rfl, rfl, Nat.le_refl _, fun _ _ _ => rfl⟩, fun g hg => .inl hg⟩
    · rw [List.append_nil]; exact hrun
    · rw [List.append_nil]; exact hown
  | some x =>
    obtain ⟨v', w', hrun, h1, h2, _, h5⟩ := run_append_own_at (P := Tryz.prog) w base 32 ty 3 i0 (.int .i64 0) 1 8 Tryz.underlying32 hi hz0 hz1 hz2 rfl (by omega) _ _ _ hown.owns x k.length xc (k.map iV) (by simp)
      (fun j u hu => by
        have h0 : 0 < (k.map iV).length := by
          rcases Nat.eq_zero_or_pos (k.map iV).length with h | h
          · rw [List.getElem?_eq_none (by omega)] at hu; cases hu
          · exact h
        obtain ⟨ad, had, hc⟩ := cells_of_intsAt hB h0
        cases had
        exact hc j u hu) (oneCell_ints k) (by simp only [maxLen]; omega) (by omega) hbase
    rw [← List.map_append, ← List.length_append] at h1
    have hv : ∃ sp' c', v' = .slice sp' (l ++ k).length c' := by
      rcases h1.2 with ⟨hv, h0⟩ | ⟨g, cap, cur, hv, _⟩
      · exact ⟨none, 0, by rw [hv, h0]⟩
      · exact ⟨_, _, hv⟩
    obtain ⟨sp', c', rfl⟩ := hv
    rw [ownBlock_slice, ownBlock_slice] at h5
    rw [ownBlock_slice] at h2
    refine ⟨sp', c', w', hrun, ⟨h1, hbd⟩, h2, fun g hg => ?_⟩
    rcases h5 with h5 | h5
    · exact .inl (h5.symm.trans hg)
    · rw [h5] at hg
      exact .inr (Nat.le_of_eq (Option.some.inj hg))
theorem wpList_appendI {w : World} {ops : Array Oper} {rest : List Oper} {o : Oper} {a : Act} {Q : Exit → Act → World → Prop} (hgd : o.guard = none) (s x : Operand)
    (ho : o.op = .call { callee := .builtin .append, args := #[s, x], argTypes := #[32, 32] })
    (base : Nat) (sp : Option Addr) (n c : Nat) (l : List Int) (hs : a.eval s = .slice sp n c) (hn : l.length = n) (hown : OwnI base w sp c l)
    (xp : Option Addr) (m xc : Nat) (hx : a.eval x = .slice xp m xc) (k : List Int) (hk : k.length = m) (hB : IntsAt w xp k) (hx0 : xp = none → xc = 0)
    (hsz : (l.length + m) * 8 ≤ 140737488355328) (hbase : base ≤ w.heap.size)
    (h : ∀ sp' n' c' w', Hid ((l ++ k).length = n') → OwnI base w' sp' c' (l ++ k) → Grew w sp w' sp' → wpList Tryz.prog ops Q rest (a.put o.dst (.slice sp' n' c')) w') :
    wpList Tryz.prog ops Q (o :: rest) a w := by
  subst hn
  refine wpList_plain hgd fun K hK => ?_
  obtain ⟨sp', c', w', hrun, h1, h2, h3⟩ := run_appendI (w := w) base sp c l hown xp m xc k hk hB hx0 hsz hbase o.type
  unfold Oper.wp
  simp [execOp, ho, resolve, invoke, builtin, hs, hx, hrun, Result.andThen]
  have := hK _ _ (h sp' (l ++ k).length c' w' rfl h1 ⟨h2, h3⟩)
  rw [List.length_append] at this
  exact this
theorem GrewI.below {base : Nat} {w w' : World} {sp sp' : Option Addr} {c : Nat} {l : List Int} (h : Grew w sp w' sp') (ho : OwnI base w sp c l) (hb : base ≤ w.heap.size) : Below base w w' :=
  (Below.refl base w).grown h.grown hb (fun j hj => (ho.blk_lt j hj).1)
/-- One number in a new block. -/
theorem ints_one {w : World} {g : Nat} {n : Int} {T : TypeId} {fr : Nat × Nat} (h : w.heap[g]? = some (.cells #[.int .i64 n] T fr)) (hn : -9223372036854775808 ≤ n ∧ n ≤ 9223372036854775807) : IntsAt w (some ⟨g, 0, none⟩) [n] :=
  ⟨by simpa using hn, fun i hi => by
    have : i = 0 := by simpa using hi
    subst this
    exact ⟨g, 0, rfl, by rw [cell_of_row _ _ _ _ _ _ h]; rfl⟩⟩
end Go.Proofs.YtijcpmbfhfppmaaGreatDoor
end
/- Frames one behind the other, cut anywhere (plain); rows of bytes of the call's own. -/
section
namespace Go.Proofs.YtijcpmbfhfppmaaGreatDoor
open Go.ChangeShapes Go.WideShapes Go.ChangeAt Go.RowKit

def cat : List (List Nat) → List Nat
  | [] => []
  | h :: r => frameB h ++ cat r
theorem nextE_shift (ahead l : List Nat) (k : Nat) : nextE (ahead ++ l) (ahead.length + k) = nextE l k := by
  unfold nextE
  have d : ∀ j, (ahead ++ l).drop (ahead.length + j) = l.drop j := fun j => by rw [← List.drop_drop, List.drop_left]
  rw [Nat.add_assoc, Nat.add_assoc, d, d, d, List.length_append, show ahead.length + l.length - (ahead.length + k) = l.length - k by omega]
theorem steps_cat : ∀ (hs : List (List Nat)) (ahead behind : List Nat), (∀ h ∈ hs, h.length ≤ 65536) → Steps (ahead ++ (cat hs ++ behind)) ahead.length hs (ahead.length + (cat hs).length)
  | [], ahead, behind, _ => by simp [Steps, cat]
  | h :: r, ahead, behind, hl => by
    have hh := hl h (by simp)
    have e : ahead ++ (cat (h :: r) ++ behind) = ahead ++ (frameB h ++ (cat r ++ behind)) := by simp only [cat, List.append_assoc]
    obtain ⟨h1, h2⟩ := frame_next ahead h (cat r ++ behind) hh
    refine ⟨by rw [e]; exact h1, by rw [e]; exact h2, ?_⟩
    have ih := steps_cat r (ahead ++ frameB h) behind (fun x hx => hl x (by simp [hx]))
    have e2 : ahead ++ (cat (h :: r) ++ behind) = (ahead ++ frameB h) ++ (cat r ++ behind) := by simp only [cat, List.append_assoc]
    rw [e2]
    have e3 : (ahead ++ frameB h).length = ahead.length + 8 + h.length := by rw [List.length_append, frameB_length]; omega
    have e4 : ahead.length + (cat (h :: r)).length = (ahead ++ frameB h).length + (cat r).length := by simp only [cat, List.length_append]; omega
    rw [e4]
    rw [e3] at ih ⊢
    exact ih
theorem rows_cut (hs : List (List Nat)) (t : List Nat) (hl : ∀ h ∈ hs, h.length ≤ 65536) (ht : nextE t 0 = 3) : Steps (cat hs ++ t) 0 hs (cat hs).length ∧ 0 < nextE (cat hs ++ t) (cat hs).length := by
  have h1 := steps_cat hs [] t hl
  rw [List.nil_append, List.length_nil, Nat.zero_add] at h1
  have h2 := nextE_shift (cat hs) t 0
  rw [Nat.add_zero] at h2
  exact ⟨h1, by omega⟩
theorem u16_nat {n : Int} (h : (Lit.int .u16 n).wf = true) : ∃ m : Nat, n = (m : Int) ∧ m < 65536 := by
  have := bounds_u16 h
  exact ⟨n.toNat, by omega, by omega⟩
theorem nextE_nil : nextE [] 0 = 3 := by decide
/-- Where frames are cut: whole ones, and a piece that is none. -/
theorem cut_at : ∀ (hs : List (List Nat)) (N : Nat), (∀ h ∈ hs, h.length ≤ 65536) → N ≤ (cat hs).length → ∃ m t, m ≤ hs.length ∧ (cat hs).take N = cat (hs.take m) ++ t ∧ nextE t 0 = 3 ∧ (∀ k, k < m → (cat (hs.take (k + 1))).length ≤ N) ∧ (m < hs.length → N < (cat (hs.take (m + 1))).length)
  | [], N, _, hN => by
    have : N = 0 := by simpa [cat] using hN
    subst this
    exact ⟨0, [], Nat.le_refl _, by simp [cat], nextE_nil, fun k hk => by omega, fun h => by simp at h⟩
  | h :: r, N, hl, hN => by
    have hh := hl h (by simp)
    have hF := frameB_length h
    by_cases hc : N < 8 + h.length
    · refine ⟨0, (frameB h).take N, Nat.zero_le _, ?_, cut_next h N hh hc, fun k hk => by omega, fun _ => ?_⟩
      · simp only [cat, List.take_zero, List.nil_append]
        rw [List.take_append_of_le_length (by omega)]
      · simp only [cat, List.take_succ_cons, List.take_zero, List.append_nil]
        omega
    · have hN' : N - (8 + h.length) ≤ (cat r).length := by
        simp only [cat, List.length_append] at hN
        omega
      obtain ⟨m, t, h1, h2, h3, h4, h5⟩ := cut_at r (N - (8 + h.length)) (fun x hx => hl x (by simp [hx])) hN'
      refine ⟨m + 1, t, by simpa using h1, ?_, h3, fun k hk => ?_, fun hm => ?_⟩
      · simp only [cat, List.take_succ_cons, List.append_assoc]
        rw [← h2, List.take_append, List.take_of_length_le (by omega), hF]
      · cases k with
        | zero => simp only [cat, List.take_succ_cons, List.take_zero, List.append_nil]; omega
        | succ k =>
          have := h4 k (by omega)
          simp only [cat, List.take_succ_cons, List.length_append]
          omega
      · have := h5 (by simpa using hm)
        simp only [cat, List.take_succ_cons, List.length_append]
        omega
theorem OwnS.at {base : Nat} {w : World} {sp : Option Addr} {n c : Nat} {hs : List (List Nat)} (h : OwnS base w (.slice sp n c) hs) (i : Nat) (hi : i < hs.length) : ∃ g p pc, sp = some ⟨g, 0, none⟩ ∧ w.cell? ⟨g, i, none⟩ = some (.slice p (hs.getD i []).length pc) ∧ OwnB base w p pc (hs.getD i []) := by
  obtain ⟨cs, ho, hc⟩ := h.ex
  obtain ⟨p, pc, h1, h2⟩ := hc i hi
  rcases ho.2 with ⟨hv, h0⟩ | ⟨g, cap, cur, hv, _, hg, _, _, _, ht⟩
  · omega
  · simp only [Value.slice.injEq] at hv
    refine ⟨g, p, pc, hv.1, ?_, h2⟩
    rw [cell_of_row w g i cur _ _ hg]
    rw [← ht, List.getElem?_take, if_pos (by omega)] at h1
    rw [← Array.getElem?_toList]
    exact h1
end Go.Proofs.YtijcpmbfhfppmaaGreatDoor
end
