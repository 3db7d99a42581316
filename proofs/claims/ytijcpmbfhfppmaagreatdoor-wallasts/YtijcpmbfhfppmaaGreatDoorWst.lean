/- Logs: what a log tells of itself (state); states held against each other. -/
import Derived.Test.YtijcpmbfhfppmaaGreatDoorWgj
import Derived.Test.YtijcpmbfhfppmaaGreatDoorWsm
import Derived.BigQuiet
namespace Go.Proofs.YtijcpmbfhfppmaaGreatDoor
open Go.ChangeShapes Go.WideShapes Go.ChangeAt Go.RowKit
set_option linter.unusedVariables false

def stRow (c : Wc) (sp : Option Addr) (k : Nat) : Array Value := #[.int .i64 (c.bi : Int), .int .i64 (c.bt : Int), .int .i64 (c.ht : Int), .int .i64 (c.hv : Int), .slice sp c.es.length k]
/-- How state ends: what the log is, in new memory. -/
def StEnd (w : World) (c : Wc) (e : Ending) (w' : World) : Prop := ∃ sp k hs, e = .returned (.agg (stRow c sp k)) ∧ OwnL w.heap.size w' sp k c.es hs ∧ Below w.heap.size w w'
section
variable {Av : Nat → Prop} {base : Nat} {w w' : World} {L d M room N N' : Nat} {ss ss' : Ds} {c : Wc} {n : Nat} {ep : Option Addr} {ec : Nat} {hs : List (Option Addr × Nat)}
set_option maxRecDepth 20000 in
set_option maxHeartbeats 8000000 in
theorem state_calls (z : WAt Av base w L d M room N ss c n ep ec hs) (hi : Ix c) : Calls Tryz.prog 26 #[.pointer (some ⟨L, 0, none⟩)] w (StEnd w c) := by
  have U0 := hide ((Below.refl w.heap.size w).alloc (Nat.le_refl _) (.cells #[.int .i64 0, .int .i64 0, .int .i64 0, .int .i64 0, .slice none 0 0] 53))
  have X0 := hide (heap_new w (.cells #[.int .i64 0, .int .i64 0, .int .i64 0, .int .i64 0, .slice none 0 0] 53))
  have S0 := hide (show (w.alloc (.cells #[.int .i64 0, .int .i64 0, .int .i64 0, .int .i64 0, .slice none 0 0] 53)).heap.size = w.heap.size + 1 by simp)
  have BC := hide (fun W (u : Below w.heap.size w W) => wbase_calls (z.later u))
  have HC := hide (fun W (u : Below w.heap.size w W) => whard_calls (z.later u))
  have LC := hide (fun W (u : Below w.heap.size w W) => wlast_calls (z.later u))
  have EC := hide (fun W (u : Below w.heap.size w W) => entries_calls (z.later u) 0 ((c.bi + c.es.length : Nat) : Int))
  rw [fromTo_all hi (by omega) (Int.le_refl _)] at EC
  have SR := hide (show ∀ sp k, stRow c sp k = #[.int .i64 (c.bi : Int), .int .i64 (c.bt : Int), .int .i64 (c.ht : Int), .int .i64 (c.hv : Int), .slice sp c.es.length k] from fun _ _ => rfl)
  have EL := hide (show c.es.length = c.es.length from rfl)
  clear z hi
  generalize ((c.bi + c.es.length : Nat) : Int) = la at *
  go_enter Tryz.func26, Tryz.ntmps26
  go_wp2_with fail
  generalize w.alloc _ = W0 at *
  go_at_call 41
  refine (unhide BC _ (unhide U0)).mono ?_
  rintro e V1 ⟨rfl, v1⟩
  have U1 := hide ((unhide U0).trans (v1.mono (unhide U0).size))
  have C1 := hide v1
  clear v1
  go_wp2_with fail
  go_at_call 40
  refine (unhide HC _ (unhide U1)).mono ?_
  rintro e V2 ⟨rfl, v2⟩
  have U2 := hide ((unhide U1).trans (v2.mono (unhide U1).size))
  have C2 := hide ((unhide C1).trans (v2.mono (unhide C1).size))
  clear v2
  go_wp2_with fail
  go_at_call 39
  refine (unhide LC _ (unhide U2)).mono ?_
  rintro e V3 ⟨rfl, v3⟩
  have U3 := hide ((unhide U2).trans (v3.mono (unhide U2).size))
  have C3 := hide ((unhide C2).trans (v3.mono (unhide C2).size))
  clear v3
  go_wp2_with fail
  go_at_call 22
  refine (unhide EC _ (unhide U3)).mono ?_
  rintro e V4 ⟨sp, m, k, hs2, rfl, hm, o4, v4⟩
  subst hm
  have U4 := hide ((unhide U3).trans (v4.mono (unhide U3).size))
  have C4 := hide ((unhide C3).trans (v4.mono (unhide C3).size))
  have X4 := hide (later_block (unhide C4) (unhide X0))
  have x0 := box_cell (unhide X4) 0 _ rfl
  have x1 := box_cell (unhide X4) 1 _ rfl
  have x2 := box_cell (unhide X4) 2 _ rfl
  have x3 := box_cell (unhide X4) 3 _ rfl
  have x4 := box_cell (unhide X4) 4 _ rfl
  have f0 := froz_of (unhide X4) 0
  have f1 := froz_of (unhide X4) 1
  have f2 := froz_of (unhide X4) 2
  have f3 := froz_of (unhide X4) 3
  have f4 := froz_of (unhide X4) 4
  have O4 := hide (o4.mono (base' := w.heap.size) (unhide U3).size)
  have OE := hide (show ∀ g, LFoot sp hs2 g → g ≠ w.heap.size from fun g hg e => by
    have h1 := (o4.foot g hg).1
    have h2 := (unhide C3).size
    have h3 := unhide S0
    omega)
  clear o4 v4
  have ha := heap_setCell_same V4 w.heap.size 0 _ _ (.int .i64 (c.bi : Int)) (unhide X4)
  have hb := heap_setCell_same _ w.heap.size 1 _ _ (.int .i64 (c.bt : Int)) ha
  have hc := heap_setCell_same _ w.heap.size 2 _ _ (.int .i64 (c.ht : Int)) hb
  have hd := heap_setCell_same _ w.heap.size 3 _ _ (.int .i64 (c.hv : Int)) hc
  have he := heap_setCell_same _ w.heap.size 4 _ _ (.slice sp c.es.length k) hd
  have G5 := hide (((((grown_set V4 w.heap.size 0 (.int .i64 (c.bi : Int))).trans (grown_set _ w.heap.size 1 (.int .i64 (c.bt : Int)))).trans (grown_set _ w.heap.size 2 (.int .i64 (c.ht : Int)))).trans (grown_set _ w.heap.size 3 (.int .i64 (c.hv : Int)))).trans (grown_set _ w.heap.size 4 (.slice sp c.es.length k)))
  have X5 := hide he
  clear ha hb hc hd he
  have FE := hide (show ∀ W, V4.grownBy W (some w.heap.size) → StEnd w c (.returned (.agg #[.int .i64 (c.bi : Int), .int .i64 (c.bt : Int), .int .i64 (c.ht : Int), .int .i64 (c.hv : Int), .slice sp c.es.length k])) W from fun W hg => ⟨sp, k, hs2, rfl, (unhide O4).same (fun g hgf => hg.block g ((unhide O4).foot g hgf).2.1 (fun e => unhide OE g hgf (Option.some.inj e))), (unhide U4).grown hg (unhide U4).size (fun j e => by have := Option.some.inj e; omega)⟩)
  go_wp2
  clear x0 x1 x2 x3 x4 f0 f1 f2 f3 f4
  generalize ((((V4.setCell _ _).setCell _ _).setCell _ _).setCell _ _).setCell _ _ = W5 at *
  have y0 : W5.cell? ⟨w.heap.size, 0, none⟩ = some (.int .i64 (c.bi : Int)) := box_cell (unhide X5) 0 _ rfl
  have y1 : W5.cell? ⟨w.heap.size, 1, none⟩ = some (.int .i64 (c.bt : Int)) := box_cell (unhide X5) 1 _ rfl
  have y2 : W5.cell? ⟨w.heap.size, 2, none⟩ = some (.int .i64 (c.ht : Int)) := box_cell (unhide X5) 2 _ rfl
  have y3 : W5.cell? ⟨w.heap.size, 3, none⟩ = some (.int .i64 (c.hv : Int)) := box_cell (unhide X5) 3 _ rfl
  have y4 : W5.cell? ⟨w.heap.size, 4, none⟩ = some (.slice sp c.es.length k) := box_cell (unhide X5) 4 _ rfl
  refine bodyPost_ret (v := .agg #[.int .i64 (c.bi : Int), .int .i64 (c.bt : Int), .int .i64 (c.ht : Int), .int .i64 (c.hv : Int), .slice sp c.es.length k]) (by simp [results, Tryz.results26, go_sem, y0, y1, y2, y3, y4]) rfl (unhide FE W5 (unhide G5))
end
/-- States held against each other: it ends, and equal ones are the same. -/
def stEq (a b : Wc) : Prop := a = b
set_option maxRecDepth 20000 in
set_option maxHeartbeats 8000000 in
theorem sameState_any {a b : Wc} {sp sp' : Option Addr} {k k' : Nat} (w : World) (ha : EntsAt w sp (a.es.map toI)) (hb : EntsAt w sp' (b.es.map toI)) (la : a.es.length ≤ 9223372036854775807) (lb : b.es.length ≤ 9223372036854775807) :
    Calls Tryz.prog 33 #[.agg (stRow a sp k), .agg (stRow b sp' k')] w (AnyEnd (a = b) w) := by
  unfold stRow
  have U0 := (Below.refl w.heap.size w).alloc (Nat.le_refl _) (.cells #[.int .i64 (a.bi : Int), .int .i64 (a.bt : Int), .int .i64 (a.ht : Int), .int .i64 (a.hv : Int), .slice sp a.es.length k] 53)
  have S0 : (w.alloc (.cells #[.int .i64 (a.bi : Int), .int .i64 (a.bt : Int), .int .i64 (a.ht : Int), .int .i64 (a.hv : Int), .slice sp a.es.length k] 53)).heap.size = w.heap.size + 1 := by simp
  have X0 := heap_new w (.cells #[.int .i64 (a.bi : Int), .int .i64 (a.bt : Int), .int .i64 (a.ht : Int), .int .i64 (a.hv : Int), .slice sp a.es.length k] 53)
  have X1 := heap_new (w.alloc (.cells #[.int .i64 (a.bi : Int), .int .i64 (a.bt : Int), .int .i64 (a.ht : Int), .int .i64 (a.hv : Int), .slice sp a.es.length k] 53)) (.cells #[.int .i64 (b.bi : Int), .int .i64 (b.bt : Int), .int .i64 (b.ht : Int), .int .i64 (b.hv : Int), .slice sp' b.es.length k'] 53)
  have X0 := later_block ((Below.refl (w.alloc (.cells #[.int .i64 (a.bi : Int), .int .i64 (a.bt : Int), .int .i64 (a.ht : Int), .int .i64 (a.hv : Int), .slice sp a.es.length k] 53)).heap.size _).alloc (Nat.le_refl _) (.cells #[.int .i64 (b.bi : Int), .int .i64 (b.bt : Int), .int .i64 (b.ht : Int), .int .i64 (b.hv : Int), .slice sp' b.es.length k'] 53)) X0
  rw [S0] at X1
  have U1 := U0.alloc (o := .cells #[.int .i64 (b.bi : Int), .int .i64 (b.bt : Int), .int .i64 (b.ht : Int), .int .i64 (b.hv : Int), .slice sp' b.es.length k'] 53) (by rw [S0]; omega)
  have BA := hide U1
  have HA := hide (ha.later U1)
  have HB := hide (hb.later U1)
  have c0 := box_cell X0 0 _ rfl
  have c1 := box_cell X0 1 _ rfl
  have c2 := box_cell X0 2 _ rfl
  have c3 := box_cell X0 3 _ rfl
  have c4 := box_cell X0 4 _ rfl
  have d0 := box_cell X1 0 _ rfl
  have d1 := box_cell X1 1 _ rfl
  have d2 := box_cell X1 2 _ rfl
  have d3 := box_cell X1 3 _ rfl
  have d4 := box_cell X1 4 _ rfl
  have FE := hide (show ∀ (x : Bool) W, (a = b → x = true) → Below w.heap.size w W → AnyEnd (a = b) w (.returned (.bool x)) W from fun x W h u => ⟨x, rfl, h, u⟩)
  clear X0 X1 U0 U1 S0 ha hb
  have EC := hide (fun W (u : Below ((w.alloc (.cells #[.int .i64 (a.bi : Int), .int .i64 (a.bt : Int), .int .i64 (a.ht : Int), .int .i64 (a.hv : Int), .slice sp a.es.length k] 53)).alloc (.cells #[.int .i64 (b.bi : Int), .int .i64 (b.bt : Int), .int .i64 (b.ht : Int), .int .i64 (b.hv : Int), .slice sp' b.es.length k'] 53)).heap.size ((w.alloc (.cells #[.int .i64 (a.bi : Int), .int .i64 (a.bt : Int), .int .i64 (a.ht : Int), .int .i64 (a.hv : Int), .slice sp a.es.length k] 53)).alloc (.cells #[.int .i64 (b.bi : Int), .int .i64 (b.bt : Int), .int .i64 (b.ht : Int), .int .i64 (b.hv : Int), .slice sp' b.es.length k'] 53)) W) => sameEntries_any sp sp' a.es.length b.es.length k k' (a.es.map toI) (b.es.map toI) W (by rw [List.length_map]) (by rw [List.length_map]) la lb ((unhide HA).later u) ((unhide HB).later u))
  have NE : ∀ x : Nat, ∀ y : Nat, x = y ∨ (((x : Int) == (y : Int)) = false ∧ ¬ (x : Int) = (y : Int)) := fun x y => by
    by_cases h : x = y
    · exact .inl h
    · exact .inr ⟨by simp; omega, by omega⟩
  obtain ⟨ai, at_, ah, av, aes⟩ := a
  obtain ⟨bi, bt, bh, bv, bes⟩ := b
  dsimp only at *
  rcases NE ai bi with rfl | ⟨q1, q2⟩
  · rcases NE at_ bt with rfl | ⟨q1, q2⟩
    · rcases NE ah bh with rfl | ⟨q1, q2⟩
      · rcases NE av bv with rfl | ⟨q1, q2⟩
        · clear NE
          go_enter Tryz.func33, Tryz.ntmps33
          go_wp2_with fail
          generalize (w.alloc _).alloc _ = W0 at *
          go_at_call 21
          refine (unhide EC W0 (Below.refl _ _)).mono ?_
          rintro e V ⟨x, rfl, hx, v⟩
          have FF := hide (unhide FE x V (fun h => hx (by injection h with _ _ _ _ h5; rw [h5])) ((unhide BA).trans (v.mono (unhide BA).size)))
          clear v hx EC
          go_wp2
          go_ret
          exact unhide FF
        · have FF := hide (unhide FE false _ (fun h => absurd (by injection h with _ _ _ h4; rw [h4]) q2) (unhide BA))
          clear NE
          go_enter Tryz.func33, Tryz.ntmps33
          go_wp2
          go_ret
          exact unhide FF
      · have FF := hide (unhide FE false _ (fun h => absurd (by injection h with _ _ h4; rw [h4]) q2) (unhide BA))
        clear NE
        go_enter Tryz.func33, Tryz.ntmps33
        go_wp2
        go_ret
        exact unhide FF
    · have FF := hide (unhide FE false _ (fun h => absurd (by injection h with _ h4; rw [h4]) q2) (unhide BA))
      clear NE
      go_enter Tryz.func33, Tryz.ntmps33
      go_wp2
      go_ret
      exact unhide FF
  · have FF := hide (unhide FE false _ (fun h => absurd (by injection h with h4; rw [h4]) q2) (unhide BA))
    clear NE
    go_enter Tryz.func33, Tryz.ntmps33
    go_wp2
    go_ret
    exact unhide FF
end Go.Proofs.YtijcpmbfhfppmaaGreatDoor
