/- Logs: SetHard. -/
import Derived.Test.YtijcpmbfhfppmaaGreatDoorWg5
namespace Go.Proofs.YtijcpmbfhfppmaaGreatDoor
open Go.ChangeShapes Go.WideShapes Go.ChangeAt Go.RowKit
set_option linter.unusedVariables false

/-- A hard state is kept: the error, the disk, the content, the file's number. -/
def wHard (room n : Nat) (c : Wc) (t v : Nat) (ss : Ds) : Nat × Ds × Wc × Nat :=
  if t = c.ht ∧ v = c.hv then (0, ss, c, n)
  else if (wAddR room n c (hardB t v) ss).1 ≠ 0 then ((wAddR room n c (hardB t v) ss).1, (wAddR room n c (hardB t v) ss).2.1, c, (wAddR room n c (hardB t v) ss).2.2)
  else (0, (wAddR room n c (hardB t v) ss).2.1, { c with ht := t, hv := v }, (wAddR room n c (hardB t v) ss).2.2)
section
variable {Av : Nat → Prop} {base : Nat} {w w' : World} {L d M room N N' : Nat} {ss ss' : Ds} {c : Wc} {n : Nat} {ep : Option Addr} {ec : Nat} {hs : List (Option Addr × Nat)}
/-- How a method of a log ends. -/
def LgEnd (Av : Nat → Prop) (base L d M room N : Nat) (w : World) (r : Nat × Ds × Wc × Nat) (e : Ending) (w' : World) : Prop :=
  e = .returned (.int .i64 (r.1 : Int)) ∧ (∃ ep ec hs, WAt Av base w' L d M room N r.2.1 r.2.2.1 r.2.2.2 ep ec hs) ∧ Asd Av base w w'
theorem set2 {w : World} {g : Nat} {o a b c d e f x y : Value} {T : TypeId} (h : w.heap[g]? = some (.cells #[o, a, b, c, d, e, f] T (0, 0))) : ((w.setCell ⟨g, 3, none⟩ x).setCell ⟨g, 4, none⟩ y).heap[g]? = some (.cells #[o, a, b, x, y, e, f] T (0, 0)) ∧ w.grownBy ((w.setCell ⟨g, 3, none⟩ x).setCell ⟨g, 4, none⟩ y) (some g) := by
  have h1 := heap_setCell_same w g 3 #[o, a, b, c, d, e, f] T x h
  have h2 := heap_setCell_same _ g 4 _ T y h1
  exact ⟨h2, (grown_set w g 3 x).trans (grown_set _ g 4 y)⟩
set_option maxRecDepth 20000 in
set_option maxHeartbeats 16000000 in
theorem setHard_no (z : WAt Av base w L d M room N ss c n ep ec hs) (t v : Int) (h : ¬ (0 ≤ t ∧ t ≤ 1099511627776 ∧ 0 ≤ v ∧ v ≤ 9)) :
    Calls Tryz.prog 28 #[.pointer (some ⟨L, 0, none⟩), .agg #[.int .i64 t, .int .i64 v]] w (LgEnd Av base L d M room N w (2, ss, c, n)) := by
  have b1 : Below w.heap.size w (w.alloc (.cells #[.int .i64 t, .int .i64 v] 29)) := (Below.refl _ _).alloc (Nat.le_refl _) _
  have X1 := heap_new w (.cells #[.int .i64 t, .int .i64 v] 29)
  have HC := hide (fun W => hardRecord_no t v W h)
  have x0 := box_cell X1 0 _ rfl
  have x1 := box_cell X1 1 _ rfl
  have B1 := hide b1
  have Z := hide z
  clear z b1 X1 h
  go_enter Tryz.func28, Tryz.ntmps28
  go_wp2_with fail
  clear x0 x1
  generalize w.alloc _ = w1 at *
  go_at_call 69
  refine (unhide HC _).mono ?_
  rintro e V1 ⟨rfl, v1⟩
  have U1 := (unhide B1).trans (v1.mono (unhide B1).size)
  have FE := hide (show LgEnd Av base L d M room N w (2, ss, c, n) (.returned (.int .i64 2)) V1 from ⟨rfl, ⟨ep, ec, hs, (unhide Z).later U1⟩, ((unhide Z).asdB U1).sub (fun g hg => .inl hg)⟩)
  clear v1 U1
  go_wp2
  go_ret
  exact unhide FE
set_option maxRecDepth 20000 in
set_option maxHeartbeats 16000000 in
theorem setHard_yes (z : WAt Av base w L d M room N ss c n ep ec hs) (hN : N + 2 ≤ 1000000) (t v : Nat) (ht : t ≤ 1099511627776) (hv : v ≤ 9) :
    Calls Tryz.prog 28 #[.pointer (some ⟨L, 0, none⟩), .agg #[.int .i64 (t : Int), .int .i64 (v : Int)]] w (LgEnd Av base L d M room (N + 2) w (wHard room n c t v ss)) := by
  have WH := hide (show wHard room n c t v ss = (if t = c.ht ∧ v = c.hv then (0, ss, c, n)
    else if (wAddR room n c (hardB t v) ss).1 ≠ 0 then ((wAddR room n c (hardB t v) ss).1, (wAddR room n c (hardB t v) ss).2.1, c, (wAddR room n c (hardB t v) ss).2.2)
    else (0, (wAddR room n c (hardB t v) ss).2.1, { c with ht := t, hv := v }, (wAddR room n c (hardB t v) ss).2.2)) from rfl)
  generalize wHard room n c t v ss = wh at *
  have b1 : Below w.heap.size w (w.alloc (.cells #[.int .i64 (t : Int), .int .i64 (v : Int)] 29)) := (Below.refl _ _).alloc (Nat.le_refl _) _
  have X1 := hide (heap_new w (.cells #[.int .i64 (t : Int), .int .i64 (v : Int)] 29))
  have HC := hide (fun W => hardRecord_yes t v W ht hv)
  have HL := hide (hardB_len t v ht hv)
  have x0 := box_cell (unhide X1) 0 _ rfl
  have x1 := box_cell (unhide X1) 1 _ rfl
  have B1 := hide b1
  have Z := hide z
  have TV := hide (show t ≤ 1099511627776 ∧ v ≤ 9 from ⟨ht, hv⟩)
  clear z b1 ht hv
  go_enter Tryz.func28, Tryz.ntmps28
  go_wp2_with fail
  clear x0 x1
  generalize w.alloc _ = w1 at *
  go_at_call 69
  refine (unhide HC _).mono ?_
  rintro e V1 ⟨g1, m1, rfl, hm1, o1, v1⟩
  have U1 := hide ((unhide B1).trans (v1.mono (unhide B1).size))
  have X2 := hide (later_block v1 (unhide X1))
  have Z1 := hide ((unhide Z).more (unhide U1))
  have SZ := hide (unhide B1).size
  have O1 := hide o1
  clear v1 o1 HC
  have x0 := box_cell (unhide X2) 0 _ rfl
  have x1 := box_cell (unhide X2) 1 _ rfl
  have R1 := hide (unhide Z1).lg.row
  have l3 : V1.cell? ⟨L, 3, none⟩ = some (.int .i64 (c.ht : Int)) := box_cell (unhide R1) 3 _ rfl
  have l4 : V1.cell? ⟨L, 4, none⟩ = some (.int .i64 (c.hv : Int)) := box_cell (unhide R1) 4 _ rfl
  have BD := hide (show ∀ k, Below V1.heap.size V1 (V1.drewN k) from fun k => ⟨rfl, rfl, rfl, Nat.le_refl _, fun _ _ => rfl⟩)
  by_cases h1 : t = c.ht ∧ v = c.hv
  · have FE := hide (show ∀ k, LgEnd Av base L d M room (N + 2) w wh (.returned (.int .i64 0)) (V1.drewN k) from fun k => by
      have u := (unhide U1).trans ((unhide BD k).mono (unhide U1).size)
      rw [unhide WH, if_pos h1]
      exact ⟨rfl, ⟨ep, ec, hs, ((unhide Z).later u).monoN (by omega) hN⟩, ((unhide Z).asdB u).sub (fun g hg => .inl hg)⟩)
    obtain ⟨rfl, rfl⟩ := h1
    go_wp2_with fail
    go_quiet (fail)
    go_wp2
    go_ret
    exact unhide FE _
  · rw [if_neg h1] at WH
    have h2 : (((t : Int) == (c.ht : Int)) = true ∧ ((v : Int) == (c.hv : Int)) = false ∧ ¬ (v : Int) = (c.hv : Int)) ∨ (((t : Int) == (c.ht : Int)) = false ∧ ¬ (t : Int) = (c.ht : Int)) := by
      by_cases h2 : t = c.ht
      · left
        have h3 : v ≠ c.hv := fun h => h1 ⟨h2, h⟩
        exact ⟨by simp [h2], by simp; omega, by omega⟩
      · right
        exact ⟨by simp; omega, by omega⟩
    clear h1
    rcases h2 with ⟨k1, k2, k3⟩ | ⟨k1, k2⟩
    focus
      go_wp2_with fail
      go_quiet (fail)
    rotate_left
    focus
      go_wp2_with fail
      go_quiet (fail)
    all_goals
      have Z2 := hide ((unhide Z1).later (unhide BD nq))
      have O2 := hide ((unhide O1).later (unhide BD nq))
      have X3 := hide (later_block (unhide BD nq) (unhide X2))
      have A2 := hide (((unhide Z).asdB ((unhide U1).trans ((unhide BD nq).mono (unhide U1).size))).sub (Bv := Av) (fun g hg => .inl hg))
      have S1 := hide (show V1.heap.size = (V1.drewN nq).heap.size from rfl)
      clear k1 k2
      try clear k3
      clear l3 l4 x0 x1 R1 BD X2 X1
      generalize V1.drewN nq = V2 at *
      have AC := hide (addRecords_calls (unhide Z2) hN (some ⟨g1, 0, none⟩) m1 m1 (hardB t v) (unhide hm1) (Nat.le_refl _) (unhide O2).bytes (fun h => by cases h) (fun g off e h0 => .inr (.inr ⟨by
        have h1 := ((unhide O2).blk_lt g (by rw [e]; rfl)).1
        have h2 := unhide SZ
        omega, by rw [unhide S1]; exact ((unhide O2).blk_lt g (by rw [e]; rfl)).2⟩)) (by have := unhide hm1; have := unhide HL; omega))
      generalize wAddR room n c (hardB t v) ss = r3 at *
      obtain ⟨e3, s3, n3⟩ := r3
      try dsimp only at WH
      go_wp2_with fail
      go_at_call 67
      refine (unhide AC).mono ?_
      rintro e V3 ⟨rfl, z3, a3⟩
      have A3 := hide ((unhide A2).trans (a3.sub (Bv := Av) (fun g hg => .inl hg)))
      have X4 := hide ((a3.av w.heap.size (.inr ⟨Nat.le_refl _, by rw [unhide S1]; exact (Array.getElem?_eq_some_iff.1 (unhide X3)).1⟩)).trans (unhide X3))
      have Z3 := hide z3
      clear z3 a3 AC
      dsimp only
      by_cases h3 : e3 = 0
      · subst h3
        rw [if_neg (by simp)] at WH
        have R3 := hide (unhide Z3).lg.row
        obtain ⟨l1, l2⟩ := set2 (x := .int .i64 (t : Int)) (y := .int .i64 (v : Int)) (unhide R3)
        have zok := (unhide Z3).ok
        obtain ⟨p1, p2⟩ := (unhide Z3).put (c2 := { c with ht := t, hv := v }) (n' := n3) (hs2 := hs) ⟨l1⟩ l2 (unhide Z3).ow (fun g hg => .inr hg) ⟨zok.bi, zok.bt, (unhide TV).1, (unhide TV).2, zok.es⟩ (unhide Z3).nn (unhide Z3).le
        have FE := hide (show LgEnd Av base L d M room (N + 2) w wh (.returned (.int .i64 0)) ((V3.setCell ⟨L, 3, none⟩ (.int .i64 (t : Int))).setCell ⟨L, 4, none⟩ (.int .i64 (v : Int))) by
          rw [unhide WH]
          exact ⟨rfl, ⟨ep, ec, hs, p1.sub (fun g hg => ⟨.inl hg, ((unhide Z).av g hg).2⟩)⟩, (unhide A3).trans (p2.sub (fun g hg => .inl hg))⟩)
        have x0 : V3.cell? ⟨w.heap.size, 0, none⟩ = some (.int .i64 (t : Int)) := box_cell (unhide X4) 0 _ rfl
        have x1 : V3.cell? ⟨w.heap.size, 1, none⟩ = some (.int .i64 (v : Int)) := box_cell (unhide X4) 1 _ rfl
        have m3 : V3.cell? ⟨L, 3, none⟩ = some (.int .i64 (c.ht : Int)) := box_cell (unhide R3) 3 _ rfl
        have m4 : V3.cell? ⟨L, 4, none⟩ = some (.int .i64 (c.hv : Int)) := box_cell (unhide R3) 4 _ rfl
        have f3 := froz_of (unhide R3) 3
        have f4 := froz_of (unhide R3) 4
        clear p1 p2 l1 l2 zok
        go_wp2
        go_ret
        exact unhide FE
      · rw [if_pos h3] at WH
        have h3' : ((e3 : Int) == 0) = false := by simp; omega
        have h3'' : ¬ (e3 : Int) = 0 := by omega
        have FE := hide (show LgEnd Av base L d M room (N + 2) w wh (.returned (.int .i64 (e3 : Int))) V3 by
          rw [unhide WH]
          exact ⟨rfl, ⟨ep, ec, hs, (unhide Z3).sub (fun g hg => .inl hg)⟩, unhide A3⟩)
        go_wp2
        go_ret
        exact unhide FE
end
end Go.Proofs.YtijcpmbfhfppmaaGreatDoor
