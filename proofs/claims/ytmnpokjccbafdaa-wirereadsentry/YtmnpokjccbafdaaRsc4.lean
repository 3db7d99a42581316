/- The document's answers of layer 2: GetEntry, SameEntry. -/
import Derived.Test.YtmnpokjccbafdaaRsc3
namespace Go.Proofs.Ytmnpokjccbafdaa
open Go.ChangeShapes Go.WideShapes Go.ChangeAt Go.RowKit

set_option maxHeartbeats 2000000 in
theorem refGetEntry_calls (a : Option Addr) (m c : Nat) (l : List Nat) (w : World) (hm : l.length = m) (hl : l.length ≤ 140737488355328) (hc : l.length ≤ c) (hz : a = none → c = 0) (hb : BytesAt w a l) :
    Calls Try.prog 17 #[.slice a m c] w fun e w' => (∃ v, e = .returned v ∧ EntRes w.heap.size (wholeE l (entryE l 0)) w' v) ∧ Below w.heap.size w w' := by
  subst hm
  have HB := hide hb
  have HL := hide hl
  have HC := hide hc
  have HZ := hide hz
  clear hb hl hc hz
  go_enter Try.func17, Try.ntmps17
  go_wp2_with fail
  have r0 := heap_old (.cells #[.slice a l.length c, .int .i64 0, .int .i64 0] 58) (heap_new w (.cells #[.int .i64 0, .int .i64 0, .int .i64 0, .slice none 0 0] 34))
  have s0 := heap_new (w.alloc (.cells #[.int .i64 0, .int .i64 0, .int .i64 0, .slice none 0 0] 34)) (.cells #[.slice a l.length c, .int .i64 0, .int .i64 0] 58)
  rw [size_alloc] at s0
  have hbl : Below w.heap.size w ((w.alloc (.cells #[.int .i64 0, .int .i64 0, .int .i64 0, .slice none 0 0] 34)).alloc (.cells #[.slice a l.length c, .int .i64 0, .int .i64 0] 58)) :=
    ((Below.refl _ _).alloc (Nat.le_refl _) _).alloc (by rw [size_alloc]; omega) _
  have hsz : ((w.alloc (.cells #[.int .i64 0, .int .i64 0, .int .i64 0, .slice none 0 0] 34)).alloc (.cells #[.slice a l.length c, .int .i64 0, .int .i64 0] 58)).heap.size = w.heap.size + 2 := by rw [size_alloc, size_alloc]
  generalize (w.alloc (.cells #[.int .i64 0, .int .i64 0, .int .i64 0, .slice none 0 0] 34)).alloc (.cells #[.slice a l.length c, .int .i64 0, .int .i64 0] 58) = W at *
  have S0 := hide (sc_new (unhide HB) hbl (Nat.le_succ _) s0)
  have F0 := hide hbl
  have R0 := hide r0
  have Z0 := hide hsz
  clear r0 s0 hbl hsz
  refine (scanEntry_calls (w.heap.size + 1) a c l 0 _ (unhide S0) (unhide HL) (unhide HC) (unhide HZ)).mono ?_
  rintro e W1 ⟨hm1, g1⟩
  have R1 := hide (grown_block g1 (unhide R0) (by omega))
  have F1 := hide ((unhide F0).grown g1 (unhide F0).size (fun j e => by have := Option.some.inj e; omega))
  have Z1 := hide (show w.heap.size + 2 ≤ W1.heap.size from Nat.le_trans (Nat.le_of_eq (unhide Z0).symm) g1.size)
  clear g1 R0 F0 S0
  cases he : entryE l 0 with
  | error y =>
    rw [he] at hm1
    obtain ⟨⟨kd, t, i, sp, mm, cc, rfl⟩, k1, s1⟩ := hm1
    have hy := entryE_pos he
    have b2 : Below W1.heap.size W1 (W1.alloc (.cells #[.int .i64 kd, .int .i64 t, .int .i64 i, .slice sp mm cc] 34)) := (Below.refl _ _).alloc (Nat.le_refl _) _
    have S2 := hide (s1.later b2)
    have R2 := hide ((b2.block _ (by have := unhide Z1; omega)).trans (unhide R1))
    have F2 := hide ((unhide F1).trans (b2.mono (unhide F1).size))
    have HW := hide (show wholeE l (.error y : Except Nat ((Nat × Nat × Nat × List Nat) × Nat)) = .error y from rfl)
    have HEnd := hide (endS_bad (l := l) (k := k1) hy)
    have hy0 : ¬ (y : Int) = 0 := by omega
    clear s1 b2 F1 R1 hy
    go_wp2_with fail
    generalize W1.alloc _ = W2 at *
    refine (scanEnd_calls (w.heap.size + 1) a c l k1 y _ (unhide S2)).mono ?_
    rw [unhide HEnd]
    rintro e W4 ⟨rfl, s4, g4⟩
    have R4 := hide (grown_block g4 (unhide R2) (by omega))
    have F4 := hide ((unhide F2).grown g4 (unhide F2).size (fun j e => by have := Option.some.inj e; omega))
    obtain ⟨_, _, c4, _, _⟩ := s4.cells
    obtain ⟨⟨p0, p1, p2, p3⟩, f0, f1, f2, f3⟩ := quad_cells (unhide R4)
    clear s4 g4 R2 F2 S2
    go_wp2_with fail
    go_region_held3 (fun w' => w'.cell? ⟨w.heap.size + 1, 2, none⟩ = some (.int .i64 (y : Int))) (go_keep) (fail)
    go_wp2_with fail
    obtain ⟨q6, s7⟩ := quad_laid (x := .int .i64 0) (y := .int .i64 0) (z := .int .i64 0) (u := .slice none 0 0) (unhide R4)
    obtain ⟨⟨z0, z1, z2, z3⟩, _⟩ := quad_cells q6
    generalize hW6 : (((W4.setCell ⟨w.heap.size, 0, none⟩ (.int .i64 0)).setCell ⟨w.heap.size, 1, none⟩ (.int .i64 0)).setCell ⟨w.heap.size, 2, none⟩ (.int .i64 0)).setCell ⟨w.heap.size, 3, none⟩ (.slice none 0 0) = W6 at *
    have y0 : W6.drew.cell? ⟨w.heap.size, 0, none⟩ = _ := z0
    have y1 : W6.drew.cell? ⟨w.heap.size, 1, none⟩ = _ := z1
    have y2 : W6.drew.cell? ⟨w.heap.size, 2, none⟩ = _ := z2
    have y3 : W6.drew.cell? ⟨w.heap.size, 3, none⟩ = _ := z3
    refine bodyPost_ret (v := .tuple #[entVal 0 0 0 none 0 0, .int .i64 (y : Int)]) (by simp [results, Try.results17, go_sem, y0, y1, y2, y3]) rfl ?_
    refine ⟨⟨_, rfl, ?_⟩, ((unhide F4).grown s7 (unhide F4).size (fun j e => Nat.le_of_eq (Option.some.inj e))).drew⟩
    rw [he, unhide HW]
    exact rfl
  | ok p =>
    obtain ⟨⟨kd, t, i, d⟩, k1⟩ := p
    rw [he] at hm1
    obtain ⟨⟨sp, mm, cc, rfl, hlen, ho1⟩, s1⟩ := hm1
    have b2 : Below W1.heap.size W1 (W1.alloc (.cells #[.int .i64 (kd : Int), .int .i64 (t : Int), .int .i64 (i : Int), .slice sp mm cc] 34)) := (Below.refl _ _).alloc (Nat.le_refl _) _
    have S2 := hide (s1.later b2)
    have O2 := hide (ho1.later b2)
    have X2 := hide (heap_new W1 (.cells #[.int .i64 (kd : Int), .int .i64 (t : Int), .int .i64 (i : Int), .slice sp mm cc] 34))
    have R2 := hide ((b2.block _ (by have := unhide Z1; omega)).trans (unhide R1))
    have F2 := hide ((unhide F1).trans (b2.mono (unhide F1).size))
    clear s1 b2 F1 R1 ho1
    go_wp2_with fail
    generalize W1.alloc _ = W2 at *
    refine (scanEnd_calls (w.heap.size + 1) a c l k1 0 _ (unhide S2)).mono ?_
    by_cases hk : k1 < l.length
    · rw [endS_more hk]
      rintro e W4 ⟨rfl, s4, g4⟩
      have HW := hide (show wholeE l (.ok ((kd, t, i, d), k1)) = .error 4 by simp only [wholeE, if_pos hk])
      have R4 := hide (grown_block g4 (unhide R2) (by omega))
      have F4 := hide ((unhide F2).grown g4 (unhide F2).size (fun j e => by have := Option.some.inj e; omega))
      obtain ⟨_, _, c4, _, _⟩ := s4.cells
      obtain ⟨⟨p0, p1, p2, p3⟩, f0, f1, f2, f3⟩ := quad_cells (unhide R4)
      clear s4 g4 R2 F2 S2 hk
      go_wp2_with fail
      go_region_held3 (fun w' => w'.cell? ⟨w.heap.size + 1, 2, none⟩ = some (.int .i64 4)) (go_keep) (fail)
      go_wp2_with fail
      obtain ⟨q6, s7⟩ := quad_laid (x := .int .i64 0) (y := .int .i64 0) (z := .int .i64 0) (u := .slice none 0 0) (unhide R4)
      obtain ⟨⟨z0, z1, z2, z3⟩, _⟩ := quad_cells q6
      generalize hW6 : (((W4.setCell ⟨w.heap.size, 0, none⟩ (.int .i64 0)).setCell ⟨w.heap.size, 1, none⟩ (.int .i64 0)).setCell ⟨w.heap.size, 2, none⟩ (.int .i64 0)).setCell ⟨w.heap.size, 3, none⟩ (.slice none 0 0) = W6 at *
      have y0 : W6.drew.cell? ⟨w.heap.size, 0, none⟩ = _ := z0
      have y1 : W6.drew.cell? ⟨w.heap.size, 1, none⟩ = _ := z1
      have y2 : W6.drew.cell? ⟨w.heap.size, 2, none⟩ = _ := z2
      have y3 : W6.drew.cell? ⟨w.heap.size, 3, none⟩ = _ := z3
      refine bodyPost_ret (v := .tuple #[entVal 0 0 0 none 0 0, .int .i64 4]) (by simp [results, Try.results17, go_sem, y0, y1, y2, y3]) rfl ?_
      refine ⟨⟨_, rfl, ?_⟩, ((unhide F4).grown s7 (unhide F4).size (fun j e => Nat.le_of_eq (Option.some.inj e))).drew⟩
      rw [he, unhide HW]
      exact rfl
    · rw [endS_ok hk]
      rintro e W4 ⟨rfl, s4, g4⟩
      have HW := hide (show wholeE l (.ok ((kd, t, i, d), k1)) = .ok (kd, t, i, d) by simp only [wholeE, if_neg hk])
      have R4 := hide (grown_block g4 (unhide R2) (by omega))
      have X4 := hide (grown_block g4 (unhide X2) (by have := unhide Z1; omega))
      have F4 := hide ((unhide F2).grown g4 (unhide F2).size (fun j e => by have := Option.some.inj e; omega))
      have O4 := hide ((unhide O2).far g4 (by rw [unhide Z0]; omega))
      obtain ⟨_, _, c4, _, _⟩ := s4.cells
      obtain ⟨⟨p0, p1, p2, p3⟩, f0, f1, f2, f3⟩ := quad_cells (unhide R4)
      obtain ⟨⟨g0, g1, g2, g3⟩, _⟩ := quad_cells (unhide X4)
      clear s4 g4 R2 F2 S2 hk O2
      go_wp2_with fail
      obtain ⟨q6, s7⟩ := quad_laid (x := .int .i64 (kd : Int)) (y := .int .i64 (t : Int)) (z := .int .i64 (i : Int)) (u := .slice sp mm cc) (unhide R4)
      obtain ⟨⟨z0, z1, z2, z3⟩, _⟩ := quad_cells q6
      refine bodyPost_ret (v := .tuple #[entVal (kd : Int) (t : Int) (i : Int) sp mm cc, .int .i64 0]) (by simp [results, Try.results17, go_sem, z0, z1, z2, z3]) rfl ?_
      refine ⟨⟨_, rfl, ?_⟩, (unhide F4).grown s7 (unhide F4).size (fun j e => Nat.le_of_eq (Option.some.inj e))⟩
      rw [he, unhide HW]
      exact ⟨sp, mm, cc, rfl, hlen, ((unhide O4).far s7 (by rw [unhide Z0]; omega)).mono (by rw [unhide Z0]; omega)⟩
theorem str_eq_same (l : List Nat) : ((strOf l).toList == (strOf l).toList) = true := by simp
set_option maxHeartbeats 1000000 in
theorem sameEntry_yes (k t i : Int) (a a' : Option Addr) (n n' c c' : Nat) (l : List Nat) (w : World) (hn : l.length = n) (hn' : l.length = n') (hb : BytesAt w a l) (hb' : BytesAt w a' l) :
    Calls Try.prog 18 #[entVal k t i a n c, entVal k t i a' n' c'] w fun e w' => e = .returned (.bool true) ∧ Below w.heap.size w w' := by
  have x0 := heap_old (entB k t i a' n' c') (heap_new w (entB k t i a n c))
  have x1 := heap_new (w.alloc (entB k t i a n c)) (entB k t i a' n' c')
  rw [size_alloc] at x1
  obtain ⟨c0, c1, c2, c3⟩ := entB_cells x0
  obtain ⟨d0, d1, d2, d3⟩ := entB_cells x1
  have bA : Below w.heap.size w ((w.alloc (entB k t i a n c)).alloc (entB k t i a' n' c')) := ((Below.refl _ _).alloc (Nat.le_refl _) _).alloc (by rw [size_alloc]; omega) _
  have s1 := run_string8 (c := c) n hn (hb.later bA)
  have s2 := run_string8 (c := c') n' hn' (hb'.later bA)
  have t1 := str_eq_same l
  have BA := hide bA
  clear x0 x1 bA hb hb' hn hn'
  go_enter Try.func18, Try.ntmps18
  go_wp2
  go_ret
  exact ⟨rfl, unhide BA⟩
end Go.Proofs.Ytmnpokjccbafdaa
