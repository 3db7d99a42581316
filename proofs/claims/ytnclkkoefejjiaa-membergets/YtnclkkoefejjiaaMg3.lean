/- The document's GetChange and Get. -/
import Derived.Test.YtnclkkoefejjiaaMg2
namespace Go.Proofs.Ytnclkkoefejjiaa
open Go.ChangeShapes Go.WideShapes Go.ChangeAt Go.RowKit

section
variable {w : World} {a : Option Addr} {c : Nat} {l : List Nat}
set_option maxRecDepth 20000 in
set_option maxHeartbeats 8000000 in
theorem rgetC_calls (hb : BytesAt w a l) (m : Nat) (hm : l.length = m) (hx : m ≤ 140737488355328) :
    Calls Try.prog 40 #[.slice a m c] w fun e w' => GetCRes (getCE l) e ∧ Below w.heap.size w w' := by
  have HM := hide hm
  have b1 := hide (show Below w.heap.size w (w.alloc (cB 0 0)) from (Below.refl _ _).alloc (Nat.le_refl _) _)
  have Y1 := hide (heap_new w (cB 0 0))
  have HB := hide (hb.later (unhide b1))
  have ZE := hide (show (w.alloc (cB 0 0)).heap.size = w.heap.size + 1 by simp)
  have HX := hide (show l.length ≤ 140737488355328 by omega)
  clear hb hm
  go_enter Try.func40, Try.ntmps40
  go_wp2_with fail
  generalize hD : w.heap.size = D at *
  generalize w.alloc (cB 0 0) = w1 at *
  have DONE := hide (show ∀ (u : World) (p q : Value), Below w1.heap.size w1 u → ∃ W, W.cell? ⟨D, 0, none⟩ = some p ∧ W.cell? ⟨D, 1, none⟩ = some q ∧ Below D w W ∧ (u.setCell ⟨D, 0, none⟩ p).setCell ⟨D, 1, none⟩ q = W ∧ u.cell? ⟨D, 0, none⟩ = some (.int .i64 0) ∧ u.cell? ⟨D, 1, none⟩ = some (.int .i64 0) ∧ u.frozen? ⟨D, 0, none⟩ = false ∧ u.frozen? ⟨D, 1, none⟩ = false from fun u p q F => by
    have Y := later_block F (unhide Y1)
    obtain ⟨W, y0, y1, gW, hW⟩ := two_sets Y p q
    exact ⟨W, y0, y1, (unhide b1).trans (Below.grown (F.mono (by have := unhide ZE; omega) : Below D w1 u) gW (by have := F.size; have := unhide ZE; omega) (fun g e => by have := Option.some.inj e; omega)), hW, box_cell Y 0 _ rfl, box_cell Y 1 _ rfl, mbox_free Y 0, mbox_free Y 1⟩)
  cases t1 : takeE l 0 with
  | error x =>
    have R := hide (show getCE l = .error x by rw [getCE, numsE, t1])
    have hx0 := (takeE_err t1).2
    have hx0' : ¬ ((x : Int) = 0) := by omega
    refine (refTake_bad m 0 x 0 (unhide HM) rfl (unhide HX) (Nat.zero_le _) (unhide HB) t1).mono ?_
    rintro e w2 ⟨rfl, rfl⟩
    obtain ⟨W, y0, y1, bW, hW, z0, z1, z2, z3⟩ := unhide DONE w2 (.int .i64 0) (.int .i64 0) (Below.refl _ _)
    have HW := hide hW
    clear hW
    go_wp2_with fail
    rw [unhide HW]
    go_wp2
    refine bodyPost_ret (v := .tuple #[cV 0 0, .int .i64 (x : Int)]) (by simp [results, Try.results40, go_sem, y0, y1]) rfl ?_
    exact ⟨by rw [unhide R]; exact ⟨rfl, hx0⟩, by first | exact bW | (rw [hD]; exact bW)⟩
  | ok r =>
    obtain ⟨x, k⟩ := r
    have K1 := hide (takeE_back (unhide HB).lt t1).2.2.1
    refine (refTake_ok m 0 x k 0 (unhide HM) rfl (unhide HX) (Nat.zero_le _) (unhide HB) t1).mono ?_
    rintro e w2 ⟨rfl, rfl⟩
    go_wp2_with fail
    cases t2 : takeE l k with
    | error y =>
      have R := hide (show getCE l = .error y by rw [getCE, numsE, t1]; simp only [numsE]; rw [t2])
      have hx0 := (takeE_err t2).2
      have hx0' : ¬ ((y : Int) = 0) := by omega
      refine (refTake_bad m k y (k : Int) (unhide HM) rfl (unhide HX) (unhide K1) (unhide HB) t2).mono ?_
      rintro e w3 ⟨rfl, rfl⟩
      obtain ⟨W, y0, y1, bW, hW, z0, z1, z2, z3⟩ := unhide DONE w3 (.int .i64 0) (.int .i64 0) (Below.refl _ _)
      have HW := hide hW
      clear hW
      go_wp2_with fail
      rw [unhide HW]
      go_wp2
      refine bodyPost_ret (v := .tuple #[cV 0 0, .int .i64 (y : Int)]) (by simp [results, Try.results40, go_sem, y0, y1]) rfl ?_
      exact ⟨by rw [unhide R]; exact ⟨rfl, hx0⟩, by first | exact bW | (rw [hD]; exact bW)⟩
    | ok r =>
      obtain ⟨y, q⟩ := r
      have GE := hide (show getCE l = if q = m then (if mayM x y then .ok ((x : Int), (y : Int)) else .error 4) else .error 4 by
        rw [getCE, numsE, t1]
        simp only [numsE]
        rw [t2]
        simp only [List.getD_cons_zero, List.getD_cons_succ]
        rw [unhide HM])
      refine (refTake_ok m k y q (k : Int) (unhide HM) rfl (unhide HX) (unhide K1) (unhide HB) t2).mono ?_
      rintro e w3 ⟨rfl, rfl⟩
      have F4 := hide (show Below w3.heap.size w3 (w3.alloc (cB x y)) from (Below.refl _ _).alloc (Nat.le_refl _) _)
      have Z4 := hide (heap_new w3 (cB x y))
      have z4 := box_cell (unhide Z4) 0 _ rfl
      have z5 := box_cell (unhide Z4) 1 _ rfl
      clear t1 t2
      by_cases hqm : q = m
      · subst hqm
        go_wp2_with fail
        refine (rightChange_calls x y _).mono ?_
        rintro e w5 ⟨rfl, b5⟩
        have F5 := hide ((unhide F4).trans (b5.mono (unhide F4).size))
        have k0 := cell_later b5 z4
        have k1 := cell_later b5 z5
        clear b5 z4 z5
        cases hr : mayM x y
        · have R := hide (show getCE l = .error 4 by rw [unhide GE]; simp [hr])
          obtain ⟨W, y0, y1, bW, hW, z0, z1, z2, z3⟩ := unhide DONE w5 (.int .i64 0) (.int .i64 0) (unhide F5)
          have HW2 := hide hW
          clear hW
          go_wp2_with fail
          rw [unhide HW2]
          go_wp2
          refine bodyPost_ret (v := .tuple #[cV 0 0, .int .i64 4]) (by simp [results, Try.results40, go_sem, y0, y1]) rfl ?_
          exact ⟨by rw [unhide R]; exact ⟨rfl, by decide⟩, by first | exact bW | (rw [hD]; exact bW)⟩
        · have R := hide (show getCE l = .ok ((x : Int), (y : Int)) by rw [unhide GE]; simp [hr])
          obtain ⟨W, y0, y1, bW, hW, z0, z1, z2, z3⟩ := unhide DONE w5 (.int .i64 (x : Int)) (.int .i64 (y : Int)) (unhide F5)
          have HW2 := hide hW
          clear hW
          go_wp2_with fail
          rw [unhide HW2]
          go_wp2
          refine bodyPost_ret (v := .tuple #[cV x y, .int .i64 0]) (by simp [results, Try.results40, go_sem, y0, y1]) rfl ?_
          exact ⟨by rw [unhide R]; exact rfl, by first | exact bW | (rw [hD]; exact bW)⟩
      · have hqm' : ¬ ((q : Int) = (m : Int)) := by omega
        have R := hide (show getCE l = .error 4 by rw [unhide GE, if_neg hqm])
        obtain ⟨W, y0', y1', bW, hW, z0, z1, z2, z3⟩ := unhide DONE _ (.int .i64 0) (.int .i64 0) (unhide F4)
        have HW2 := hide hW
        clear hW
        go_wp2_with fail
        rw [unhide HW2]
        go_wp2
        refine bodyPost_ret (v := .tuple #[cV 0 0, .int .i64 4]) (by simp [results, Try.results40, go_sem, y0', y1']) rfl ?_
        exact ⟨by rw [unhide R]; exact ⟨rfl, by decide⟩, by first | exact bW | (rw [hD]; exact bW)⟩
end
end Go.Proofs.Ytnclkkoefejjiaa
