/- Flight: the law's do: Part, Heal. -/
import Derived.Test.YticemhnfcelpmaaDo0
import Derived.Deep.RegionHeld3
namespace Go.Proofs.Yticemhnfcelpmaa
open Go.ChangeShapes Go.WideShapes Go.ChangeAt Go.RowKit Go.Maps

section
variable {base : Nat} {w : World} {N M R : Nat} {s : FS} {Av : Nat → Prop}
set_option maxRecDepth 20000 in
set_option maxHeartbeats 4000000 in
theorem do_part (h : Two base w N M R s s Av) (ha : s.age ≤ 800) (f t i : Int) (hf : In64 f) (ht : In64 t) (dp : Option Addr) (m dc : Nat) :
    Calls Try.prog 17 #[.pointer (some ⟨N, 0, none⟩), .pointer (some ⟨R, 0, none⟩), .agg #[.int .i64 3, .int .i64 f, .int .i64 t, .int .i64 i, .slice dp m dc]] w fun e w' => e = .returned (.bool true) ∧ (∃ s', s'.age ≤ s.age + 1 ∧ Two base w' N M R s' s' Av) ∧ Below base w w' := by
  have X1 := hide (heap_new w (dB 3 f t i dp m dc))
  have b1 := hide (show Below w.heap.size w (w.alloc (dB 3 f t i dp m dc)) from (Below.refl _ _).alloc (Nat.le_refl _) _)
  have H1 := hide (h.later (unhide b1))
  have HF := hide hf
  have HT := hide ht
  have G1 := hide ((unhide b1).mono h.base_le)
  obtain ⟨c0, c1, c2, c3, c4⟩ := dB_cells (unhide X1)
  clear h hf ht
  go_enter Try.func17, Try.ntmps17
  go_wp2_with fail
  generalize w.alloc (dB 3 f t i dp m dc) = w1 at *
  generalize hD : w.heap.size = D at *
  have A3 := hide (show (partS s f t).age ≤ s.age + 1 by unfold partS; split <;> simp [FS.without, FS.old])
  go_region_held3 (fun w' => w'.cell? ⟨D, 1, none⟩ = some (.int .i64 f) ∧ w'.cell? ⟨D, 2, none⟩ = some (.int .i64 t)) (first | go_keep | exact ⟨k1, k2⟩ | exact ⟨r1, r2⟩) (first
    | (go_at_call 27
       refine (two_part (by first | exact (unhide H1).drew | exact unhide Hr) (by omega) f t (unhide HF) (unhide HT)).mono ?_
       rintro e W2 ⟨rfl, h2, g2⟩
       have H2 := hide h2
       have X2 := hide (g2.box (by first | exact unhide X1 | exact unhide Xr) (by decide))
       have G2 := hide (Below.trans (by first | exact (unhide G1).drew | exact unhide Gr) g2.bel)
       obtain ⟨k0, k1, k2, k3, k4⟩ := dB_cells (unhide X2)
       clear h2 g2)
    | (go_at_call 33
       refine (two_rpart (by first | exact (unhide H1).drew | exact unhide H2) (by omega) f t).mono ?_
       rintro e Wr ⟨rfl, hr, gr⟩
       have Hr := hide hr
       have Xr := hide (gr.box (by first | exact unhide X1 | exact unhide X2) (by decide))
       have Gr := hide (Below.trans (by first | exact (unhide G1).drew | exact unhide G2) gr.bel)
       obtain ⟨r0, r1, r2, r3, r4⟩ := dB_cells (unhide Xr)
       clear hr gr))
  all_goals
    go_wp2
    go_ret
    exact ⟨rfl, ⟨_, unhide A3, by first | exact unhide H2 | exact unhide Hr⟩, by first | exact unhide G2 | exact unhide Gr⟩
set_option maxRecDepth 20000 in
set_option maxHeartbeats 4000000 in
theorem do_heal (h : Two base w N M R s s Av) (_ : s.age ≤ 800) (f t i : Int) (hf : In64 f) (ht : In64 t) (dp : Option Addr) (m dc : Nat) :
    Calls Try.prog 17 #[.pointer (some ⟨N, 0, none⟩), .pointer (some ⟨R, 0, none⟩), .agg #[.int .i64 4, .int .i64 f, .int .i64 t, .int .i64 i, .slice dp m dc]] w fun e w' => e = .returned (.bool true) ∧ (∃ s', s'.age ≤ s.age + 1 ∧ Two base w' N M R s' s' Av) ∧ Below base w w' := by
  have X1 := hide (heap_new w (dB 4 f t i dp m dc))
  have b1 := hide (show Below w.heap.size w (w.alloc (dB 4 f t i dp m dc)) from (Below.refl _ _).alloc (Nat.le_refl _) _)
  have H1 := hide (h.later (unhide b1))
  have HF := hide hf
  have HT := hide ht
  have G1 := hide ((unhide b1).mono h.base_le)
  obtain ⟨c0, c1, c2, c3, c4⟩ := dB_cells (unhide X1)
  clear h hf ht
  go_enter Try.func17, Try.ntmps17
  go_wp2_with fail
  generalize w.alloc (dB 4 f t i dp m dc) = w1 at *
  generalize hD : w.heap.size = D at *
  have A3 := hide (show (healS s f t).age ≤ s.age + 1 by unfold healS; split <;> simp [FS.old])
  go_region_held3 (fun w' => w'.cell? ⟨D, 1, none⟩ = some (.int .i64 f) ∧ w'.cell? ⟨D, 2, none⟩ = some (.int .i64 t)) (first | go_keep | exact ⟨k1, k2⟩ | exact ⟨r1, r2⟩) (first
    | (go_at_call 34
       refine (two_heal (by first | exact (unhide H1).drew | exact unhide Hr) f t (unhide HF) (unhide HT)).mono ?_
       rintro e W2 ⟨rfl, h2, g2⟩
       have H2 := hide h2
       have X2 := hide (g2.box (by first | exact unhide X1 | exact unhide Xr) (by decide))
       have G2 := hide (Below.trans (by first | exact (unhide G1).drew | exact unhide Gr) g2.bel)
       obtain ⟨k0, k1, k2, k3, k4⟩ := dB_cells (unhide X2)
       clear h2 g2)
    | (go_at_call 35
       refine (two_rheal (by first | exact (unhide H1).drew | exact unhide H2) f t).mono ?_
       rintro e Wr ⟨rfl, hr, gr⟩
       have Hr := hide hr
       have Xr := hide (gr.box (by first | exact unhide X1 | exact unhide X2) (by decide))
       have Gr := hide (Below.trans (by first | exact (unhide G1).drew | exact unhide G2) gr.bel)
       obtain ⟨r0, r1, r2, r3, r4⟩ := dB_cells (unhide Xr)
       clear hr gr))
  all_goals
    go_wp2
    go_ret
    exact ⟨rfl, ⟨_, unhide A3, by first | exact unhide H2 | exact unhide Hr⟩, by first | exact unhide G2 | exact unhide Gr⟩
end
end Go.Proofs.Yticemhnfcelpmaa
