/- Flight: the law's do: Double, Tick. -/
import Derived.Test.YticemhnfcelpmaaDo0
namespace Go.Proofs.Yticemhnfcelpmaa
open Go.ChangeShapes Go.WideShapes Go.ChangeAt Go.RowKit Go.Maps

section
variable {base : Nat} {w : World} {N M R : Nat} {s : FS} {Av : Nat → Prop}
set_option maxRecDepth 20000 in
set_option maxHeartbeats 4000000 in
theorem do_double (h : Two base w N M R s s Av) (ha : s.age ≤ 800) (f t i : Int) (hf : In64 f) (ht : In64 t) (dp : Option Addr) (m dc : Nat) :
    Calls Try.prog 17 #[.pointer (some ⟨N, 0, none⟩), .pointer (some ⟨R, 0, none⟩), .agg #[.int .i64 2, .int .i64 f, .int .i64 t, .int .i64 i, .slice dp m dc]] w fun e w' => e = .returned (.bool true) ∧ (∃ s', s'.age ≤ s.age + 1 ∧ Two base w' N M R s' s' Av) ∧ Below base w w' := by
  have X1 := hide (heap_new w (dB 2 f t i dp m dc))
  have b1 := hide (show Below w.heap.size w (w.alloc (dB 2 f t i dp m dc)) from (Below.refl _ _).alloc (Nat.le_refl _) _)
  have H1 := hide (h.later (unhide b1))
  have HF := hide hf
  have HT := hide ht
  have G1 := hide ((unhide b1).mono h.base_le)
  obtain ⟨c0, c1, c2, c3, c4⟩ := dB_cells (unhide X1)
  clear h hf ht
  go_enter Try.func17, Try.ntmps17
  go_wp2_with fail
  generalize w.alloc (dB 2 f t i dp m dc) = w1 at *
  refine (two_double (unhide H1) (by omega) i).mono ?_
  rintro e W2 ⟨rfl, h2, g2⟩
  have H2 := hide h2
  have X2 := hide (g2.box (unhide X1) (by decide))
  have G2 := hide ((unhide G1).trans g2.bel)
  clear h2 g2 H1 X1 G1 c0 c1 c2 c3 c4
  obtain ⟨c0, c1, c2, c3, c4⟩ := dB_cells (unhide X2)
  go_wp2_with fail
  refine (two_rdouble (unhide H2) (by omega) i).mono ?_
  rintro e W3 ⟨rfl, h3, g3⟩
  have H3 := hide h3
  have G3 := hide ((unhide G2).trans g3.bel)
  have A3 := hide (show (dblS s i).age ≤ s.age + 1 by unfold dblS; split <;> simp [FS.put, FS.old])
  clear h3 g3 H2 X2 G2 c0 c1 c2 c3 c4
  generalize dblS s i = s3 at *
  generalize dblR s i = pr at *
  go_wp2
  go_ret
  exact ⟨rfl, ⟨s3, unhide A3, unhide H3⟩, unhide G3⟩
set_option maxRecDepth 20000 in
set_option maxHeartbeats 4000000 in
theorem do_tick (h : Two base w N M R s s Av) (ha : s.age ≤ 800) (f t i : Int) (hf : In64 f) (ht : In64 t) (dp : Option Addr) (m dc : Nat) :
    Calls Try.prog 17 #[.pointer (some ⟨N, 0, none⟩), .pointer (some ⟨R, 0, none⟩), .agg #[.int .i64 5, .int .i64 f, .int .i64 t, .int .i64 i, .slice dp m dc]] w fun e w' => e = .returned (.bool true) ∧ (∃ s', s'.age ≤ s.age + 1 ∧ Two base w' N M R s' s' Av) ∧ Below base w w' := by
  have X1 := hide (heap_new w (dB 5 f t i dp m dc))
  have b1 := hide (show Below w.heap.size w (w.alloc (dB 5 f t i dp m dc)) from (Below.refl _ _).alloc (Nat.le_refl _) _)
  have H1 := hide (h.later (unhide b1))
  have HF := hide hf
  have HT := hide ht
  have G1 := hide ((unhide b1).mono h.base_le)
  obtain ⟨c0, c1, c2, c3, c4⟩ := dB_cells (unhide X1)
  clear h hf ht
  go_enter Try.func17, Try.ntmps17
  go_wp2_with fail
  generalize w.alloc (dB 5 f t i dp m dc) = w1 at *
  refine (two_tick (unhide H1) (by omega) f).mono ?_
  rintro e W2 ⟨rfl, h2, g2⟩
  have H2 := hide h2
  have X2 := hide (g2.box (unhide X1) (by decide))
  have G2 := hide ((unhide G1).trans g2.bel)
  clear h2 g2 H1 X1 G1 c0 c1 c2 c3 c4
  obtain ⟨c0, c1, c2, c3, c4⟩ := dB_cells (unhide X2)
  go_wp2_with fail
  refine (two_rtick (unhide H2) (by omega) f).mono ?_
  rintro e W3 ⟨rfl, h3, g3⟩
  have H3 := hide h3
  have G3 := hide ((unhide G2).trans g3.bel)
  have A3 := hide (show (tickS s f).age ≤ s.age + 1 by unfold tickS; split <;> simp [FS.old])
  clear h3 g3 H2 X2 G2 c0 c1 c2 c3 c4
  generalize tickS s f = s3 at *
  generalize tickR s f = pr at *
  go_wp2
  go_ret
  exact ⟨rfl, ⟨s3, unhide A3, unhide H3⟩, unhide G3⟩
set_option maxRecDepth 20000 in
set_option maxHeartbeats 4000000 in
theorem do_else (h : Two base w N M R s s Av) (_ : s.age ≤ 800) (f t i : Int) (hf : In64 f) (ht : In64 t) (dp : Option Addr) (m dc : Nat) (kd : Int) (hk : kd < 0 ∨ 5 < kd) :
    Calls Try.prog 17 #[.pointer (some ⟨N, 0, none⟩), .pointer (some ⟨R, 0, none⟩), .agg #[.int .i64 kd, .int .i64 f, .int .i64 t, .int .i64 i, .slice dp m dc]] w fun e w' => e = .returned (.bool true) ∧ (∃ s', s'.age ≤ s.age + 1 ∧ Two base w' N M R s' s' Av) ∧ Below base w w' := by
  have X1 := hide (heap_new w (dB kd f t i dp m dc))
  have b1 := hide (show Below w.heap.size w (w.alloc (dB kd f t i dp m dc)) from (Below.refl _ _).alloc (Nat.le_refl _) _)
  have H1 := hide (h.later (unhide b1))
  have HF := hide hf
  have HT := hide ht
  have G1 := hide ((unhide b1).mono h.base_le)
  obtain ⟨c0, c1, c2, c3, c4⟩ := dB_cells (unhide X1)
  have e0 : ¬ kd = 0 := by omega
  have e1 : ¬ kd = 1 := by omega
  have e2 : ¬ kd = 2 := by omega
  have e3 : ¬ kd = 3 := by omega
  have e4 : ¬ kd = 4 := by omega
  have e5 : ¬ kd = 5 := by omega
  clear h hf ht
  go_enter Try.func17, Try.ntmps17
  go_wp2
  go_ret
  exact ⟨rfl, ⟨s, by omega, unhide H1⟩, unhide G1⟩
end
end Go.Proofs.Yticemhnfcelpmaa
