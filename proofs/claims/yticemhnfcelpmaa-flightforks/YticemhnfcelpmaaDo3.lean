/- Flight: the law's do: Take. -/
import Derived.Test.YticemhnfcelpmaaDo0
namespace Go.Proofs.Yticemhnfcelpmaa
open Go.ChangeShapes Go.WideShapes Go.ChangeAt Go.RowKit Go.Maps

section
variable {base : Nat} {w : World} {N M R : Nat} {s : FS} {Av : Nat → Prop}
set_option maxRecDepth 20000 in
set_option maxHeartbeats 4000000 in
theorem do_take (h : Two base w N M R s s Av) (ha : s.age ≤ 800) (f t i : Int) (hf : In64 f) (ht : In64 t) (dp : Option Addr) (m dc : Nat) :
    Calls Try.prog 17 #[.pointer (some ⟨N, 0, none⟩), .pointer (some ⟨R, 0, none⟩), .agg #[.int .i64 1, .int .i64 f, .int .i64 t, .int .i64 i, .slice dp m dc]] w fun e w' => e = .returned (.bool true) ∧ (∃ s', s'.age ≤ s.age + 1 ∧ Two base w' N M R s' s' Av) ∧ Below base w w' := by
  have X1 := hide (heap_new w (dB 1 f t i dp m dc))
  have b1 := hide (show Below w.heap.size w (w.alloc (dB 1 f t i dp m dc)) from (Below.refl _ _).alloc (Nat.le_refl _) _)
  have H1 := hide (h.later (unhide b1))
  have HF := hide hf
  have HT := hide ht
  have G1 := hide ((unhide b1).mono h.base_le)
  obtain ⟨c0, c1, c2, c3, c4⟩ := dB_cells (unhide X1)
  clear h hf ht
  go_enter Try.func17, Try.ntmps17
  go_wp2_with fail
  generalize w.alloc (dB 1 f t i dp m dc) = w1 at *
  have A3 := hide (show (takeS s i).age ≤ s.age + 1 by unfold takeS; split <;> simp [FS.without, FS.old])
  cases hi : hasL s.pk.length i
  · refine (two_take_no (unhide H1) i hi).mono ?_
    rintro e W2 ⟨rfl, h2, g2⟩
    have H2 := hide (h2.later ((Below.refl _ _).alloc (Nat.le_refl _) zPk))
    have X2 := hide (heap_old zPk (g2.box (unhide X1) (by decide)))
    have Y2 := hide (heap_new W2 zPk)
    have G2 := hide (((unhide G1).trans g2.bel).trans (((Below.refl W2.heap.size W2).alloc (Nat.le_refl _) zPk).mono h2.base_le))
    clear h2 g2 H1 X1 G1 c0 c1 c2 c3 c4
    obtain ⟨c0, c1, c2, c3, c4⟩ := dB_cells (unhide X2)
    go_wp2_with fail
    generalize hE : W2.heap.size = E at *
    generalize W2.alloc zPk = W3 at *
    refine (two_rtake_no (unhide H2) (by omega) i hi).mono ?_
    rintro e W4 ⟨rfl, h4, g4⟩
    have H4 := hide (h4.later ((Below.refl _ _).alloc (Nat.le_refl _) zPk))
    have Y4 := hide (heap_old zPk (g4.box (unhide Y2) (by decide)))
    have Z4 := hide (heap_new W4 zPk)
    have G4 := hide (((unhide G2).trans g4.bel).trans (((Below.refl W4.heap.size W4).alloc (Nat.le_refl _) zPk).mono h4.base_le))
    clear h4 g4 H2 X2 G2 Y2 c0 c1 c2 c3 c4
    obtain ⟨c0, c1, c2, c3⟩ := pkB_cells (unhide Y4)
    obtain ⟨d0, d1, d2, d3⟩ := pkB_cells (unhide Z4)
    go_wp2_with fail
    generalize hE2 : W4.heap.size = E2 at *
    generalize W4.alloc zPk = W5 at *
    refine (samePacket_yes 0 0 0 none none 0 0 0 0 [] W5 rfl rfl ⟨by simp, by simp⟩ ⟨by simp, by simp⟩).mono ?_
    rintro e W6 ⟨rfl, b6⟩
    have H6 := hide ((unhide H4).later b6)
    have G6 := hide ((unhide G4).trans (b6.mono (unhide H4).base_le))
    clear b6 H4 G4
    go_wp2
    go_ret
    exact ⟨rfl, ⟨_, unhide A3, unhide H6⟩, unhide G6⟩
  · refine (two_take_yes (unhide H1) (by omega) i hi).mono ?_
    rintro e W2 ⟨⟨dp2, dc2⟩, rfl, o2, h2, g2⟩
    have H2' := hide (h2.weaken (Av' := Av) (fun g hg => .inl hg))
    have X2' := hide (g2.box (unhide X1) (by decide))
    have G2' := hide ((unhide G1).trans g2.bel)
    have O2' := hide o2
    clear h2 g2 o2 H1 X1 G1 c0 c1 c2 c3 c4
    generalize hp : s.nth i = p at *
    obtain ⟨id, f', t', l⟩ := p
    have H2 := hide ((unhide H2').later ((Below.refl _ _).alloc (Nat.le_refl _) (pkB id f' t' dp2 l.length dc2)))
    have X2 := hide (heap_old (pkB id f' t' dp2 l.length dc2) (unhide X2'))
    have Y2 := hide (heap_new W2 (pkB id f' t' dp2 l.length dc2))
    have O2 := hide ((unhide O2').later ((Below.refl _ _).alloc (Nat.le_refl _) (pkB id f' t' dp2 l.length dc2)))
    have G2 := hide ((unhide G2').trans (((Below.refl W2.heap.size W2).alloc (Nat.le_refl _) (pkB id f' t' dp2 l.length dc2)).mono (unhide H2').base_le))
    clear H2' X2' G2' O2'
    obtain ⟨c0, c1, c2, c3, c4⟩ := dB_cells (unhide X2)
    simp only [pkB] at c0 c1 c2 c3 c4
    go_wp2_with fail
    generalize hE : W2.heap.size = E at *
    simp only [pkB] at H2 X2 Y2 O2 G2
    generalize W2.alloc (.cells #[.int .i64 id, .int .i64 f', .int .i64 t', .slice dp2 l.length dc2] 35 (0, 0)) = W3 at *
    refine (two_rtake_yes (unhide H2) (by omega) i hi).mono ?_
    rintro e W4 ⟨⟨dp4, dc4⟩, rfl, o4, h4, g4⟩
    have H4' := hide h4
    have Y4' := hide (g4.box (unhide Y2) (by decide))
    have G4' := hide ((unhide G2).trans g4.bel)
    have O4' := hide (show OwnB 0 W4 dp4 dc4 l by rw [hp] at o4; exact o4)
    have P4' := hide ((unhide O2).steps g4 (by decide))
    clear h4 g4 o4 H2 X2 Y2 O2 G2 c0 c1 c2 c3 c4
    rw [hp]
    have H4 := hide ((unhide H4').later ((Below.refl _ _).alloc (Nat.le_refl _) (pkB id f' t' dp4 l.length dc4)))
    have Y4 := hide (heap_old (pkB id f' t' dp4 l.length dc4) (unhide Y4'))
    have Z4 := hide (heap_new W4 (pkB id f' t' dp4 l.length dc4))
    have O4 := hide ((unhide O4').later ((Below.refl _ _).alloc (Nat.le_refl _) (pkB id f' t' dp4 l.length dc4)))
    have P4 := hide ((unhide P4').later ((Below.refl _ _).alloc (Nat.le_refl _) (pkB id f' t' dp4 l.length dc4)))
    have G4 := hide ((unhide G4').trans (((Below.refl W4.heap.size W4).alloc (Nat.le_refl _) (pkB id f' t' dp4 l.length dc4)).mono (unhide H4').base_le))
    clear H4' Y4' G4' O4' P4'
    obtain ⟨c0, c1, c2, c3⟩ := pkB_cells (unhide Y4)
    obtain ⟨d0, d1, d2, d3⟩ := pkB_cells (unhide Z4)
    simp only [pkB] at c0 c1 c2 c3 d0 d1 d2 d3
    go_wp2_with fail
    generalize hE2 : W4.heap.size = E2 at *
    simp only [pkB] at H4 Y4 Z4 O4 P4 G4
    generalize W4.alloc (.cells #[.int .i64 id, .int .i64 f', .int .i64 t', .slice dp4 l.length dc4] 35 (0, 0)) = W5 at *
    refine (samePacket_yes id f' t' dp2 dp4 l.length l.length dc2 dc4 l W5 rfl rfl (unhide P4).bytes (unhide O4).bytes).mono ?_
    rintro e W6 ⟨rfl, b6⟩
    have H6 := hide ((unhide H4).later b6)
    have G6 := hide ((unhide G4).trans (b6.mono (unhide H4).base_le))
    clear b6 H4 G4
    go_wp2
    go_ret
    exact ⟨rfl, ⟨_, unhide A3, unhide H6⟩, unhide G6⟩
end
end Go.Proofs.Yticemhnfcelpmaa
