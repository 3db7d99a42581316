/- Flight: the law's do: Send. -/
import Derived.Test.YticemhnfcelpmaaDo0
namespace Go.Proofs.Yticemhnfcelpmaa
open Go.ChangeShapes Go.WideShapes Go.ChangeAt Go.RowKit Go.Maps

section
variable {base : Nat} {w : World} {N M R : Nat} {s : FS} {Av : Nat → Prop}
set_option maxRecDepth 20000 in
set_option maxHeartbeats 4000000 in
theorem do_send (h : Two base w N M R s s Av) (ha : s.age ≤ 800) (f t i : Int) (hf : In64 f) (ht : In64 t) (dp : Option Addr) (m dc : Nat) (l : List Nat) (hm : l.length = m) (hml : m ≤ 70000) (W0 : World) (hW0 : Below W0.heap.size W0 w) (hb0 : W0.heap.size ≤ base) (hb : BytesAt W0 dp l) (hz : dp = none → dc = 0) :
    Calls Try.prog 17 #[.pointer (some ⟨N, 0, none⟩), .pointer (some ⟨R, 0, none⟩), .agg #[.int .i64 0, .int .i64 f, .int .i64 t, .int .i64 i, .slice dp m dc]] w fun e w' => e = .returned (.bool true) ∧ (∃ s', s'.age ≤ s.age + 1 ∧ Two base w' N M R s' s' Av) ∧ Below base w w' := by
  have X1 := hide (heap_new w (dB 0 f t i dp m dc))
  have b1 := hide (show Below w.heap.size w (w.alloc (dB 0 f t i dp m dc)) from (Below.refl _ _).alloc (Nat.le_refl _) _)
  have H1 := hide (h.later (unhide b1))
  have HB := hide hb
  have HZ := hide hz
  have HM := hide hm
  have hbs := hide h.base_le
  have F1 := hide (hW0.trans ((unhide b1).mono hW0.size))
  have HF := hide hf
  have HT := hide ht
  have G1 := hide ((unhide b1).mono h.base_le)
  obtain ⟨c0, c1, c2, c3, c4⟩ := dB_cells (unhide X1)
  clear h hb hz hm hW0 hf ht
  go_enter Try.func17, Try.ntmps17
  go_wp2_with (at_builtin; refine unhide ?_)
  refine hide ?_
  have Z1 := hide (size_alloc w (dB 0 f t i dp m dc))
  generalize hD : w.heap.size = D at *
  generalize w.alloc (dB 0 f t i dp m dc) = w1 at *
  have O2 := hide (show OwnB (D + 1) (w1.alloc (.cells #[] 5)) (some ⟨D + 1, 0, none⟩) 0 [] from (unhide Z1) ▸ OwnB.empty w1 w1.heap.size (Nat.le_refl _))
  have b2 := hide (show Below w1.heap.size w1 (w1.alloc (.cells #[] 5)) from (Below.refl _ _).alloc (Nat.le_refl _) _)
  refine wpList_append8L rfl (.tmp 29) (.tmp 31) rfl (D + 1) (some ⟨D + 1, 0, none⟩) 0 0 [] rfl rfl (unhide O2) dp m dc rfl l (unhide HM) (((unhide HB).later (unhide F1)).later (unhide b2)) (unhide HZ) (by simp only [List.length_nil]; omega) (by have := (unhide b2).size; have := unhide Z1; omega) ?_
  intro sp3 n3 dc3 W3 hn3 ho3 hg3 hl3
  rw [List.nil_append] at hn3 ho3
  obtain rfl : m = n3 := (unhide HM).symm.trans (unhide hn3)
  have B3 := hide (show Below w1.heap.size w1 W3 from (unhide b2).grown hg3 (unhide b2).size (fun g hg => by have := Option.some.inj hg; have := unhide Z1; simp only at *; omega))
  have O3 := hide ho3
  have H3 := hide ((unhide H1).avoid (unhide B3) (blk sp3) (fun g hg => by have h1 := ho3.blk_lt g hg; have h2 := unhide Z1; omega))
  have X3 := hide (later_block (unhide B3) (unhide X1))
  have F3 := hide ((unhide F1).trans ((unhide B3).mono (unhide F1).size))
  have G3 := hide ((unhide G1).trans ((unhide B3).mono (by have := (unhide G1).size; have := unhide hbs; omega)))
  clear hn3 ho3 hg3 hl3 H1 B3 b2 O2 Z1 X1 F1 G1 b1 c0 c1 c2 c3 c4
  obtain ⟨c0, c1, c2, c3, c4⟩ := dB_cells (unhide X3)
  have A1 := hide (show ∀ g, blk sp3 = some g → (fun g => Av g ∨ blk sp3 = some g) g from fun g hg => .inr hg)
  have A2 := hide (show ∀ g, Av g → (fun g => Av g ∨ blk sp3 = some g) g from fun g hg => .inl hg)
  generalize (fun g => Av g ∨ blk sp3 = some g) = Av3 at *
  go_wp2_with fail
  refine (two_send (unhide H3) (by omega) f t (unhide HF) (unhide HT) sp3 m dc3 l (unhide HM) (unhide O3).bytes (unhide O3).nilCap).mono ?_
  rintro e W4 ⟨rfl, h4, g4⟩
  have H4 := hide h4
  have X4 := hide (g4.box (unhide X3) (by decide))
  have O4 := hide ((unhide O3).steps g4 (by decide))
  have F4 := hide ((unhide F3).trans (g4.bel.mono hb0))
  have G4 := hide ((unhide G3).trans g4.bel)
  clear h4 g4 H3 X3 O3 F3 G3 c0 c1 c2 c3 c4
  obtain ⟨c0, c1, c2, c3, c4⟩ := dB_cells (unhide X4)
  go_wp2_with fail
  refine (two_rsend (unhide H4) (by omega) f t dp m dc l (unhide HM) ((unhide HB).later (unhide F4)) (unhide HZ)).mono ?_
  rintro e W5 ⟨rfl, h5, g5⟩
  have H5 := hide h5
  have O5 := hide ((unhide O4).steps g5 (by decide))
  have G5 := hide ((unhide G4).trans g5.bel)
  have A5 := hide (show (sendS s f t l).age ≤ s.age + 1 by unfold sendS; split <;> simp [FS.put, FS.old])
  clear h5 g5 H4 X4 O4 F4 G4 c0 c1 c2 c3 c4
  generalize sendS s f t l = s5 at *
  generalize sendR s f t l = pr at *
  go_wp2_with fail
  go_loopw [12] (fun v wr => ∃ (j : Nat) (k : List Nat), j ≤ m ∧ v = .int .i64 (j : Int) ∧ Hid (k.length = m) ∧ Hid (OwnB (D + 1) wr sp3 dc3 k) ∧ Hid (Two base wr N M R s5 s5 Av3) ∧ Hid (Below base w wr)) (fun v _ => m - (intOf v).toNat)
  case atStart => exact ⟨0, l, by omega, rfl, unhide HM, unhide O5, unhide H5, unhide G5⟩
  case round =>
    obtain ⟨j, k, hj, rfl, hk, O, T, G⟩ := hrel
    by_cases hjm : j < m
    · have hjk : j < k.length := by rw [unhide hk]; exact hjm
      obtain ⟨y, hy, hy2⟩ := xor_byte (k.getD j 0) 90 ((unhide O).getLt j hjk) (by decide)
      obtain ⟨g, hsg, hgb, p0, p1, o2, gr, _⟩ := (unhide O).setAt j hjk y hy2
      obtain ⟨cur, hcur⟩ := (unhide O).blk_is g (by rw [hsg]; rfl)
      have T2 := hide ((unhide T).far (unhide A1 g (by rw [hsg]; rfl)) gr hcur)
      have O2 := hide o2
      have K2 := hide (show (k.set j y).length = m by rw [List.length_set]; exact unhide hk)
      have G2 := hide ((unhide G).grown gr (by have := (unhide G).size; have := unhide hbs; omega) (fun g' hg' => by have := Option.some.inj hg'; have := unhide hbs; omega))
      have hj0 : (0 : Int) ≤ (j : Int) := by omega
      have hj1 : (j : Int) < (m : Int) := by omega
      have hy' : bits .xor .u8 ((k.getD j 0 : Nat) : Int) 90 = (y : Int) := hy
      clear hy
      generalize k.getD j 0 = x at p0 hy'
      subst hsg
      clear hcur gr o2
      go_wp2
      exact ⟨⟨j + 1, k.set j y, by omega, by go_num, unhide K2, unhide O2, unhide T2, unhide G2⟩, by simp [intOf]; omega⟩
    · have hjm' : ¬ ((j : Int) < (m : Int)) := by omega
      go_wp2
      go_ret
      exact ⟨rfl, ⟨s5, unhide A5, (unhide T).weaken (unhide A2)⟩, unhide G⟩
end
end Go.Proofs.Yticemhnfcelpmaa
