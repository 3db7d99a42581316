/- Heads that are the same (tollgateref09.Same). -/
import Derived.Test.YtmmiadlmdjfepaaDoorHdp
import Derived.BigQuiet
namespace Go.Proofs.YtmmiadlmdjfepaaDoor
open Go.ChangeShapes Go.WideShapes Go.ChangeAt Go.RowKit
set_option linter.unusedVariables false

set_option maxRecDepth 20000 in
set_option maxHeartbeats 8000000 in
theorem sameH_calls {w : World} {h : Hd} {a b : Option Addr} (c1 c2 : Nat) (h1 : FdsAt w a h.fields) (h2 : FdsAt w b h.fields) (hl : HdLe maxLen h) :
    Calls Tryd.prog 13 #[hdVal h a c1, hdVal h b c2] w fun e w' => e = .returned (.bool true) ∧ Below w.heap.size w w' := by
  unfold hdVal
  have hlm := hl.m
  have hlp := hl.p
  have hlq := hl.q
  have hlx := hl.x
  have HF := hide hl.f
  have hlf := hl.f.1
  clear hl
  obtain ⟨hm, hp, hq, hx, fs⟩ := h
  simp only at h1 h2 hlm hlp hlq hlx hlf HF ⊢
  have H1 := hide h1
  have H2 := hide h2
  rw [← stS_size] at hlm hlp hlq hlx
  generalize stS hm = sm at *
  generalize stS hp = sp at *
  generalize stS hq = sq at *
  generalize stS hx = sx at *
  generalize hn : fs.length = n at hlf ⊢
  have HN := hide hn
  clear h1 h2 hn
  simp only [maxLen] at hlm hlp hlq hlx hlf
  have em : (sm.toList == sm.toList) = true := by simp
  have ep : (sp.toList == sp.toList) = true := by simp
  have eq : (sq.toList == sq.toList) = true := by simp
  have ex : (sx.toList == sx.toList) = true := by simp
  have b1 : Below w.heap.size w (w.alloc (.cells #[.string sm, .string sp, .string sq, .string sx, .slice a n c1] 25)) := (Below.refl _ _).alloc (Nat.le_refl _) _
  have b2 := b1.alloc b1.size (.cells #[.string sm, .string sp, .string sq, .string sx, .slice b n c2] 25)
  have s1 : (w.alloc (.cells #[.string sm, .string sp, .string sq, .string sx, .slice a n c1] 25)).heap.size = w.heap.size + 1 := by simp
  have X1 := hide (show ((w.alloc (.cells #[.string sm, .string sp, .string sq, .string sx, .slice a n c1] 25)).alloc (.cells #[.string sm, .string sp, .string sq, .string sx, .slice b n c2] 25)).heap[w.heap.size]? = some (.cells #[.string sm, .string sp, .string sq, .string sx, .slice a n c1] 25 (0, 0)) by rw [Below.heap_alloc _ _ _ (by simp)]; exact heap_new _ _)
  have X2 := hide (show ((w.alloc (.cells #[.string sm, .string sp, .string sq, .string sx, .slice a n c1] 25)).alloc (.cells #[.string sm, .string sp, .string sq, .string sx, .slice b n c2] 25)).heap[w.heap.size + 1]? = some (.cells #[.string sm, .string sp, .string sq, .string sx, .slice b n c2] 25 (0, 0)) by rw [← s1]; exact heap_new _ _)
  have B2 := hide b2
  clear b1 b2 s1
  have k10 := box_cell (unhide X1) 0 _ rfl
  have k11 := box_cell (unhide X1) 1 _ rfl
  have k12 := box_cell (unhide X1) 2 _ rfl
  have k13 := box_cell (unhide X1) 3 _ rfl
  have k14 := box_cell (unhide X1) 4 _ rfl
  have k20 := box_cell (unhide X2) 0 _ rfl
  have k21 := box_cell (unhide X2) 1 _ rfl
  have k22 := box_cell (unhide X2) 2 _ rfl
  have k23 := box_cell (unhide X2) 3 _ rfl
  have k24 := box_cell (unhide X2) 4 _ rfl
  go_enter Tryd.func13, Tryd.ntmps13
  go_wp2_with fail
  generalize ((w.alloc (.cells #[.string sm, .string sp, .string sq, .string sx, .slice a n c1] 25)).alloc (.cells #[.string sm, .string sp, .string sq, .string sx, .slice b n c2] 25)) = W2 at *
  go_loopw [5] (fun i wr => ∃ j : Nat, j ≤ n ∧ i = .int .i64 (j : Int) ∧ Hid (Below W2.heap.size W2 wr)) (fun i _ => n - (intOf i).toNat)
  case atStart => exact ⟨0, by omega, rfl, hide (Below.refl _ _)⟩
  case round =>
    obtain ⟨j, hj, rfl, B⟩ := hrel
    have F := hide ((unhide B2).trans ((unhide B).mono (unhide B2).size))
    have p14 := cell_later (unhide B) k14
    have p24 := cell_later (unhide B) k24
    by_cases hjn : j < n
    · have y0 : (0 : Int) ≤ (j : Int) := by omega
      have y1 : (j : Int) < (n : Int) := by omega
      have hjl : j < fs.length := by rw [unhide HN]; exact hjn
      obtain ⟨g1, o1, rfl, q0, q1⟩ := unhide H1 j hjl
      obtain ⟨g2, o2, rfl, r0, r1⟩ := unhide H2 j hjl
      have p0 := cell_later (unhide F) q0
      have p1 := cell_later (unhide F) q1
      have s0 := cell_later (unhide F) r0
      have s1 := cell_later (unhide F) r1
      have hz := (unhide HF).2 _ (List.getElem_mem hjl)
      generalize fs[j] = t at *
      obtain ⟨tn, tv⟩ := t
      simp only at p0 p1 s0 s1 hz
      rw [← stS_size tn, ← stS_size tv] at hz
      generalize stS tn = s at *
      generalize stS tv = x at *
      obtain ⟨hz1, hz2⟩ := hz
      simp only [maxLen] at hz1 hz2
      have hss : (s.toList == s.toList) = true := by simp
      have hxx : (x.toList == x.toList) = true := by simp
      have BD := hide (show ∀ k, Below W2.heap.size W2 (wr.drewN k) from fun k => ⟨(unhide B).os, (unhide B).tape, (unhide B).output, (unhide B).size, (unhide B).block⟩)
      clear q0 q1 r0 r1
      go_wp2_with fail
      go_quiet (fail)
      go_wp2
      exact ⟨⟨j + 1, by omega, by go_num, unhide BD _⟩, by simp [intOf]; omega⟩
    · have hjj : ¬ (j : Int) < (n : Int) := by omega
      obtain rfl : j = n := by omega
      go_wp2
      go_ret
      exact ⟨rfl, unhide F⟩
end Go.Proofs.YtmmiadlmdjfepaaDoor
