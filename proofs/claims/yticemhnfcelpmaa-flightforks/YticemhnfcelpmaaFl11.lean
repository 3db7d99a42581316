/- Flight: Under. -/
import Derived.Test.YticemhnfcelpmaaFl8
namespace Go.Proofs.Yticemhnfcelpmaa
open Go.ChangeShapes Go.WideShapes Go.ChangeAt Go.RowKit Go.Maps

section
variable {base : Nat} {w : World} {N M n : Nat} {sp : Option Addr} {c : Nat} {xs : List (Pkt × Hdl)} {last : Int} {S : Int → Int → Bool} {ck : List Int}
set_option maxRecDepth 20000 in
set_option maxHeartbeats 4000000 in
theorem under_calls (h : NetAt base w N M n sp c xs last S ck) (hx : xs.length ≤ 1000) (hbl : ∀ x ∈ xs, x.1.2.2.2.length ≤ 140737488355328) :
    Calls Try.prog 10 #[.pointer (some ⟨N, 0, none⟩)] w fun e w' => ∃ sp' c' ys, e = .returned (.slice sp' xs.length c') ∧ ys.map (·.1) = xs.map (·.1) ∧ OwnP w.heap.size w'.heap.size w' sp' c' ys ∧ Below w.heap.size w w' := by
  have c0 := h.c0
  have H := hide h
  have HL := hide hbl
  clear h hbl
  go_enter Try.func10, Try.ntmps10
  go_wp2_with fail
  go_loopw [3, 13] (fun v i wr => ∃ (j : Nat) (sp' : Option Addr) (c' : Nat) (ys : List (Pkt × Hdl)), j ≤ xs.length ∧ v = .slice sp' j c' ∧ i = .int .i64 (j : Int) ∧ Hid (ys.map (·.1) = (xs.take j).map (·.1)) ∧ Hid (OwnP w.heap.size wr.heap.size wr sp' c' ys) ∧ Hid (Below w.heap.size w wr)) (fun _ i _ => xs.length - (intOf i).toNat)
  case atStart => exact ⟨0, none, 0, [], by omega, rfl, rfl, rfl, OwnP.ofNil _ _ _, Below.refl _ _⟩
  case round =>
    obtain ⟨j, sp', c', ys, hj, rfl, rfl, hys, O, F⟩ := hrel
    by_cases hjn : j < xs.length
    · have HN := hide ((unhide H).later (unhide F))
      obtain ⟨g, rfl, p0, p1, p2, p3⟩ := (unhide HN).own.cell j hjn
      have hj0 : (0 : Int) ≤ (j : Int) := by omega
      have hj1 : (j : Int) < (xs.length : Int) := by omega
      have hyl := hide (show ys.length = j by have := congrArg List.length (unhide hys); simp only [List.length_map, List.length_take] at this; omega)
      have htk := hide (show (xs.take (j + 1)).map (·.1) = (xs.take j).map (·.1) ++ [xs[j].1] by rw [List.take_succ_eq_append_getElem hjn, List.map_append]; rfl)
      have hll := hide (unhide HL xs[j] (List.getElem_mem hjn))
      have DB := hide ((unhide HN).own.dat.own xs[j] (List.getElem_mem hjn)).1
      generalize xs[j] = x at *
      obtain ⟨⟨id, f, t, l⟩, dp, dc⟩ := x
      simp only at p0 p1 p2 p3 htk hll DB
      have bA := hide (show Below wr.heap.size wr (wr.alloc (.cells #[.int .i64 id, .int .i64 f, .int .i64 t, .slice dp l.length dc] 35)) from (Below.refl _ _).alloc (Nat.le_refl _) _)
      have XA := hide (heap_new wr (.cells #[.int .i64 id, .int .i64 f, .int .i64 t, .slice dp l.length dc] 35))
      have q3 := box_cell (unhide XA) 3 _ rfl
      go_wp2_with fail
      refine (clone_calls dp l.length dc l _ rfl (unhide hll) ((unhide DB).bytes.later (unhide bA)) (unhide DB).nilCap).mono ?_
      rintro e W2 ⟨dp2, dc2, rfl, ho2, b2⟩
      have X2 := later_block b2 (unhide XA)
      have B2 := hide (show Below wr.heap.size wr W2 from (unhide bA).trans (b2.mono (unhide bA).size))
      have O2 := hide (ho2.mono (unhide bA).size)
      have v3 := box_cell X2 3 _ rfl
      have f3 := box_free X2 3
      have gs := grown_set W2 wr.heap.size 3 (.slice dp2 l.length dc2)
      have X3 : (W2.setCell ⟨wr.heap.size, 3, none⟩ (.slice dp2 l.length dc2)).heap[wr.heap.size]? = some (.cells #[.int .i64 id, .int .i64 f, .int .i64 t, .slice dp2 l.length dc2] 35) := by
        simpa using heap_setCell_same W2 wr.heap.size 3 _ 35 (.slice dp2 l.length dc2) X2
      have B3 := hide ((unhide B2).grown gs (unhide B2).size (fun g hg => by have := Option.some.inj hg; omega))
      have O3 := hide (show OwnB wr.heap.size (W2.setCell ⟨wr.heap.size, 3, none⟩ (.slice dp2 l.length dc2)) dp2 dc2 l from (unhide O2).grownNe gs (fun g hg e => by
        rw [← Option.some.inj e] at hg
        exact (unhide O2).ne_block X2 (by decide) hg))
      have S3 := hide (show (W2.setCell ⟨wr.heap.size, 3, none⟩ (.slice dp2 l.length dc2)).heap.size = W2.heap.size by simp)
      obtain ⟨z0, z1, z2, z3⟩ := packet_cells (x := ((id, f, t, l), (dp2, dc2))) X3
      clear ho2 b2 p0 p1 p2 p3 q3 X2 X3 gs
      simp only at z0 z1 z2 z3
      go_wp2_with (at_builtin; refine unhide ?_)
      refine hide ?_
      generalize W2.setCell ⟨wr.heap.size, 3, none⟩ (.slice dp2 l.length dc2) = W3 at *
      have b4 : Below W3.heap.size W3 (W3.alloc (.cells #[.int .i64 id, .int .i64 f, .int .i64 t, .slice dp2 l.length dc2] 35)) := (Below.refl _ _).alloc (Nat.le_refl _) _
      refine wpList_appendP rfl (.tmp 21) (.tmp 23) rfl w.heap.size wr.heap.size sp' j c' ys rfl (unhide hyl) (((unhide O).later (unhide B3)).later b4) W2.heap.size ((id, f, t, l), (dp2, dc2)) rfl (by rw [← unhide S3]; exact heap_new W3 _) (((unhide O3).mono (unhide F).size).later b4) (fun g hg => ((unhide O3).blk_lt g hg).1) (Nat.le_trans (unhide B3).size b4.size) (by have := unhide hyl; omega) (Nat.le_trans (unhide F).size (Nat.le_trans (unhide B3).size b4.size)) ?_
      intro sp5 c5 W5 ho5 hg5 hl5
      have F4 := hide ((unhide F).trans (((unhide B3).trans (b4.mono (unhide B3).size)).mono (unhide F).size))
      have F5 := hide ((unhide F4).grown hg5 (unhide F4).size (fun g hg => ((unhide O).blk_ge g hg).1))
      have O5 := hide ho5.tight
      have Y5 := hide (show (ys ++ [((id, f, t, l), (dp2, dc2))]).map (·.1) = (xs.take (j + 1)).map (·.1) by rw [unhide htk, List.map_append, unhide hys]; rfl)
      clear ho5 hg5 hl5 b4 F4 z0 z1 z2 z3 f3 v3
      go_wp2
      exact ⟨⟨j + 1, sp5, c5, _, by omega, rfl, by go_num, unhide Y5, unhide O5, unhide F5⟩, by simp [intOf]; omega⟩
    · obtain rfl : j = xs.length := by omega
      rw [List.take_length] at hys
      go_wp2
      go_ret
      exact ⟨sp', c', rfl, ys, unhide hys, unhide O, unhide F⟩
end
end Go.Proofs.Yticemhnfcelpmaa
