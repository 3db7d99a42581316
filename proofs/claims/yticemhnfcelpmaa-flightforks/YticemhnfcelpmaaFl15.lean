/- Flight: Heal. -/
import Derived.Test.YticemhnfcelpmaaFl14
namespace Go.Proofs.Yticemhnfcelpmaa
open Go.ChangeShapes Go.WideShapes Go.ChangeAt Go.RowKit Go.Maps
section
variable {base : Nat} {w : World} {N M n : Nat} {sp : Option Addr} {c : Nat} {xs : List (Pkt × Hdl)} {last : Int} {S : Int → Int → Bool} {ck : List Int}
def heals (S : Int → Int → Bool) (f t : Int) : Int → Int → Bool := fun f' t' => !(decide (f' = f) && decide (t' = t)) && S f' t'
theorem NetAt.unpart (h : NetAt base w N M n sp c xs last S ck) (f t : Int) (hf : In64 f) (ht : In64 t) (ty : TypeId) : ∃ w', (Builtin.delete_ #[50, 56] ty #[.map (some M), .agg #[.int .i64 f, .int .i64 t]]).run Try.prog w = .ok (.tuple #[]) w' ∧ NetAt base w' N M n sp c xs last (heals S f t) ck ∧ w.grownBy w' (some M) := by
  obtain ⟨D, hD, hS⟩ := h.map
  obtain ⟨w', hrun, r1, r2⟩ := hD.drop linkLaw Try.underlying50 (keyOf_link hf ht) ty
  have r3 := r2.grown
  obtain ⟨es, clock, hb, _⟩ := hD
  refine ⟨w', hrun, ⟨grown_block r3 h.blk (fun e => h.ne e.symm), (h.own.farMap r3 hb).tight, ⟨_, r1, fun f' t' hf' ht' => ?_⟩, h.lowN, h.lowM, h.nine⟩, r3⟩
  by_cases e : f' = f ∧ t' = t
  · obtain ⟨rfl, rfl⟩ := e
    rw [has_del_same]
    simp [heals]
  · rw [has_del_other (fun e' => e (lk_inj hf' ht' hf ht e'))]
    have : (decide (f' = f) && decide (t' = t)) = false := by
      by_cases h1 : f' = f
      · have h2 : ¬ t' = t := fun h2 => e ⟨h1, h2⟩
        simp [h2]
      · simp [h1]
    rw [hS f' t' hf' ht', heals, this]
    rfl
set_option maxHeartbeats 4000000 in
theorem heal_no (f t : Int) (hL : isL f t = false) :
    Calls Try.prog 34 #[.pointer (some ⟨N, 0, none⟩), .int .i64 f, .int .i64 t] w fun e w' => e = .returned (.int .i64 2) ∧ Below w.heap.size w w' := by
  have h0 := heap_new w (.cells #[.int .i64 f, .int .i64 t] 56)
  have c0 := box_cell h0 0 _ rfl
  have c1 := box_cell h0 1 _ rfl
  have bA := hide (show Below w.heap.size w (w.alloc (.cells #[.int .i64 f, .int .i64 t] 56)) from (Below.refl _ _).alloc (Nat.le_refl _) _)
  clear h0
  go_enter Try.func34, Try.ntmps34
  go_wp2_with fail
  refine (isLink_calls f t _).mono ?_
  rintro e W1 ⟨rfl, b1⟩
  have B1 := hide ((unhide bA).trans (b1.mono (unhide bA).size))
  rw [hL]
  clear b1
  go_wp2
  go_ret
  exact ⟨rfl, unhide B1⟩
set_option maxHeartbeats 4000000 in
theorem heal_yes (h : NetAt base w N M n sp c xs last S ck) (f t : Int) (hf : In64 f) (ht : In64 t) (hL : isL f t = true) :
    Calls Try.prog 34 #[.pointer (some ⟨N, 0, none⟩), .int .i64 f, .int .i64 t] w fun e w' => e = .returned (.int .i64 0) ∧ NetAt base w' N M n sp c xs last (heals S f t) ck ∧ NGrew N M w sp w' sp := by
  have h0 := heap_new w (.cells #[.int .i64 f, .int .i64 t] 56)
  have X0 := hide h0
  have c0 := box_cell h0 0 _ rfl
  have c1 := box_cell h0 1 _ rfl
  have bA := hide (show Below w.heap.size w (w.alloc (.cells #[.int .i64 f, .int .i64 t] 56)) from (Below.refl _ _).alloc (Nat.le_refl _) _)
  have H := hide h
  clear h0 h
  go_enter Try.func34, Try.ntmps34
  go_wp2_with fail
  refine (isLink_calls f t _).mono ?_
  rintro e W1 ⟨rfl, b1⟩
  have B1 := hide ((unhide bA).trans (b1.mono (unhide bA).size))
  have X1 := hide (later_block b1 (unhide X0))
  have H1 := hide ((unhide H).later (unhide B1))
  rw [hL]
  clear b1 c0 c1 bA X0
  have d0 := box_cell (unhide X1) 0 _ rfl
  have d1 := box_cell (unhide X1) 1 _ rfl
  have e2 := (unhide H1).c2
  obtain ⟨W2, hrun, h2, g2⟩ := (unhide H1).drew.unpart f t hf ht 0
  have H2 := hide h2
  have G2 := hide (show W1.grownBy W2 (some M) from ⟨g2.os, g2.tape, g2.output, g2.size, g2.block⟩)
  clear h2 g2
  go_wp2_with fail
  go_region
  go_wp2
  go_ret
  exact ⟨rfl, unhide H2, (NGrew.ofBelow (N := N) (M := M) (sp := sp) (unhide B1)).trans (NGrew.ofM (unhide G2))⟩
end
end Go.Proofs.Yticemhnfcelpmaa
