/- Flight: lose, Part. -/
import Derived.Test.YticemhnfcelpmaaFl9
import Derived.Test.YticemhnfcelpmaaFl6
namespace Go.Proofs.Yticemhnfcelpmaa
open Go.ChangeShapes Go.WideShapes Go.ChangeAt Go.RowKit Go.Maps

section
variable {base : Nat} {w : World} {N M n : Nat} {sp : Option Addr} {c : Nat} {xs : List (Pkt × Hdl)} {last : Int} {S : Int → Int → Bool} {ck : List Int}
theorem net_grownRow {w' : World} {sp' : Option Addr} {c' top : Nat} {xs' : List (Pkt × Hdl)} (h : NetAt base w N M n sp c xs last S ck) (hg : w.grownBy w' (blk sp)) (ho : OwnP base top w' sp' c' xs') : NetAt base (w'.setCell ⟨N, 0, none⟩ (.slice sp' xs'.length c')) N M n sp' c' xs' last S ck := by
  obtain ⟨D, ⟨es, clock, hb, r⟩, hS⟩ := h.map
  exact h.setRow (hg.block N h.ltN (fun e => h.own.ne_block h.blk (by decide) e.symm)) (hg.block M (Array.getElem?_eq_some_iff.1 hb).1 (fun e => h.own.ne_map hb e.symm)) ho
set_option maxHeartbeats 2000000 in
theorem lose_calls (h : NetAt base w N M n sp c xs last S ck) (hx : xs.length ≤ 1000) {K : Nat} {caps : Array Value} {pick : Pkt → Bool} {B : Nat} {ob : Obj} (hK : Picker K caps pick B ob) (hB : w.heap[B]? = some ob) (hBr : blk sp ≠ some B) :
    Calls Try.prog 24 #[.pointer (some ⟨N, 0, none⟩), .func (.func K) #[] caps] w fun e w' => e = .returned (.tuple #[]) ∧ NetAt base w' N M n sp c (keep pick xs) last S ck ∧ NGrew N M w sp w' sp := by
  have c0 := h.c0
  have f0 := h.fz 0
  have H := hide h
  have HK := hide hK
  have HB := hide hB
  have HBr := hide hBr
  clear h hK hB hBr
  go_enter Try.func24, Try.ntmps24
  go_wp2_with fail
  refine (deleteFunc_calls (unhide H).own hx (unhide HK) (unhide HB) (unhide HBr)).mono ?_
  rintro e W1 ⟨rfl, ho, hg⟩
  have H1 := hide (net_grownRow (unhide H) hg ho)
  have N1 := hide (hg.block N (unhide H).ltN (fun e => (unhide H).own.ne_block (unhide H).blk (by decide) e.symm) |>.trans (unhide H).blk)
  have d0 := box_cell (unhide N1) 0 (.slice sp xs.length c) (by simp)
  have g0 := box_free (unhide N1) 0
  have G1 := hide ((NGrew.ofRow (N := N) (M := M) (sp' := sp) hg (fun g hg => .inl hg)).trans (NGrew.ofN (grown_set W1 N 0 (.slice sp (keep pick xs).length c))))
  clear ho hg c0 f0
  go_wp2
  go_end0
  exact ⟨rfl, unhide H1, unhide G1⟩
def parts (S : Int → Int → Bool) (f t : Int) : Int → Int → Bool := fun f' t' => (decide (f' = f) && decide (t' = t)) || S f' t'
theorem NetAt.store (h : NetAt base w N M n sp c xs last S ck) (f t : Int) (hf : In64 f) (ht : In64 t) (hn : n < maxLen) : ∃ w', (Instr.mapUpdate 50 (.map (some M)) (.agg #[.int .i64 f, .int .i64 t]) (.agg #[])).run Try.prog w = .ok () w' ∧ NetAt base w' N M (n + 1) sp c xs last (parts S f t) ck ∧ w.grownBy w' (some M) := by
  obtain ⟨D, hD, hS⟩ := h.map
  obtain ⟨w', hrun, r1, r2⟩ := hD.update linkLaw Try.underlying50 hn (keyOf_link hf ht) (unitElem_mk (H := Unit))
  have hmap := hD.isMap
  obtain ⟨es, clock, hb, _⟩ := hD
  refine ⟨w', hrun, ⟨grown_block r2 h.blk (fun e => h.ne e.symm), (h.own.farMap r2 hb).tight, ⟨_, r1, fun f' t' hf' ht' => ?_⟩, h.lowN, h.lowM, h.nine⟩, r2⟩
  by_cases e : f' = f ∧ t' = t
  · obtain ⟨rfl, rfl⟩ := e
    rw [has_put_same hmap (linkLaw.key (keyOf_link hf ht))]
    simp [parts]
  · rw [has_put_other (fun e' => e (lk_inj hf' ht' hf ht e'))]
    have : (decide (f' = f) && decide (t' = t)) = false := by
      by_cases h1 : f' = f
      · have h2 : ¬ t' = t := fun h2 => e ⟨h1, h2⟩
        simp [h2]
      · simp [h1]
    rw [hS f' t' hf' ht', parts, this, Bool.false_or]
set_option maxHeartbeats 4000000 in
theorem part_no (f t : Int) (hL : isL f t = false) :
    Calls Try.prog 27 #[.pointer (some ⟨N, 0, none⟩), .int .i64 f, .int .i64 t] w fun e w' => e = .returned (.int .i64 2) ∧ Below w.heap.size w w' := by
  have h0 := heap_new w (.cells #[.int .i64 f, .int .i64 t] 56)
  have c0 := box_cell h0 0 _ rfl
  have c1 := box_cell h0 1 _ rfl
  have bA := hide (show Below w.heap.size w (w.alloc (.cells #[.int .i64 f, .int .i64 t] 56)) from (Below.refl _ _).alloc (Nat.le_refl _) _)
  clear h0
  go_enter Try.func27, Try.ntmps27
  go_wp2_with fail
  refine (isLink_calls f t _).mono ?_
  rintro e W1 ⟨rfl, b1⟩
  have B1 := hide ((unhide bA).trans (b1.mono (unhide bA).size))
  rw [hL]
  clear b1
  go_wp2
  go_ret
  exact ⟨rfl, unhide B1⟩
set_option maxHeartbeats 4000000 in
theorem part_yes (h : NetAt base w N M n sp c xs last S ck) (f t : Int) (hf : In64 f) (ht : In64 t) (hn : n < maxLen) (hx : xs.length ≤ 1000) (hL : isL f t = true) :
    Calls Try.prog 27 #[.pointer (some ⟨N, 0, none⟩), .int .i64 f, .int .i64 t] w fun e w' => e = .returned (.int .i64 0) ∧ NetAt base w' N M (n + 1) sp c (keep (ofLink f t) xs) last (parts S f t) ck ∧ NGrew N M w sp w' sp := by
  have h0 := heap_new w (.cells #[.int .i64 f, .int .i64 t] 56)
  have X0 := hide h0
  have c0 := box_cell h0 0 _ rfl
  have c1 := box_cell h0 1 _ rfl
  have bA := hide (show Below w.heap.size w (w.alloc (.cells #[.int .i64 f, .int .i64 t] 56)) from (Below.refl _ _).alloc (Nat.le_refl _) _)
  have H := hide h
  have hmf : ∀ (fn : Fn) (first cap : Array Value) (w : World), (Instr.makeFunc fn first cap).run Try.prog w = .ok (.func fn first cap) w := fun _ _ _ _ => rfl
  clear h0 h
  go_enter Try.func27, Try.ntmps27
  go_wp2_with fail
  refine (isLink_calls f t _).mono ?_
  rintro e W1 ⟨rfl, b1⟩
  have B1 := hide ((unhide bA).trans (b1.mono (unhide bA).size))
  have X1 := hide (later_block b1 (unhide X0))
  have H1 := hide ((unhide H).later (unhide B1))
  rw [hL]
  clear b1 c0 c1 bA X0
  have d0 := box_cell (unhide X1) 0 _ rfl
  have d1 := box_cell (unhide X1) 1 _ rfl
  have e2 := (unhide H1).c2
  obtain ⟨W2, hrun, h2, g2⟩ := (unhide H1).drew.store f t hf ht hn
  have H2 := hide h2
  have G2 := hide (show W1.grownBy W2 (some M) from ⟨g2.os, g2.tape, g2.output, g2.size, g2.block⟩)
  have hM : w.heap.size ≠ M := by
    intro e
    obtain ⟨D, ⟨es, clock, hb, _⟩, _⟩ := (unhide H1).map
    rw [← e, unhide X1] at hb
    simp at hb
  have X2 := hide (grown_block (unhide G2) (unhide X1) hM)
  have hlt := hide (show ∀ g, blk sp = some g → g < w.heap.size from fun g hg => ((unhide H).own.blk_ge g hg).2)
  clear h2 g2 hM
  go_wp2_with fail
  go_region
  go_wp2_with fail
  refine (lose_calls (unhide H2) hx (part_picks w.heap.size f t) (unhide X2) (fun e => by have := unhide hlt _ e; omega)).mono ?_
  rintro e W3 ⟨rfl, h3, g3⟩
  have H3 := hide h3
  have G3 := hide (((NGrew.ofBelow (N := N) (M := M) (sp := sp) (unhide B1)).trans (NGrew.ofM (unhide G2))).trans g3)
  clear h3 g3
  go_wp2
  go_ret
  exact ⟨rfl, unhide H3, unhide G3⟩
end
end Go.Proofs.Yticemhnfcelpmaa
