/- Flight: lose, Part. -/
import Derived.Test.YtiapcpcdhonefaaFl9
namespace Go.Proofs.Ytiapcpcdhonefaa
open Go.ChangeShapes Go.WideShapes Go.ChangeAt Go.RowKit Go.Maps

section
variable {base : Nat} {w : World} {N M n : Nat} {sp : Option Addr} {c : Nat} {xs : List (Pkt × Hdl)} {last : Int} {S : Int → Int → Bool} {ck : List Int}
theorem net_grownRow {w' : World} {sp' : Option Addr} {c' top : Nat} {xs' : List (Pkt × Hdl)} (h : NetAt base w N M n sp c xs last S ck) (hg : w.grownBy w' (blk sp)) (ho : OwnP base top w' sp' c' xs') : NetAt base (w'.setCell ⟨N, 0, none⟩ (.slice sp' xs'.length c')) N M n sp' c' xs' last S ck := by
  obtain ⟨D, ⟨es, clock, hb, r⟩, hS⟩ := h.map
  exact h.setRow (hg.block N h.ltN (fun e => h.own.ne_block h.blk (by decide) e.symm)) (hg.block M (Array.getElem?_eq_some_iff.1 hb).1 (fun e => h.own.ne_map hb e.symm)) ho
set_option maxHeartbeats 2000000 in
theorem lose_calls (h : NetAt base w N M n sp c xs last S ck) (hx : xs.length ≤ 1000) {K : Nat} {caps : Array Value} {pick : Pkt → Bool} {B : Nat} {ob : Obj} (hK : Picker K caps pick B ob) (hB : w.heap[B]? = some ob) (hBr : blk sp ≠ some B) :
    Calls Try.prog 19 #[.pointer (some ⟨N, 0, none⟩), .func (.func K) #[] caps] w fun e w' => e = .returned (.tuple #[]) ∧ NetAt base w' N M n sp c (keep pick xs) last S ck ∧ NGrew N M w sp w' sp := by
  have c0 := h.c0
  have f0 := h.fz 0
  have H := hide h
  have HK := hide hK
  have HB := hide hB
  have HBr := hide hBr
  clear h hK hB hBr
  go_enter Try.func19, Try.ntmps19
  go_wp2_with fail
  refine (deleteFunc_calls (unhide H).own hx (unhide HK) (unhide HB) (unhide HBr)).mono ?_
  rintro e W1 ⟨rfl, ho, hg⟩
  have H1 := hide (net_grownRow (unhide H) hg ho)
  have N1 := hide (hg.block N (unhide H).ltN (fun e => (unhide H).own.ne_block (unhide H).blk (by decide) e.symm) |>.trans (unhide H).blk)
  have d0 := box_cell (unhide N1) 0 (.slice sp xs.length c) (by simp)
  have g0 := box_free (unhide N1) 0
  have G1 := hide ((NGrew.ofRow (N := N) (M := M) (sp' := sp) hg (fun g hg => .inl hg)).trans (NGrew.ofN (grown_set W1 N 0 (.slice sp (keep pick xs).length c))))
  clear ho hg c0 f0
  go_wp2
  go_end0
  exact ⟨rfl, unhide H1, unhide G1⟩
def parts (S : Int → Int → Bool) (f t : Int) : Int → Int → Bool := fun f' t' => (decide (f' = f) && decide (t' = t)) || S f' t'
theorem NetAt.store (h : NetAt base w N M n sp c xs last S ck) (f t : Int) (hf : In64 f) (ht : In64 t) (hn : n < maxLen) : ∃ w', (Instr.mapUpdate 41 (.map (some M)) (.agg #[.int .i64 f, .int .i64 t]) (.agg #[])).run Try.prog w = .ok () w' ∧ NetAt base w' N M (n + 1) sp c xs last (parts S f t) ck ∧ w.grownBy w' (some M) := by
  obtain ⟨D, hD, hS⟩ := h.map
  obtain ⟨w', hrun, r1, r2⟩ := hD.update linkLaw Try.underlying41 hn (keyOf_link hf ht) (unitElem_mk (H := Unit))
  have hmap := hD.isMap
  obtain ⟨es, clock, hb, _⟩ := hD
  refine ⟨w', hrun, ⟨grown_block r2 h.blk (fun e => h.ne e.symm), (h.own.farMap r2 hb).tight, ⟨_, r1, fun f' t' hf' ht' => ?_⟩, h.lowN, h.lowM, h.nine⟩, r2⟩
  by_cases e : f' = f ∧ t' = t
  · obtain ⟨rfl, rfl⟩ := e
    rw [has_put_same hmap (linkLaw.key (keyOf_link hf ht))]
    simp [parts]
  · rw [has_put_other (fun e' => e (lk_inj hf' ht' hf ht e'))]
    have : (decide (f' = f) && decide (t' = t)) = false := by
      by_cases h1 : f' = f
      · have h2 : ¬ t' = t := fun h2 => e ⟨h1, h2⟩
        simp [h2]
      · simp [h1]
    rw [hS f' t' hf' ht', parts, this, Bool.false_or]
end
end Go.Proofs.Ytiapcpcdhonefaa
