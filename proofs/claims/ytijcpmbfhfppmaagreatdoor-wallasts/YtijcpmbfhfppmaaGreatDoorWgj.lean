/- Logs: blocks that lie aside may be written while a log stays; entries told by their indices. -/
import Derived.Test.YtijcpmbfhfppmaaGreatDoorWpc
import Derived.Test.YtijcpmbfhfppmaaGreatDoorWge
import Derived.Test.YtijcpmbfhfppmaaGreatDoorWgn
import Derived.Test.YtijcpmbfhfppmaaGreatDoorApi
namespace Go.Proofs.YtijcpmbfhfppmaaGreatDoor
open Go.ChangeShapes Go.WideShapes Go.ChangeAt Go.RowKit
set_option linter.unusedVariables false
section
variable {Av : Nat → Prop} {base : Nat} {w w' : World} {L d M room N N' : Nat} {ss ss' : Ds} {c : Wc} {n : Nat} {ep : Option Addr} {ec : Nat} {hs : List (Option Addr × Nat)}
theorem WAt.grow (z : WAt Av base w L d M room N ss c n ep ec hs) (h1 : ∀ g, g < w.heap.size → ¬ Av g → w'.heap[g]? = w.heap[g]?) (hb : Below base w w') : WAt (fun g => Av g ∨ (w.heap.size ≤ g ∧ g < w'.heap.size)) base w' L d M room N ss c n ep ec hs := by
  have hL : w'.heap[L]? = w.heap[L]? := h1 L z.ltL (fun ha => (z.av L ha).1 rfl)
  refine ⟨(z.dk.grow (fun g hg hn => h1 g hg (fun ha => hn (.inl ha))) hb.size).av (fun g hg => ?_), z.lg.same hL, z.ow.same (fun g hg => h1 g (z.ow.foot g hg).2.1 (fun ha => (z.av g ha).2 hg)), z.bl, fun g hg => ?_, z.ok, z.nn, z.le, let ⟨w0, q1, q2, q3⟩ := z.tz; ⟨w0, q1, q2, q3.trans hb⟩⟩
  · rcases hg with (hg | hg) | hg | hg
    · exact .inl (.inl hg)
    · exact .inr hg
    · exact .inl (.inr (.inl hg))
    · exact .inl (.inr (.inr hg))
  · rcases hg with hg | hg
    · exact z.av g hg
    · refine ⟨fun e => ?_, fun hf => ?_⟩
      · have := z.ltL; omega
      · have := (z.ow.foot g hf).2.1; omega
theorem OwnI.asd {sp : Option Addr} {k : Nat} {l : List Int} (h : OwnI base w sp k l) (ha : Asd Av base w w') (hp : ∀ g, blk sp = some g → Av g) : OwnI base w' sp k l := by
  refine ⟨⟨h.owns.1, ?_⟩, h.bd⟩
  rcases h.owns.2 with hv | ⟨g, cap, cur, hv, hbg, hgg, r⟩
  · exact .inl hv
  · refine .inr ⟨g, cap, cur, hv, hbg, (ha.av g (hp g ?_)).trans hgg, r⟩
    simp only [Value.slice.injEq] at hv
    rw [hv.1]
    rfl
theorem OwnL.asd {sp : Option Addr} {k : Nat} {es : List EntN} {hs2 : List (Option Addr × Nat)} {b2 : Nat} (h : OwnL b2 w sp k es hs2) (ha : Asd Av base w w') (hp : ∀ g, LFoot sp hs2 g → Av g) : OwnL b2 w' sp k es hs2 := h.same (fun g hg => ha.av g (hp g hg))
/-- A log's own entries, as an argument. -/
theorem OwnL.in_ {P : Nat → Prop} {sp : Option Addr} {k : Nat} {es : List EntN} {hs2 : List (Option Addr × Nat)} {b2 : Nat} (h : OwnL b2 w sp k es hs2) (hp : ∀ g, LFoot sp hs2 g → P g) : EntsIn P w sp (es.map toI) := by
  refine ⟨h.ents, fun b off e h0 => hp b (.inl (by rw [e]; rfl)), fun i hi b off dp dc m e hc g o e1 h0 => ?_⟩
  have hi' : i < es.length := by simpa using hi
  have hh : i < hs2.length := by rw [h.len]; exact hi'
  rcases h.row.2 with ⟨hv, h1⟩ | ⟨g', cap, cur, hv, hb, hg, hle, hmx, hsz, ht⟩
  · omega
  · simp only [Value.slice.injEq] at hv
    obtain ⟨rfl, _, rfl⟩ := hv
    simp only [Option.some.injEq, Addr.mk.injEq, and_true] at e
    obtain ⟨rfl, rfl⟩ := e
    have hk := rowsV_get es hs2 i 3 hi' hh (by omega)
    rw [Nat.zero_add, cell_of_row w g' _ cur _ _ hg, ← Array.getElem?_toList] at hc
    have hj : i * 4 + 3 < es.length * 4 := by omega
    rw [← ht, List.getElem?_take, if_pos hj, hc] at hk
    have hk2 : (entRow es[i] hs2[i])[3]? = some (.slice hs2[i].1 es[i].2.2.2.length hs2[i].2) := rfl
    rw [hk2] at hk
    simp only [Option.some.injEq, Value.slice.injEq] at hk
    refine hp g (.inr ⟨hs2[i], List.getElem_mem hh, ?_⟩)
    rw [← hk.1, e1]
    rfl
theorem fromTo_all {c : Wc} (hi : Ix c) {i j : Int} (h1 : i ≤ (c.bi : Int) + 1) (h2 : ((c.bi + c.es.length : Nat) : Int) ≤ j) : fromTo c.es i j = c.es := by
  unfold fromTo
  refine List.filter_eq_self.2 fun e he => ?_
  obtain ⟨k, hk, rfl⟩ := List.getElem_of_mem he
  have := hi k hk
  rw [Bool.and_eq_true, decide_eq_true_eq, decide_eq_true_eq]
  omega
end
end Go.Proofs.YtijcpmbfhfppmaaGreatDoor
