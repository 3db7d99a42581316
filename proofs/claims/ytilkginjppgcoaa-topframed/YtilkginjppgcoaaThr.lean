/- Three rows of the call's own, of bytes, numbers and messages: one grows, the others stay. -/
import Derived.Test.YtilkginjppgcoaaCat
import Derived.Test.YtilkginjppgcoaaMrow
import Derived.Test.YtilkginjppgcoaaWox
namespace Go.Proofs.Ytilkginjppgcoaa
open Go.ChangeShapes Go.WideShapes Go.ChangeAt Go.RowKit

section
variable {base : Nat} {w w' : World} {sb : Option Addr} {cb : Nat} {lb : List Nat} {si : Option Addr} {ci : Nat} {li : List Int} {sm : Option Addr} {cm : Nat} {lm : List MI}
theorem OwnB.isT (h : OwnB base w sb cb lb) : ∀ g, blk sb = some g → base ≤ g ∧ ∃ cur : Array Value, w.heap[g]? = some (.cells cur 5 (0, 0)) := by
  intro g hg
  rcases h.owns.2 with ⟨hv, _⟩ | ⟨g1, cap, cur, hv, hb, hh, _⟩
  · simp only [Value.slice.injEq] at hv
    rw [hv.1] at hg
    cases hg
  · simp only [Value.slice.injEq] at hv
    rw [hv.1] at hg
    obtain rfl : g1 = g := by simpa [blk] using hg
    exact ⟨hb, cur, hh⟩
theorem OwnI.isT (h : OwnI base w si ci li) : ∀ g, blk si = some g → base ≤ g ∧ ∃ cur : Array Value, w.heap[g]? = some (.cells cur 3 (0, 0)) := by
  intro g hg
  rcases h.owns.2 with ⟨hv, _⟩ | ⟨g1, cap, cur, hv, hb, hh, _⟩
  · simp only [Value.slice.injEq] at hv
    rw [hv.1] at hg
    cases hg
  · simp only [Value.slice.injEq] at hv
    rw [hv.1] at hg
    obtain rfl : g1 = g := by simpa [blk] using hg
    exact ⟨hb, cur, hh⟩
/-- Bytes, numbers, messages, each with its room. -/
structure Three (base : Nat) (w : World) (sb : Option Addr) (cb : Nat) (lb : List Nat) (si : Option Addr) (ci : Nat) (li : List Int) (sm : Option Addr) (cm : Nat) (lm : List MI) : Prop where
  b : OwnB base w sb cb lb
  i : OwnI base w si ci li
  m : PutM base w sm cm lm
theorem Three.later (h : Three base w sb cb lb si ci li sm cm lm) (hb : Below w.heap.size w w') : Three base w' sb cb lb si ci li sm cm lm := ⟨h.b.later hb, h.i.later hb, h.m.later hb⟩
theorem ne_bi (h : Three base w sb cb lb si ci li sm cm lm) : ∀ g, blk sb = some g → blk si ≠ some g := fun g h1 h2 => by
  obtain ⟨_, c1, e1⟩ := h.b.isT g h1
  obtain ⟨_, c2, e2⟩ := h.i.isT g h2
  rw [e1] at e2; simp at e2
theorem ne_bm (h : Three base w sb cb lb si ci li sm cm lm) : ∀ g, blk sb = some g → blk sm ≠ some g := fun g h1 h2 => by
  obtain ⟨_, c1, e1⟩ := h.b.isT g h1
  obtain ⟨_, c2, e2⟩ := h.m.isMsgs g h2
  rw [e1] at e2; simp at e2
theorem ne_im (h : Three base w sb cb lb si ci li sm cm lm) : ∀ g, blk si = some g → blk sm ≠ some g := fun g h1 h2 => by
  obtain ⟨_, c1, e1⟩ := h.i.isT g h1
  obtain ⟨_, c2, e2⟩ := h.m.isMsgs g h2
  rw [e1] at e2; simp at e2
theorem Three.putB (h : Three base w sb cb lb si ci li sm cm lm) {sb' : Option Addr} {cb' : Nat} {lb' : List Nat} (ho : OwnB base w' sb' cb' lb') (hg : w.grownBy w' (blk sb)) : Three base w' sb' cb' lb' si ci li sm cm lm :=
  ⟨ho, h.i.kept hg (fun g h1 h2 => ne_bi h g h2 h1), h.m.kept hg (fun g h1 h2 => ne_bm h g h2 h1)⟩
theorem Three.putI (h : Three base w sb cb lb si ci li sm cm lm) {si' : Option Addr} {ci' : Nat} {li' : List Int} (ho : OwnI base w' si' ci' li') (hg : w.grownBy w' (blk si)) : Three base w' sb cb lb si' ci' li' sm cm lm :=
  ⟨h.b.grownNe hg (fun g h1 h2 => ne_bi h g h1 h2), ho, h.m.kept hg (fun g h1 h2 => ne_im h g h2 h1)⟩
theorem Three.putM (h : Three base w sb cb lb si ci li sm cm lm) {sm' : Option Addr} {cm' : Nat} {lm' : List MI} (ho : PutM base w' sm' cm' lm') (hg : w.grownBy w' (blk sm)) : Three base w' sb cb lb si ci li sm' cm' lm' :=
  ⟨h.b.grownNe hg (fun g h1 h2 => ne_bm h g h1 h2), h.i.kept hg (fun g h1 h2 => ne_im h g h1 h2), ho⟩
end
/-- These are a message's bytes. -/
def Puts (m : MI) (h : List Nat) : Prop := ∃ kd fr to t ix lt cm hi ro : Nat, ∃ es : List EntN, (m.kd = (kd : Int) ∧ m.fr = (fr : Int) ∧ m.to = (to : Int) ∧ m.t = (t : Int) ∧ m.ix = (ix : Int) ∧ m.lt = (lt : Int) ∧ m.cm = (cm : Int) ∧ m.hi = (hi : Int) ∧ m.ro = (ro : Int)) ∧ m.es = es.map toI ∧ MsgOk kd fr to t ix lt cm hi ro es m.dl ∧ h = msgB kd fr to t ix lt cm hi ro (if m.bo then 1 else 0) es m.dl
structure PutOk (w : World) (hs : List (List Nat)) (ps : List MI) : Prop where
  len : hs.length = ps.length
  ok : ∀ k (h1 : k < hs.length) (h2 : k < ps.length), Puts ps[k] hs[k] ∧ MiAt w ps[k]
  small : ∀ h ∈ hs, h.length ≤ 5000
theorem PutOk.nil (w : World) : PutOk w [] [] := ⟨rfl, fun k h => by simp at h, by simp⟩
theorem PutOk.snoc {w : World} {hs : List (List Nat)} {ps : List MI} {h : List Nat} {m : MI} (H : PutOk w hs ps) (h1 : Puts m h) (h2 : MiAt w m) (h3 : h.length ≤ 5000) : PutOk w (hs ++ [h]) (ps ++ [m]) := by
  refine ⟨by simp [H.len], fun k k1 k2 => ?_, fun x hx => ?_⟩
  · by_cases e : k < hs.length
    · have e' : k < ps.length := by rw [← H.len]; exact e
      rw [List.getElem_append_left e, List.getElem_append_left e']
      exact H.ok k e e'
    · have e1 : k = hs.length := by rw [List.length_append, List.length_singleton] at k1; omega
      have e2 : k = ps.length := by rw [← H.len]; exact e1
      rw [List.getElem_append_right (by omega), List.getElem_append_right (by omega)]
      simp [h1, h2]
  · rcases List.mem_append.1 hx with hx | hx
    · exact H.small x hx
    · obtain rfl : x = h := by simpa using hx
      exact h3
end Go.Proofs.Ytilkginjppgcoaa
