/- Flight: what Under told may be changed; Take, in one form. -/
import Derived.Test.YtmmgajmgklipaaaPly
namespace Go.Proofs.Ytmmgajmgklipaaa
open Go.ChangeShapes Go.WideShapes Go.ChangeAt Go.RowKit Go.Maps

/-- Packets that were told: their row's bytes from the ib-th on, and their own bytes from the id-th on, are as they were. -/
structure URest (b0 : Nat) (w : World) (g : Nat) (ys : List (Pkt × Hdl)) (ib id : Nat) : Prop where
  blk : ∃ cur : List Value, w.heap[g]? = some (.cells cur.toArray 40 (0, 0)) ∧ ys.length * 4 ≤ cur.length ∧ ∀ k (hk : k < ys.length), ib ≤ k → cur[k * 4 + 3]? = some (.slice ys[k].2.1 ys[k].1.2.2.2.length ys[k].2.2)
  dat : ∀ k (hk : k < ys.length), id ≤ k → OwnB b0 w ys[k].2.1 ys[k].2.2 ys[k].1.2.2.2
  low : b0 ≤ g
section
variable {b0 : Nat} {w w' : World} {g : Nat} {ys : List (Pkt × Hdl)} {ib id : Nat}
theorem urest_of {top : Nat} {us : Option Addr} {uc : Nat} (h : OwnP b0 top w us uc ys) : 0 < ys.length → ∃ g, us = some ⟨g, 0, none⟩ ∧ URest b0 w g ys 0 0 := by
  intro h0
  rcases h.row.2 with ⟨_, e⟩ | ⟨g, cap, cur, hv, hb, hg, hle, _, hsz, ht⟩
  · omega
  · simp only [Value.slice.injEq] at hv
    obtain ⟨rfl, _, _⟩ := hv
    obtain ⟨cl⟩ := cur
    have hsz1 : cl.length = cap * 4 := hsz
    have ht1 : cl.take (ys.length * 4) = rowsP ys := ht
    refine ⟨g, rfl, ⟨cl, hg, by omega, fun k hk _ => ?_⟩, fun k hk _ => (h.dat.own _ (List.getElem_mem hk)).1, hb⟩
    have e := rowsP_get ys k 3 hk (by omega)
    rw [← ht1, List.getElem?_take, if_pos (by omega)] at e
    rw [e]
    rfl
theorem URest.c3 (h : URest b0 w g ys ib id) (k : Nat) (hk : k < ys.length) (hi : ib ≤ k) : w.cell? ⟨g, k * 4 + 3, none⟩ = some (.slice ys[k].2.1 ys[k].1.2.2.2.length ys[k].2.2) := by
  obtain ⟨cur, hg, _, hc⟩ := h.blk
  exact box_cell hg _ _ (by simpa using hc k hk hi)
theorem URest.cx (h : URest b0 w g ys ib id) (k : Nat) (hk : k < ys.length) (c : Nat) (hc : c < 4) : ∃ v, w.cell? ⟨g, k * 4 + c, none⟩ = some v := by
  obtain ⟨cur, hg, hl, _⟩ := h.blk
  have hlt : k * 4 + c < cur.length := by omega
  exact ⟨cur[k * 4 + c], box_cell hg _ _ (by simp [hlt])⟩
theorem URest.fz (h : URest b0 w g ys ib id) (k : Nat) : w.frozen? ⟨g, k, none⟩ = false := by
  obtain ⟨cur, hg, _, _⟩ := h.blk
  exact box_free hg k
theorem URest.far (h : URest b0 w g ys ib id) {o : Option Nat} (hg : w.grownBy w' o) (h1 : o ≠ some g) (h2 : ∀ k (hk : k < ys.length), id ≤ k → ∀ x, Go.Proofs.Ytmmgajmgklipaaa.blk ys[k].2.1 = some x → o ≠ some x) : URest b0 w' g ys ib id := by
  obtain ⟨cur, hb, hl, hc⟩ := h.blk
  exact ⟨⟨cur, (hg.block g (Array.getElem?_eq_some_iff.1 hb).1 (fun e => h1 e.symm)).trans hb, hl, hc⟩, fun k hk hi => (h.dat k hk hi).grownNe hg (h2 k hk hi), h.low⟩
theorem URest.later (h : URest b0 w g ys ib id) (hb : Below w.heap.size w w') : URest b0 w' g ys ib id := by
  obtain ⟨cur, hg, hl, hc⟩ := h.blk
  exact ⟨⟨cur, later_block hb hg, hl, hc⟩, fun k hk hi => (h.dat k hk hi).later hb, h.low⟩
theorem URest.next (h : URest b0 w g ys ib id) : URest b0 w g ys (ib + 1) (id + 1) := by
  obtain ⟨cur, hg, hl, hc⟩ := h.blk
  exact ⟨⟨cur, hg, hl, fun k hk hi => hc k hk (by omega)⟩, fun k hk hi => h.dat k hk (by omega), h.low⟩
theorem URest.nextD (h : URest b0 w g ys ib id) : URest b0 w g ys ib (id + 1) := ⟨h.blk, fun k hk hi => h.dat k hk (by omega), h.low⟩
theorem URest.setRow (h : URest b0 w g ys ib id) (j c : Nat) (hc4 : c < 4) (v : Value) (hj : j + 1 = id) : URest b0 (w.setCell ⟨g, j * 4 + c, none⟩ v) g ys (j + 1) id ∨ j + 1 < ib := by
  by_cases hib : j + 1 < ib
  · exact .inr hib
  · left
    obtain ⟨cur, hg, hl, hc⟩ := h.blk
    have hgs := grown_set w g (j * 4 + c) v
    refine ⟨⟨cur.set (j * 4 + c) v, row_set hg _ _, by rw [List.length_set]; exact hl, fun k hk hi => ?_⟩, fun k hk hi => (h.dat k hk hi).grownNe hgs (fun x hx e => ?_), h.low⟩
    · rw [List.getElem?_set_ne (by omega)]
      exact hc k hk (by omega)
    · exact (h.dat k hk hi).ne_block hg (by decide) (hx.trans e.symm)
end
section
variable {base : Nat} {w : World} {N M R : Nat} {s r : FS} {Av : Nat → Prop}
def takeP (s : FS) (i : Int) : Pkt := if hasL s.pk.length i = true then s.nth i else (0, 0, 0, [])
def takeX (s : FS) (i : Int) : Nat := if hasL s.pk.length i = true then 0 else 8
theorem two_takeW (h : Two base w N M R s r Av) (ha : s.age ≤ 900) (i : Int) :
    Calls Try.prog 19 #[.pointer (some ⟨N, 0, none⟩), .int .i64 i] w fun e w' => ∃ hd : Hdl, e = .returned (.tuple #[pkV (takeP s i, hd), .int .i64 (takeX s i : Nat)]) ∧ OwnB base w' hd.1 hd.2 (takeP s i).2.2.2 ∧ Two base w' N M R (takeS s i) r (fun g => Av g ∨ blk hd.1 = some g) ∧ Below base w w' := by
  cases hi : hasL s.pk.length i
  · have e1 : takeP s i = (0, 0, 0, []) := by unfold takeP; rw [hi]; rfl
    have e2 : takeX s i = 8 := by unfold takeX; rw [hi]; rfl
    rw [e1, e2]
    refine (two_take_no h i hi).mono ?_
    rintro e w' ⟨rfl, h1, g1⟩
    exact ⟨(none, 0), rfl, OwnB.ofNil _ _, h1.weaken (fun g hg => hg.elim id (fun e => by cases e)), g1.bel⟩
  · have e1 : takeP s i = s.nth i := by unfold takeP; rw [hi]; rfl
    have e2 : takeX s i = 0 := by unfold takeX; rw [hi]; rfl
    rw [e1, e2]
    refine (two_take_yes h ha i hi).mono ?_
    rintro e w' ⟨hd, rfl, h0, h1, g1⟩
    exact ⟨hd, rfl, h0, h1, g1.bel⟩
theorem two_rtakeW (h : Two base w N M R s r Av) (ha : r.age ≤ 900) (i : Int) :
    Calls Try.prog 34 #[.pointer (some ⟨R, 0, none⟩), .int .i64 i] w fun e w' => ∃ hd : Hdl, e = .returned (.tuple #[pkV (takeP r i, hd), .int .i64 (takeX r i : Nat)]) ∧ OwnB base w' hd.1 hd.2 (takeP r i).2.2.2 ∧ Two base w' N M R s (takeS r i) Av ∧ Stp base RX Av w w' := by
  cases hi : hasL r.pk.length i
  · have e1 : takeP r i = (0, 0, 0, []) := by unfold takeP; rw [hi]; rfl
    have e2 : takeX r i = 8 := by unfold takeX; rw [hi]; rfl
    rw [e1, e2]
    refine (two_rtake_no h ha i hi).mono ?_
    rintro e w' ⟨rfl, h1, g1⟩
    exact ⟨(none, 0), rfl, OwnB.ofNil _ _, h1, g1⟩
  · have e1 : takeP r i = r.nth i := by unfold takeP; rw [hi]; rfl
    have e2 : takeX r i = 0 := by unfold takeX; rw [hi]; rfl
    rw [e1, e2]
    refine (two_rtake_yes h ha i hi).mono ?_
    rintro e w' ⟨hd, rfl, h0, h1, g1⟩
    exact ⟨hd, rfl, h0, h1, g1⟩
/-- What was doubled is the last one. -/
theorem doubled_last (s : FS) (h : (dblR s 0).2 = 0) : takeX (dblS s 0) (((dblS s 0).pk.length : Int) - 1) = 0 ∧ (takeP (dblS s 0) (((dblS s 0).pk.length : Int) - 1)).1 = (dblR s 0).1 := by
  have hX : dblX s.pk.length 0 = 0 := by
    unfold dblR at h
    split at h
    · assumption
    · exact h
  have e1 : dblS s 0 = s.put (s.nth 0).2.1 (s.nth 0).2.2.1 (s.nth 0).2.2.2 := by unfold dblS; rw [if_pos hX]
  have e2 : dblR s 0 = ((s.tot : Int) + 1, 0) := by unfold dblR; rw [if_pos hX]
  rw [e1, e2]
  generalize (s.nth 0).2.1 = f
  generalize (s.nth 0).2.2.1 = t
  generalize (s.nth 0).2.2.2 = l
  have hl : (s.put f t l).pk.length = s.pk.length + 1 := by simp [FS.put]
  have hi : (((s.put f t l).pk.length : Int) - 1) = (s.pk.length : Int) := by rw [hl]; omega
  have hh : hasL (s.put f t l).pk.length (s.pk.length : Int) = true := by rw [hl]; simp [hasL]; omega
  rw [hi]
  unfold takeX takeP
  rw [if_pos hh, if_pos hh]
  refine ⟨rfl, ?_⟩
  rw [FS.nth_mem _ s.pk.length (by omega)]
  simp [FS.put]
end
end Go.Proofs.Ytmmgajmgklipaaa
