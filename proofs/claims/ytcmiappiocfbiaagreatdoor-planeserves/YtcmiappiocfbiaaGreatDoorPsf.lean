/- Plane: which answers there are (the law PlaneAny). -/
import Derived.Test.YtcmiappiocfbiaaGreatDoorPse
namespace Go.Proofs.YtcmiappiocfbiaaGreatDoor
open Go.ChangeShapes Go.WideShapes Go.ChangeAt Go.RowKit
set_option linter.unusedVariables false

def hitT (pool addr : ByteArray) (p : Po) (t : Tg) : Bool := (p.nm.toList == pool.toList) && (t.1.toList == addr.toList)
def hitP (pool addr : ByteArray) (p : Po) (k : Nat) : Bool := (p.ts.take k).any (hitT pool addr p)
def hitC (pool addr : ByteArray) (ps : List Po) (j : Nat) : Bool := (ps.take j).any (fun p => hitP pool addr p p.ts.length)
theorem hitP_zero (pool addr : ByteArray) (p : Po) : hitP pool addr p 0 = false := by simp [hitP]
theorem hitC_zero (pool addr : ByteArray) (ps : List Po) : hitC pool addr ps 0 = false := by simp [hitC]
theorem hitP_succ (pool addr : ByteArray) (p : Po) (k : Nat) (hk : k < p.ts.length) : hitP pool addr p (k + 1) = (hitP pool addr p k || hitT pool addr p p.ts[k]) := by
  unfold hitP
  rw [List.take_succ_eq_append_getElem hk, List.any_append]
  simp
theorem hitC_succ (pool addr : ByteArray) (ps : List Po) (j : Nat) (hj : j < ps.length) : hitC pool addr ps (j + 1) = (hitC pool addr ps j || hitP pool addr ps[j] ps[j].ts.length) := by
  unfold hitC
  rw [List.take_succ_eq_append_getElem hj, List.any_append]
  simp
/-- Which answers there are. -/
def SvKind (ps : List Po) (rs : List Rt) (r : Int × ByteArray × ByteArray) : Prop :=
  ((r.1 = 400 ∨ r.1 = 404) ∧ r.2.1 = ⟨#[]⟩ ∧ r.2.2 = ⟨#[]⟩) ∨ (rs ≠ [] ∧ r.1 = 503 ∧ r.2.2 = ⟨#[]⟩) ∨ (rs ≠ [] ∧ r.1 = 200 ∧ hitC r.2.1 r.2.2 ps ps.length = true)
theorem serve_kinds (l : List Nat) (rs : List Rt) (ps : List Po) (d : Nat) : SvKind ps rs (serveL l rs ps d) := by
  unfold serveL SvKind
  cases parseL (txN l) with
  | bad n => exact .inl ⟨.inl rfl, rfl, rfl⟩
  | ok h k =>
    dsimp only
    cases hb : bestN (stS h.host) (stS h.path) rs rs.length with
    | none => exact .inl ⟨.inr rfl, rfl, rfl⟩
    | some b =>
      dsimp only
      have hne : rs ≠ [] := by
        rintro rfl
        cases hb
      cases ha : addrN (rs.getD b rt0).l ps d with
      | none => exact .inr (.inl ⟨hne, rfl, rfl⟩)
      | some y =>
        refine .inr (.inr ⟨hne, rfl, ?_⟩)
        dsimp only
        generalize (rs.getD b rt0).l = pool at *
        unfold addrN at ha
        cases hp : poolN pool ps with
        | none => rw [hp] at ha; cases ha
        | some i =>
          rw [hp] at ha
          dsimp only at ha
          unfold poolN at hp
          rw [List.findIdx?_eq_some_iff_getElem] at hp
          obtain ⟨hi, hn, _⟩ := hp
          rw [po_at ps i hi] at ha
          cases hw : weighN ps[i].ts d with
          | none => rw [hw] at ha; cases ha
          | some j =>
            rw [hw] at ha
            have hj := weigh_lt _ _ _ hw
            have ha' := Option.some.inj ha
            rw [List.getD_eq_getElem?_getD, List.getElem?_eq_getElem hj, Option.getD_some] at ha'
            unfold hitC
            rw [List.take_length, List.any_eq_true]
            refine ⟨ps[i], List.getElem_mem hi, ?_⟩
            unfold hitP
            rw [List.take_length, List.any_eq_true]
            refine ⟨ps[i].ts[j], List.getElem_mem hj, ?_⟩
            unfold hitT
            rw [hn, ha']
            simp
theorem serve_sz {w : World} {e : Cf} {h : CfH} (hc : CfAt w e h) (l : List Nat) (d : Nat) : (serveL l e.rs e.ps d).2.1.size ≤ maxLen := by
  unfold serveL
  cases parseL (txN l) with
  | bad n => exact (by decide : (⟨#[]⟩ : ByteArray).size ≤ maxLen)
  | ok h k =>
    dsimp only
    cases hb : bestN (stS h.host) (stS h.path) e.rs e.rs.length with
    | none => exact (by decide : (⟨#[]⟩ : ByteArray).size ≤ maxLen)
    | some b =>
      have hl := bestN_lt _ _ _ _ _ hb
      have hs : (e.rs.getD b rt0).l.size ≤ maxLen := by rw [rt_at _ _ hl]; exact (hc.rts.sz _ (List.getElem_mem hl)).2.2
      dsimp only
      cases addrN (e.rs.getD b rt0).l e.ps d with
      | none => exact hs
      | some y => exact hs
/-- A configuration in its box, and a plane beside. -/
structure BoAt (w : World) (e : Cf) (h : CfH) (P base : Nat) (f : Cf) (k : CfH) (W : World) : Prop where
  r0 : W.heap[w.heap.size]? = some (.cells #[.int .i64 e.ver, .slice h.ra e.rs.length h.rc, .slice h.pa e.ps.length h.pc] 28 (0, 0))
  p : PlOwn base W P f k
  hP : w.heap.size + 1 ≤ P
  bel : Below w.heap.size w W
section
variable {w W W' : World} {e : Cf} {h : CfH} {P base : Nat} {f : Cf} {k : CfH}
theorem BoAt.later (z : BoAt w e h P base f k W) (u : Below W.heap.size W W') : BoAt w e h P base f k W' := ⟨later_block u z.r0, z.p.later u, z.hP, z.bel.trans (u.mono z.bel.size)⟩
theorem BoAt.drew (z : BoAt w e h P base f k W) : BoAt w e h P base f k W.drew := z.later ((Below.refl _ _).drew)
theorem BoAt.cells (z : BoAt w e h P base f k W) : W.cell? ⟨w.heap.size, 0, none⟩ = some (.int .i64 e.ver) ∧ W.cell? ⟨w.heap.size, 1, none⟩ = some (.slice h.ra e.rs.length h.rc) ∧ W.cell? ⟨w.heap.size, 2, none⟩ = some (.slice h.pa e.ps.length h.pc) :=
  ⟨box_cell z.r0 0 _ rfl, box_cell z.r0 1 _ rfl, box_cell z.r0 2 _ rfl⟩
theorem applyB_calls (z : BoAt w e h P base f k W) {c : Cf} {l : CfH} (hc : CfAt W c l) (hs : shortC c = true) (hv : f.ver < c.ver) :
    Calls Tryz.prog 9 #[.pointer (some ⟨P, 0, none⟩), cfVal c l] W fun r W' => r = .returned (.int .i64 0) ∧ ∃ h', BoAt w e h P W.heap.size c h' W' ∧ W.grownBy W' (some P) := by
  obtain ⟨h1, h2, h3⟩ := short_each hs
  refine (apply_calls z.p hc (by omega) (by omega) (fun y hy => by have := h3 y hy; omega)).mono ?_
  rintro r W' ⟨⟨hn, _⟩ | ⟨_, rfl, h', ho⟩, g⟩
  · omega
  · have hlt := (Array.getElem?_eq_some_iff.1 z.r0).1
    exact ⟨rfl, h', ⟨(g.block _ hlt (fun e => by have := Option.some.inj e; have := z.hP; omega)).trans z.r0, ho, z.hP, z.bel.grown g z.bel.size (fun j e => by have := Option.some.inj e; have := z.hP; omega)⟩, g⟩
theorem applyBO_calls (z : BoAt w e h P base f k W) {c : Cf} {l : CfH} (hc : CfAt W c l) (hs : shortC c = true) (hv : c.ver ≤ f.ver) :
    Calls Tryz.prog 9 #[.pointer (some ⟨P, 0, none⟩), cfVal c l] W fun r W' => r = .returned (.int .i64 12) ∧ BoAt w e h P base f k W' ∧ W.grownBy W' (some P) := by
  obtain ⟨h1, h2, h3⟩ := short_each hs
  refine (apply_calls z.p hc (by omega) (by omega) (fun y hy => by have := h3 y hy; omega)).mono ?_
  rintro r W' ⟨⟨_, rfl, ho⟩ | ⟨hn, _⟩, g⟩
  · have hlt := (Array.getElem?_eq_some_iff.1 z.r0).1
    exact ⟨rfl, ⟨(g.block _ hlt (fun e => by have := Option.some.inj e; have := z.hP; omega)).trans z.r0, ho, z.hP, z.bel.grown g z.bel.size (fun j e => by have := Option.some.inj e; have := z.hP; omega)⟩, g⟩
  · omega
end
end Go.Proofs.YtcmiappiocfbiaaGreatDoor
