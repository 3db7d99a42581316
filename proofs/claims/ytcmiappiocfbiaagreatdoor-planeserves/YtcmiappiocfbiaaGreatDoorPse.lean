/- Plane: three boxes that stay while other things are done (the law PlaneSame). -/
import Derived.Test.YtcmiappiocfbiaaGreatDoorPsd
import Derived.Test.YtcmiappiocfbiaaGreatDoorPlj
namespace Go.Proofs.YtcmiappiocfbiaaGreatDoor
open Go.ChangeShapes Go.WideShapes Go.ChangeAt Go.RowKit
set_option linter.unusedVariables false

/-- Two configurations and a deed in their boxes. -/
structure SmAt (w : World) (a : Cf) (ha : CfH) (b : Cf) (hb : CfH) (x : Pd) (hx : PdH) (W : World) : Prop where
  r0 : W.heap[w.heap.size]? = some (.cells #[.int .i64 a.ver, .slice ha.ra a.rs.length ha.rc, .slice ha.pa a.ps.length ha.pc] 28 (0, 0))
  r1 : W.heap[w.heap.size + 1]? = some (.cells #[.int .i64 b.ver, .slice hb.ra b.rs.length hb.rc, .slice hb.pa b.ps.length hb.pc] 28 (0, 0))
  r2 : W.heap[w.heap.size + 2]? = some (.cells #[.int .i64 x.kind, .int .i64 x.cf.ver, .slice hx.cf.ra x.cf.rs.length hx.cf.rc, .slice hx.cf.pa x.cf.ps.length hx.cf.pc, .slice hx.ba x.bs.length hx.bc, .float .f64 x.draw] 32 (0, 0))
  bel : Below w.heap.size w W
section
variable {w W W' : World} {a : Cf} {ha : CfH} {b : Cf} {hb : CfH} {x : Pd} {hx : PdH}
theorem SmAt.sz (s : SmAt w a ha b hb x hx W) : w.heap.size + 3 ≤ W.heap.size := (Array.getElem?_eq_some_iff.1 s.r2).1
theorem SmAt.later (s : SmAt w a ha b hb x hx W) (h : Below W.heap.size W W') : SmAt w a ha b hb x hx W' := ⟨later_block h s.r0, later_block h s.r1, later_block h s.r2, s.bel.trans (h.mono s.bel.size)⟩
theorem SmAt.grown (s : SmAt w a ha b hb x hx W) {P : Nat} (h : W.grownBy W' (some P)) (hP : w.heap.size + 3 ≤ P) : SmAt w a ha b hb x hx W' := by
  have z := s.sz
  have k : ∀ j, j < w.heap.size + 3 → W'.heap[j]? = W.heap[j]? := fun j hj => h.block j (by omega) (fun e => by have := Option.some.inj e; omega)
  exact ⟨(k _ (by omega)).trans s.r0, (k _ (by omega)).trans s.r1, (k _ (by omega)).trans s.r2, s.bel.grown h s.bel.size (fun j e => by have := Option.some.inj e; omega)⟩
theorem SmAt.cells (s : SmAt w a ha b hb x hx W) : (W.cell? ⟨w.heap.size, 0, none⟩ = some (.int .i64 a.ver) ∧ W.cell? ⟨w.heap.size, 1, none⟩ = some (.slice ha.ra a.rs.length ha.rc) ∧ W.cell? ⟨w.heap.size, 2, none⟩ = some (.slice ha.pa a.ps.length ha.pc)) ∧ (W.cell? ⟨w.heap.size + 1, 0, none⟩ = some (.int .i64 b.ver) ∧ W.cell? ⟨w.heap.size + 1, 1, none⟩ = some (.slice hb.ra b.rs.length hb.rc) ∧ W.cell? ⟨w.heap.size + 1, 2, none⟩ = some (.slice hb.pa b.ps.length hb.pc)) ∧ W.cell? ⟨w.heap.size + 2, 4, none⟩ = some (.slice hx.ba x.bs.length hx.bc) ∧ W.cell? ⟨w.heap.size + 2, 5, none⟩ = some (.float .f64 x.draw) :=
  ⟨⟨box_cell s.r0 0 _ rfl, box_cell s.r0 1 _ rfl, box_cell s.r0 2 _ rfl⟩, ⟨box_cell s.r1 0 _ rfl, box_cell s.r1 1 _ rfl, box_cell s.r1 2 _ rfl⟩, box_cell s.r2 4 _ rfl, box_cell s.r2 5 _ rfl⟩
end
theorem sm_first (w : World) (a : Cf) (ha : CfH) (b : Cf) (hb : CfH) (x : Pd) (hx : PdH) : SmAt w a ha b hb x hx (((w.alloc (.cells #[.int .i64 a.ver, .slice ha.ra a.rs.length ha.rc, .slice ha.pa a.ps.length ha.pc] 28)).alloc (.cells #[.int .i64 b.ver, .slice hb.ra b.rs.length hb.rc, .slice hb.pa b.ps.length hb.pc] 28)).alloc (.cells #[.int .i64 x.kind, .int .i64 x.cf.ver, .slice hx.cf.ra x.cf.rs.length hx.cf.rc, .slice hx.cf.pa x.cf.ps.length hx.cf.pc, .slice hx.ba x.bs.length hx.bc, .float .f64 x.draw] 32)) := by
  have b1 : Below w.heap.size w (w.alloc (.cells #[.int .i64 a.ver, .slice ha.ra a.rs.length ha.rc, .slice ha.pa a.ps.length ha.pc] 28)) := (Below.refl _ _).alloc (Nat.le_refl _) _
  have X1 := heap_new w (.cells #[.int .i64 a.ver, .slice ha.ra a.rs.length ha.rc, .slice ha.pa a.ps.length ha.pc] 28)
  have s1 : (w.alloc (.cells #[.int .i64 a.ver, .slice ha.ra a.rs.length ha.rc, .slice ha.pa a.ps.length ha.pc] 28)).heap.size = w.heap.size + 1 := by simp
  generalize w.alloc (.cells #[.int .i64 a.ver, .slice ha.ra a.rs.length ha.rc, .slice ha.pa a.ps.length ha.pc] 28) = W1 at *
  have b2 : Below W1.heap.size W1 (W1.alloc (.cells #[.int .i64 b.ver, .slice hb.ra b.rs.length hb.rc, .slice hb.pa b.ps.length hb.pc] 28)) := (Below.refl _ _).alloc (Nat.le_refl _) _
  have X2 := heap_new W1 (.cells #[.int .i64 b.ver, .slice hb.ra b.rs.length hb.rc, .slice hb.pa b.ps.length hb.pc] 28)
  have s2 : (W1.alloc (.cells #[.int .i64 b.ver, .slice hb.ra b.rs.length hb.rc, .slice hb.pa b.ps.length hb.pc] 28)).heap.size = W1.heap.size + 1 := by simp
  generalize W1.alloc (.cells #[.int .i64 b.ver, .slice hb.ra b.rs.length hb.rc, .slice hb.pa b.ps.length hb.pc] 28) = W2 at *
  have b3 : Below W2.heap.size W2 (W2.alloc (.cells #[.int .i64 x.kind, .int .i64 x.cf.ver, .slice hx.cf.ra x.cf.rs.length hx.cf.rc, .slice hx.cf.pa x.cf.ps.length hx.cf.pc, .slice hx.ba x.bs.length hx.bc, .float .f64 x.draw] 32)) := (Below.refl _ _).alloc (Nat.le_refl _) _
  have X3 := heap_new W2 (.cells #[.int .i64 x.kind, .int .i64 x.cf.ver, .slice hx.cf.ra x.cf.rs.length hx.cf.rc, .slice hx.cf.pa x.cf.ps.length hx.cf.pc, .slice hx.ba x.bs.length hx.bc, .float .f64 x.draw] 32)
  rw [s1] at X2 s2
  rw [s2] at X3
  exact ⟨later_block b3 (later_block b2 X1), later_block b3 X2, X3, b1.trans ((b2.trans (b3.mono b2.size)).mono b1.size)⟩
/-- Two planes beside the boxes. -/
structure Pl2 (w : World) (a : Cf) (ha : CfH) (b : Cf) (hb : CfH) (x : Pd) (hx : PdH) (P Q bp bq : Nat) (e : Cf) (h : CfH) (f : Cf) (k : CfH) (W : World) : Prop where
  s : SmAt w a ha b hb x hx W
  p : PlOwn bp W P e h
  q : PlOwn bq W Q f k
  hP : w.heap.size + 3 ≤ P
  hQ : w.heap.size + 3 ≤ Q
  ne : P ≠ Q
  qb : Q < bp
  pb : P < bq
section
variable {w W W' : World} {a : Cf} {ha : CfH} {b : Cf} {hb : CfH} {x : Pd} {hx : PdH} {P Q bp bq : Nat} {e : Cf} {h : CfH} {f : Cf} {k : CfH}
theorem Pl2.later (z : Pl2 w a ha b hb x hx P Q bp bq e h f k W) (u : Below W.heap.size W W') : Pl2 w a ha b hb x hx P Q bp bq e h f k W' := ⟨z.s.later u, z.p.later u, z.q.later u, z.hP, z.hQ, z.ne, z.qb, z.pb⟩
theorem Pl2.drew (z : Pl2 w a ha b hb x hx P Q bp bq e h f k W) : Pl2 w a ha b hb x hx P Q bp bq e h f k W.drew := z.later ((Below.refl _ _).drew)
theorem Pl2.lt (z : Pl2 w a ha b hb x hx P Q bp bq e h f k W) : P < W.heap.size ∧ Q < W.heap.size := ⟨(Array.getElem?_eq_some_iff.1 z.p.row).1, (Array.getElem?_eq_some_iff.1 z.q.row).1⟩
/-- The first plane is given a configuration that is newer. -/
theorem applyP_calls (z : Pl2 w a ha b hb x hx P Q bp bq e h f k W) {c : Cf} {l : CfH} (hc : CfAt w c l) (hs : shortC c = true) (hv : e.ver < c.ver) :
    Calls Tryz.prog 9 #[.pointer (some ⟨P, 0, none⟩), cfVal c l] W fun r W' => r = .returned (.int .i64 0) ∧ ∃ h', Pl2 w a ha b hb x hx P Q W.heap.size bq c h' f k W' := by
  obtain ⟨h1, h2, h3⟩ := short_each hs
  refine (apply_calls z.p (hc.later z.s.bel) (by omega) (by omega) (fun y hy => by have := h3 y hy; omega)).mono ?_
  rintro r W' ⟨⟨hn, _⟩ | ⟨_, rfl, h', ho⟩, g⟩
  · omega
  · exact ⟨rfl, h', z.s.grown g z.hP, ho, z.q.other g z.ne.symm z.pb, z.hP, z.hQ, z.ne, z.lt.2, z.pb⟩
/-- .. one that is not newer. -/
theorem applyO_calls (z : Pl2 w a ha b hb x hx P Q bp bq e h f k W) {c : Cf} {l : CfH} (hc : CfAt w c l) (hs : shortC c = true) (hv : c.ver ≤ e.ver) :
    Calls Tryz.prog 9 #[.pointer (some ⟨P, 0, none⟩), cfVal c l] W fun r W' => r = .returned (.int .i64 12) ∧ Pl2 w a ha b hb x hx P Q bp bq e h f k W' := by
  obtain ⟨h1, h2, h3⟩ := short_each hs
  refine (apply_calls z.p (hc.later z.s.bel) (by omega) (by omega) (fun y hy => by have := h3 y hy; omega)).mono ?_
  rintro r W' ⟨⟨_, rfl, ho⟩ | ⟨hn, _⟩, g⟩
  · exact ⟨rfl, z.s.grown g z.hP, ho, z.q.other g z.ne.symm z.pb, z.hP, z.hQ, z.ne, z.qb, z.pb⟩
  · omega
/-- .. any. -/
theorem applyA_calls (z : Pl2 w a ha b hb x hx P Q bp bq e h f k W) {c : Cf} {l : CfH} (hc : CfAt w c l) (hs : shortC c = true) {n : Int} (he : e.ver < n) (hv : c.ver < n) :
    Calls Tryz.prog 9 #[.pointer (some ⟨P, 0, none⟩), cfVal c l] W fun r W' => ∃ m, r = .returned (.int .i64 m) ∧ ∃ bp' e' h', Pl2 w a ha b hb x hx P Q bp' bq e' h' f k W' ∧ e'.ver < n := by
  by_cases hh : e.ver < c.ver
  · refine (applyP_calls z hc hs hh).mono ?_
    rintro r W' ⟨rfl, h', ho⟩
    exact ⟨_, rfl, _, _, _, ho, hv⟩
  · refine (applyO_calls z hc hs (by omega)).mono ?_
    rintro r W' ⟨rfl, ho⟩
    exact ⟨_, rfl, _, _, _, ho, he⟩
theorem Pl2.swap (z : Pl2 w a ha b hb x hx P Q bp bq e h f k W) : Pl2 w a ha b hb x hx Q P bq bp f k e h W := ⟨z.s, z.q, z.p, z.hQ, z.hP, z.ne.symm, z.pb, z.qb⟩
theorem applyQ_calls (z : Pl2 w a ha b hb x hx P Q bp bq e h f k W) {c : Cf} {l : CfH} (hc : CfAt w c l) (hs : shortC c = true) (hv : f.ver < c.ver) :
    Calls Tryz.prog 9 #[.pointer (some ⟨Q, 0, none⟩), cfVal c l] W fun r W' => r = .returned (.int .i64 0) ∧ ∃ h', Pl2 w a ha b hb x hx P Q bp W.heap.size e h c h' W' := by
  refine (applyP_calls z.swap hc hs hv).mono ?_
  rintro r W' ⟨rfl, h', ho⟩
  exact ⟨rfl, h', ho.swap⟩
end
/-- Two new planes. -/
theorem new2 {w W W' W'' : World} {a : Cf} {ha : CfH} {b : Cf} {hb : CfH} {x : Pd} {hx : PdH} (s : SmAt w a ha b hb x hx W) (h1 : ∀ base, PlOwn base W' W.heap.size ⟨0, [], []⟩ ⟨none, 0, none, 0⟩) (b1 : Below W.heap.size W W') (h2 : ∀ base, PlOwn base W'' W'.heap.size ⟨0, [], []⟩ ⟨none, 0, none, 0⟩) (b2 : Below W'.heap.size W' W'') :
    Pl2 w a ha b hb x hx W.heap.size W'.heap.size W''.heap.size W''.heap.size ⟨0, [], []⟩ ⟨none, 0, none, 0⟩ ⟨0, [], []⟩ ⟨none, 0, none, 0⟩ W'' := by
  have z := s.sz
  have l1 : W.heap.size < W'.heap.size := (Array.getElem?_eq_some_iff.1 (h1 0).row).1
  have l2 : W'.heap.size < W''.heap.size := (Array.getElem?_eq_some_iff.1 (h2 0).row).1
  exact ⟨(s.later b1).later b2, (h1 _).later b2, h2 _, z, by omega, by omega, l2, by omega⟩
end Go.Proofs.YtcmiappiocfbiaaGreatDoor
