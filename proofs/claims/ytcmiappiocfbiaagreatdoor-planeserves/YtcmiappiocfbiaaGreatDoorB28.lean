/- Plane: scripts of deeds; a plane and a configuration beside; a copy of one's own that is changed (the law PlaneServes). -/
import Derived.Test.YtcmiappiocfbiaaGreatDoorB27
namespace Go.Proofs.YtcmiappiocfbiaaGreatDoor
open Go.ChangeShapes Go.WideShapes Go.ChangeAt Go.RowKit
set_option linter.unusedVariables false

instance : Inhabited Pd := ⟨⟨0, ⟨0, [], []⟩, [], 0⟩⟩
def PdRow (w : World) (b o : Nat) (e : Pd) (h : PdH) : Prop := w.cell? ⟨b, o, none⟩ = some (.int .i64 e.kind) ∧ w.cell? ⟨b, o + 1, none⟩ = some (.int .i64 e.cf.ver) ∧ w.cell? ⟨b, o + 2, none⟩ = some (.slice h.cf.ra e.cf.rs.length h.cf.rc) ∧ w.cell? ⟨b, o + 3, none⟩ = some (.slice h.cf.pa e.cf.ps.length h.cf.pc) ∧ w.cell? ⟨b, o + 4, none⟩ = some (.slice h.ba e.bs.length h.bc) ∧ w.cell? ⟨b, o + 5, none⟩ = some (.float .f64 e.draw)
structure PdsAt (w : World) (a : Option Addr) (l : List Pd) : Prop where
  cell : ∀ i (hi : i < l.length), ∃ b off, ∃ h : PdH, a = some ⟨b, off, none⟩ ∧ PdRow w b (off + i * 6) l[i] h ∧ PdAt w l[i] h
theorem PdRow.later {w w' : World} {b o : Nat} {e : Pd} {h : PdH} (x : PdRow w b o e h) (u : Below w.heap.size w w') : PdRow w' b o e h := by
  obtain ⟨h0, h1, h2, h3, h4, h5⟩ := x
  exact ⟨cell_later u h0, cell_later u h1, cell_later u h2, cell_later u h3, cell_later u h4, cell_later u h5⟩
theorem cells6 {w : World} {a : Addr} {cs : List Value} (h : w.cells? 0 a 6 = some cs) : ∃ v0 v1 v2 v3 v4 v5, cs = [v0, v1, v2, v3, v4, v5] ∧ w.cell? (a.add 0) = some v0 ∧ w.cell? (a.add 1) = some v1 ∧ w.cell? (a.add 2) = some v2 ∧ w.cell? (a.add 3) = some v3 ∧ w.cell? (a.add 4) = some v4 ∧ w.cell? (a.add 5) = some v5 := by
  unfold World.cells? at h
  rw [if_pos (Nat.zero_le _)] at h
  simp only [show List.range 6 = [0, 1, 2, 3, 4, 5] from rfl, List.mapM_cons, List.mapM_nil, Option.bind_eq_bind, Option.bind_eq_some_iff, Option.pure_def, Option.some.injEq] at h
  obtain ⟨v0, h0, r, ⟨v1, h1, r1, ⟨v2, h2, r2, ⟨v3, h3, r3, ⟨v4, h4, r4, ⟨v5, h5, r5, rfl, rfl⟩, rfl⟩, rfl⟩, rfl⟩, rfl⟩, rfl⟩ := h
  exact ⟨v0, v1, v2, v3, v4, v5, rfl, h0, h1, h2, h3, h4, h5⟩
set_option maxRecDepth 20000 in
theorem ddeeds_arg {H : Type} {enc : TypeId × Value → H} {W : World} {a : Option Addr} {len cap : Nat} {d : DataW H} {p : List MemPlace}
    (h : DataW.Trod enc Tryz.prog W 0 (fun _ => true) true 22 (.slice a len cap) d p) :
    ∃ es : List Pd, es.length = len ∧ len ≤ maxLen ∧ PdsAt W a es := by
  obtain ⟨fuel, hf⟩ := h
  have c6 : Tryz.prog.cellsOf 32 = 6 := by kernel_rfl
  rcases Deep.open_slice Tryz.underlying22 hf with ⟨hcs, _⟩ | ⟨x, l, c, m, n, D, Pl, hcs, _, hl, hm, hm', _, hel⟩
  · simp [Value.cells] at hcs
    obtain ⟨rfl, rfl, rfl⟩ := hcs
    exact ⟨[], rfl, by simp [maxLen], ⟨by simp⟩⟩
  · simp [Value.cells] at hcs
    obtain ⟨rfl, rfl, rfl⟩ := hcs
    have hmm : m = cap := by simpa using hm'
    rw [c6] at hel
    have hone : ∀ i, i < len → ∃ (e : Pd), ∃ h : PdH, (W.cell? ((x.add (i * 6)).add 0) = some (.int .i64 e.kind) ∧ W.cell? ((x.add (i * 6)).add 1) = some (.int .i64 e.cf.ver) ∧ W.cell? ((x.add (i * 6)).add 2) = some (.slice h.cf.ra e.cf.rs.length h.cf.rc) ∧ W.cell? ((x.add (i * 6)).add 3) = some (.slice h.cf.pa e.cf.ps.length h.cf.pc) ∧ W.cell? ((x.add (i * 6)).add 4) = some (.slice h.ba e.bs.length h.bc) ∧ W.cell? ((x.add (i * 6)).add 5) = some (.float .f64 e.draw)) ∧ PdAt W e h := by
      intro i hi
      obtain ⟨cs', h1, h2⟩ := hel i (by omega)
      obtain ⟨v0, v1, v2, v3, v4, v5, rfl, g0, g1, g2, g3, g4, g5⟩ := cells6 h1
      obtain ⟨e, h, rfl, rfl, rfl, rfl, rfl, rfl, hd⟩ := pd_open h2
      exact ⟨e, h, ⟨g0, g1, g2, g3, g4, g5⟩, hd⟩
    obtain ⟨f, hfp⟩ := Deep.choose_lt (n := len) (p := fun i (e : Pd) => ∃ h : PdH, (W.cell? ((x.add (i * 6)).add 0) = some (.int .i64 e.kind) ∧ W.cell? ((x.add (i * 6)).add 1) = some (.int .i64 e.cf.ver) ∧ W.cell? ((x.add (i * 6)).add 2) = some (.slice h.cf.ra e.cf.rs.length h.cf.rc) ∧ W.cell? ((x.add (i * 6)).add 3) = some (.slice h.cf.pa e.cf.ps.length h.cf.pc) ∧ W.cell? ((x.add (i * 6)).add 4) = some (.slice h.ba e.bs.length h.bc) ∧ W.cell? ((x.add (i * 6)).add 5) = some (.float .f64 e.draw)) ∧ PdAt W e h) (fun i hi => hone i hi)
    refine ⟨(List.range len).map f, by simp, by omega, ⟨fun i hi => ?_⟩⟩
    simp only [List.length_map, List.length_range] at hi
    obtain ⟨h, ⟨h0, h1, h2, h3, h4, h5⟩, h6⟩ := hfp i hi
    have e : ((List.range len).map f)[i]'(by simpa using hi) = f i := by simp
    rw [e]
    obtain ⟨b, off, spot⟩ := x
    obtain ⟨_, ⟨h00, _⟩, _⟩ := hfp 0 (by omega)
    have hspot : spot = none := by simpa [Addr.add] using World.cell?_spot h00
    subst hspot
    simp only [Addr.add_lit] at h0 h1 h2 h3 h4 h5
    exact ⟨b, off, h, rfl, ⟨h0, h1, h2, h3, h4, h5⟩, h6⟩
/-- A plane that has c, and a box that has b. -/
structure SvI (w : World) (P C : Nat) (c : Cf) (base top : Nat) (h : CfH) (b : Cf) (hb : CfH) (W : World) : Prop where
  row : W.heap[P]? = some (.cells #[.int .i64 c.ver, .slice h.ra c.rs.length h.rc, .slice h.pa c.ps.length h.pc] 54 (0, 0))
  st : ∀ w', (∀ g, base ≤ g → g < top → w'.heap[g]? = W.heap[g]?) → CfAt w' c h
  tp : top ≤ W.heap.size
  pb : P < base
  cb : C < base
  ne : C ≠ P
  box : W.heap[C]? = some (.cells #[.int .i64 b.ver, .slice hb.ra b.rs.length hb.rc, .slice hb.pa b.ps.length hb.pc] 28 (0, 0))
  lp : w.heap.size ≤ P
  lc : w.heap.size ≤ C
  bel : Below w.heap.size w W
  cf : CfAt w b hb
section
variable {w W W' : World} {P C : Nat} {c : Cf} {base top : Nat} {h : CfH} {b : Cf} {hb : CfH}
theorem SvI.keep (z : SvI w P C c base top h b hb W) (k1 : W'.heap[P]? = W.heap[P]?) (k2 : W'.heap[C]? = W.heap[C]?) (k3 : ∀ g, base ≤ g → g < top → W'.heap[g]? = W.heap[g]?) (k4 : W.heap.size ≤ W'.heap.size) (k5 : Below w.heap.size w W') : SvI w P C c base top h b hb W' :=
  ⟨k1.trans z.row, fun w' hw => z.st w' (fun g g1 g2 => (hw g g1 g2).trans (k3 g g1 g2)), Nat.le_trans z.tp k4, z.pb, z.cb, z.ne, k2.trans z.box, z.lp, z.lc, k5, z.cf⟩
theorem SvI.ltP (z : SvI w P C c base top h b hb W) : P < W.heap.size := (Array.getElem?_eq_some_iff.1 z.row).1
theorem SvI.ltC (z : SvI w P C c base top h b hb W) : C < W.heap.size := (Array.getElem?_eq_some_iff.1 z.box).1
theorem SvI.later (z : SvI w P C c base top h b hb W) (u : Below W.heap.size W W') : SvI w P C c base top h b hb W' :=
  z.keep (u.block P z.ltP) (u.block C z.ltC) (fun g _ g2 => u.block g (Nat.lt_of_lt_of_le g2 z.tp)) u.size (z.bel.trans (u.mono z.bel.size))
theorem SvI.drew (z : SvI w P C c base top h b hb W) : SvI w P C c base top h b hb W.drew := z.later ((Below.refl _ _).drew)
theorem SvI.own (z : SvI w P C c base top h b hb W) : PlOwn base W P c h := ⟨z.row, fun w' hw => z.st w' (fun g g1 g2 => hw g g1 (Nat.lt_of_lt_of_le g2 z.tp))⟩
theorem SvI.cells (z : SvI w P C c base top h b hb W) : W.cell? ⟨C, 0, none⟩ = some (.int .i64 b.ver) ∧ W.cell? ⟨C, 1, none⟩ = some (.slice hb.ra b.rs.length hb.rc) ∧ W.cell? ⟨C, 2, none⟩ = some (.slice hb.pa b.ps.length hb.pc) :=
  ⟨box_cell z.box 0 _ rfl, box_cell z.box 1 _ rfl, box_cell z.box 2 _ rfl⟩
theorem SvI.stale (z : SvI w P C c base top h b hb W) (g : W.grownBy W' (some P)) (hp : PlOwn base W' P c h) : SvI w P C c base top h b hb W' :=
  z.keep (hp.row.trans z.row.symm) (g.block C z.ltC (fun e => z.ne (Option.some.inj e))) (fun j g1 g2 => g.block j (Nat.lt_of_lt_of_le g2 z.tp) (fun e => by have := Option.some.inj e; have := z.pb; omega)) g.size (z.bel.grown g z.bel.size (fun j e => by have := Option.some.inj e; have := z.lp; omega))
theorem SvI.taken (z : SvI w P C c base top h b hb W) {d : Cf} {k : CfH} (g : W.grownBy W' (some P)) (hp : PlOwn W.heap.size W' P d k) : SvI w P C d W.heap.size W'.heap.size k b hb W' :=
  ⟨hp.row, hp.st, Nat.le_refl _, z.ltP, z.ltC, z.ne, (g.block C z.ltC (fun e => z.ne (Option.some.inj e))).trans z.box, z.lp, z.lc, z.bel.grown g z.bel.size (fun j e => by have := Option.some.inj e; have := z.lp; omega), z.cf⟩
/-- The box is given another configuration. -/
theorem SvI.put (z : SvI w P C c base top h b hb W) {d : Cf} {k : CfH} (hd : CfAt w d k) : SvI w P C c base top h d k (((W.setCell ⟨C, 0, none⟩ (.int .i64 d.ver)).setCell ⟨C, 1, none⟩ (.slice k.ra d.rs.length k.rc)).setCell ⟨C, 2, none⟩ (.slice k.pa d.ps.length k.pc)) := by
  obtain ⟨a1, a2⟩ := set3 (x := .int .i64 d.ver) (y := .slice k.ra d.rs.length k.rc) (z := .slice k.pa d.ps.length k.pc) z.box
  have kk : ∀ g, g < W.heap.size → g ≠ C → (((W.setCell ⟨C, 0, none⟩ (.int .i64 d.ver)).setCell ⟨C, 1, none⟩ (.slice k.ra d.rs.length k.rc)).setCell ⟨C, 2, none⟩ (.slice k.pa d.ps.length k.pc)).heap[g]? = W.heap[g]? := fun g h1 h2 => a2.block g h1 (fun e => h2 (Option.some.inj e))
  have cb := z.cb
  exact ⟨(kk P z.ltP z.ne.symm).trans z.row, fun w' hw => z.st w' (fun g g1 g2 => (hw g g1 g2).trans (kk g (Nat.lt_of_lt_of_le g2 z.tp) (by omega))), Nat.le_trans z.tp a2.size, z.pb, z.cb, z.ne, a1, z.lp, z.lc, z.bel.grown a2 z.bel.size (fun j e => by have := Option.some.inj e; have := z.lc; omega), hd⟩
end
/-! A copy of one's own, of which the addresses are changed. -/
def notTg (o : Option Obj) : Prop := ∀ cs fr, o ≠ some (.cells cs 41 fr)
structure Mu (lo hi : Nat) (l : List Pw) (W0 W : World) : Prop where
  os : W.os = W0.os
  tape : W.tape = W0.tape
  output : W.output = W0.output
  size : W.heap.size = W0.heap.size
  kept : ∀ g, (g < lo ∨ hi ≤ g ∨ notTg W0.heap[g]?) → W.heap[g]? = W0.heap[g]?
  rows : ∀ x ∈ l, lo ≤ x.g ∧ x.g < hi ∧ ∃ cs : Array Value, W.heap[x.g]? = some (.cells cs 41 (0, 0)) ∧ ∀ j, j < x.po.ts.length → ∃ s, cs[j * 2]? = some (.string s)
theorem mu_first {base : Nat} {W : World} {sp : Option Addr} {c : Nat} {l : List Pw} (h : OwnW base W sp c l) {lo hi : Nat} (hlo : lo ≤ base) {V : World} (hk : ∀ x ∈ l, V.heap[x.g]? = W.heap[x.g]?) (hhi : W.heap.size ≤ hi) : Mu lo hi l V V := by
  refine ⟨rfl, rfl, rfl, rfl, fun _ _ => rfl, fun x hx => ?_⟩
  obtain ⟨ho, _⟩ := h.dat x hx
  have hi' := ho.is
  refine ⟨Nat.le_trans hlo hi'.1, Nat.lt_of_lt_of_le hi'.2.1 hhi, ?_⟩
  rcases ho.2 with ⟨hv, h0⟩ | ⟨g', cap, cur, hv, hb, hg, hle, hmx, hsz, ht⟩
  · cases hv
  · simp only [Value.slice.injEq, Option.some.injEq, Addr.mk.injEq, and_true, true_and] at hv
    obtain ⟨rfl, rfl⟩ := hv
    refine ⟨cur, (hk x hx).trans hg, fun j hj => ⟨x.po.ts[j].1, ?_⟩⟩
    have hr := rowsT_get x.po.ts j 0 hj (by omega)
    have hj2 : j * 2 + 0 < x.po.ts.length * 2 := by omega
    rw [← ht, List.getElem?_take, if_pos hj2, Array.getElem?_toList] at hr
    exact hr
theorem Mu.cell {lo hi : Nat} {l : List Pw} {W0 W : World} (m : Mu lo hi l W0 W) {x : Pw} (hx : x ∈ l) (j : Nat) (hj : j < x.po.ts.length) : (∃ s, W.cell? ⟨x.g, 0 + j * 2, none⟩ = some (.string s)) ∧ W.frozen? ⟨x.g, 0 + j * 2, none⟩ = false ∧ Mu lo hi l W0 (W.setCell ⟨x.g, 0 + j * 2, none⟩ (.string ⟨#[63]⟩)) := by
  obtain ⟨h1, h2, cs, hg, hs⟩ := m.rows x hx
  obtain ⟨s, hs'⟩ := hs j hj
  refine ⟨⟨s, by rw [Nat.zero_add]; exact box_cell hg _ _ hs'⟩, froz_of hg _, ?_⟩
  have hset := heap_setCell_same W x.g (0 + j * 2) cs 41 (.string ⟨#[63]⟩) hg
  have hoth : ∀ g, g ≠ x.g → (W.setCell ⟨x.g, 0 + j * 2, none⟩ (.string ⟨#[63]⟩)).heap[g]? = W.heap[g]? := fun g hne => heap_setCell_other W ⟨x.g, 0 + j * 2, none⟩ g _ hne
  have sz : (W.setCell ⟨x.g, 0 + j * 2, none⟩ (.string ⟨#[63]⟩)).heap.size = W.heap.size := by simp [World.setCell]
  refine ⟨m.os, m.tape, m.output, sz.trans m.size, fun g hk => ?_, fun y hy => ?_⟩
  · by_cases e : g = x.g
    · subst e
      rcases hk with a | a | a
      · omega
      · omega
      · have hh := m.kept x.g (.inr (.inr a))
        rw [hg] at hh
        exact absurd hh.symm (a cs (0, 0))
    · exact (hoth g e).trans (m.kept g hk)
  · obtain ⟨y1, y2, ys, hyg, hys⟩ := m.rows y hy
    refine ⟨y1, y2, ?_⟩
    by_cases e : y.g = x.g
    · rw [e] at hyg ⊢
      rw [hg] at hyg
      simp only [Option.some.injEq, Obj.cells.injEq, and_true] at hyg
      subst hyg
      refine ⟨_, hset, fun q hq => ?_⟩
      obtain ⟨t, ht⟩ := hys q hq
      by_cases e2 : q = j
      · subst e2
        refine ⟨⟨#[63]⟩, ?_⟩
        rw [Nat.zero_add]
        have hlt := (Array.getElem?_eq_some_iff.1 ht).1
        simp [hlt]
      · refine ⟨t, ?_⟩
        rw [Nat.zero_add, Array.getElem?_setIfInBounds_ne (by omega)]
        exact ht
    · exact ⟨ys, (hoth _ e).trans hyg, hys⟩
/-- Where the pools of one's own say that their targets lie. -/
theorem OwnW.pools {base : Nat} {w : World} {sp : Option Addr} {c : Nat} {l : List Pw} (h : OwnW base w sp c l) (i : Nat) (hi : i < l.length) : ∃ g, sp = some ⟨g, 0, none⟩ ∧ base ≤ g ∧ notTg w.heap[g]? ∧ w.cell? ⟨g, 0 + i * 2 + 1, none⟩ = some (.slice (some ⟨l[i].g, 0, none⟩) l[i].po.ts.length l[i].c) := by
  rcases h.row.2 with ⟨hv, h0⟩ | ⟨g, cap, cur, hv, hb, hg, hle, hmx, hsz, ht⟩
  · have h00 : l.length = 0 := by
      have := h.row.1
      rw [rowsP_length] at this
      omega
    omega
  · simp only [Value.slice.injEq] at hv
    obtain ⟨rfl, _, rfl⟩ := hv
    refine ⟨g, rfl, hb, fun cs fr e => ?_, ?_⟩
    · rw [hg] at e
      simp at e
    · have hk := rowsP_get l i 1 hi (by omega)
      rw [Nat.zero_add, cell_of_row w g _ cur _ _ hg, ← Array.getElem?_toList]
      have hj : i * 2 + 1 < l.length * 2 := by omega
      rw [← ht, List.getElem?_take, if_pos hj] at hk
      exact hk
theorem SvI.mu {w W W' : World} {P C : Nat} {c : Cf} {base top : Nat} {h : CfH} {b : Cf} {hb : CfH} {lo hi : Nat} {l : List Pw} (z : SvI w P C c base top h b hb W) (m : Mu lo hi l W W') (hP : P < lo) (hC : C < lo) (hr : top ≤ lo ∨ hi ≤ base) (hw : w.heap.size ≤ lo) : SvI w P C c base top h b hb W' := by
  refine z.keep (m.kept P (.inl hP)) (m.kept C (.inl hC)) (fun g g1 g2 => m.kept g ?_) (Nat.le_of_eq m.size.symm) ⟨m.os.trans z.bel.os, m.tape.trans z.bel.tape, m.output.trans z.bel.output, by rw [m.size]; exact z.bel.size, fun k hk => (m.kept k (.inl (by omega))).trans (z.bel.block k hk)⟩
  rcases hr with a | a
  · exact .inl (by omega)
  · exact .inr (.inl (by omega))
/-- A deed in its box. -/
def XBox (X : Nat) (x : Pd) (hx : PdH) (W : World) : Prop := W.heap[X]? = some (.cells #[.int .i64 x.kind, .int .i64 x.cf.ver, .slice hx.cf.ra x.cf.rs.length hx.cf.rc, .slice hx.cf.pa x.cf.ps.length hx.cf.pc, .slice hx.ba x.bs.length hx.bc, .float .f64 x.draw] 32 (0, 0))
theorem XBox.later {X : Nat} {x : Pd} {hx : PdH} {W W' : World} (b : XBox X x hx W) (u : Below W.heap.size W W') : XBox X x hx W' := later_block u b
theorem XBox.cells {X : Nat} {x : Pd} {hx : PdH} {W : World} (b : XBox X x hx W) : (W.cell? ⟨X, 0, none⟩ = some (.int .i64 x.kind) ∧ W.cell? ⟨X, 1, none⟩ = some (.int .i64 x.cf.ver) ∧ W.cell? ⟨X, 2, none⟩ = some (.slice hx.cf.ra x.cf.rs.length hx.cf.rc) ∧ W.cell? ⟨X, 3, none⟩ = some (.slice hx.cf.pa x.cf.ps.length hx.cf.pc)) ∧ W.cell? ⟨X, 4, none⟩ = some (.slice hx.ba x.bs.length hx.bc) ∧ W.cell? ⟨X, 5, none⟩ = some (.float .f64 x.draw) :=
  ⟨⟨box_cell b 0 _ rfl, box_cell b 1 _ rfl, box_cell b 2 _ rfl, box_cell b 3 _ rfl⟩, box_cell b 4 _ rfl, box_cell b 5 _ rfl⟩
/-- Apply of a copy of one's own, and what stays. -/
structure Ap (w : World) (P C X O lo hi : Nat) (c : Cf) (base top : Nat) (h : CfH) (b : Cf) (hb : CfH) (x : Pd) (hx : PdH) (k : CfH) (l : List Pw) (W0 W : World) : Prop where
  z : SvI w P C c base top h b hb W
  xb : XBox X x hx W
  ob : W.heap[O]? = some (.cells #[.int .i64 x.cf.ver, .slice k.ra x.cf.rs.length k.rc, .slice k.pa x.cf.ps.length k.pc] 28 (0, 0))
  mu : Mu lo hi l W0 W
  lx : X < lo
  lp : P < lo
  lc : C < lo
  lw : w.heap.size ≤ lo
  far : top ≤ lo ∨ hi ≤ base
  po : ∀ i (hi : i < l.length), ∃ g, k.pa = some ⟨g, 0, none⟩ ∧ notTg W0.heap[g]? ∧ W0.cell? ⟨g, 0 + i * 2 + 1, none⟩ = some (.slice (some ⟨l[i].g, 0, none⟩) l[i].po.ts.length l[i].c)
  nx : notTg W0.heap[O]?
section
variable {w : World} {P C X O lo hi : Nat} {c : Cf} {base top : Nat} {h : CfH} {b : Cf} {hb : CfH} {x : Pd} {hx : PdH} {k : CfH} {l : List Pw} {W0 W : World}
theorem Ap.step (a : Ap w P C X O lo hi c base top h b hb x hx k l W0 W) {y : Pw} (hy : y ∈ l) (j : Nat) (hj : j < y.po.ts.length) : (∃ s, W.cell? ⟨y.g, 0 + j * 2, none⟩ = some (.string s)) ∧ W.frozen? ⟨y.g, 0 + j * 2, none⟩ = false ∧ Ap w P C X O lo hi c base top h b hb x hx k l W0 (W.setCell ⟨y.g, 0 + j * 2, none⟩ (.string ⟨#[63]⟩)) := by
  obtain ⟨h1, h2, m⟩ := a.mu.cell hy j hj
  refine ⟨h1, h2, ?_⟩
  have lx := a.lx
  have ga : y.g ≠ X ∧ y.g ≠ P ∧ y.g ≠ C := by
    obtain ⟨q1, _⟩ := a.mu.rows y hy
    have := a.lp
    have := a.lc
    omega
  have go : y.g ≠ O := fun e => by
    obtain ⟨_, _, cs, hg, _⟩ := a.mu.rows y hy
    rw [e, a.ob] at hg
    simp at hg
  have oth : ∀ g, y.g ≠ g → (W.setCell ⟨y.g, 0 + j * 2, none⟩ (.string ⟨#[63]⟩)).heap[g]? = W.heap[g]? := fun g hne => heap_setCell_other W ⟨y.g, 0 + j * 2, none⟩ g _ (Ne.symm hne)
  obtain ⟨q1, q2, _⟩ := a.mu.rows y hy
  refine ⟨a.z.keep (oth P ga.2.1) (oth C ga.2.2) (fun g g1 g2 => oth g (fun e => by rcases a.far with u | u <;> omega)) (by simp [World.setCell]) (a.z.bel.setCell (p := ⟨y.g, 0 + j * 2, none⟩) (show w.heap.size ≤ y.g from Nat.le_trans a.lw q1) _), (oth X ga.1).trans a.xb, (oth O go).trans a.ob, m, a.lx, a.lp, a.lc, a.lw, a.far, a.po, a.nx⟩
theorem Ap.pool (a : Ap w P C X O lo hi c base top h b hb x hx k l W0 W) (i : Nat) (hi' : i < l.length) : ∃ g, k.pa = some ⟨g, 0, none⟩ ∧ W.cell? ⟨g, 0 + i * 2 + 1, none⟩ = some (.slice (some ⟨l[i].g, 0, none⟩) l[i].po.ts.length l[i].c) := by
  obtain ⟨g, h1, h2, h3⟩ := a.po i hi'
  exact ⟨g, h1, (World.cell?_of_block (a.mu.kept g (.inr (.inr h2)))).trans h3⟩
end
/-- A copy of one's own is handed to a plane. -/
theorem applyS_calls {w V W : World} {P C X : Nat} {c : Cf} {base top : Nat} {h : CfH} {b : Cf} {hb : CfH} {x : Pd} {hx : PdH} {k : CfH} {l : List Pw} (z : SvI w P C c base top h b hb V) (xb : XBox X x hx V) (v1 : Below V.heap.size V W) (cf : CfAt W x.cf k) (ow : OwnW V.heap.size W k.pa k.pc l) (hs : shortC x.cf = true) :
    Calls Tryz.prog 9 #[.pointer (some ⟨P, 0, none⟩), cfVal x.cf k] (W.alloc (.cells #[.int .i64 x.cf.ver, .slice k.ra x.cf.rs.length k.rc, .slice k.pa x.cf.ps.length k.pc] 28)) fun r W' => (x.cf.ver ≤ c.ver ∧ r = .returned (.int .i64 12) ∧ Ap w P C X W.heap.size V.heap.size (W.heap.size + 1) c base top h b hb x hx k l W' W') ∨ (c.ver < x.cf.ver ∧ r = .returned (.int .i64 0) ∧ ∃ base' top' h', Ap w P C X W.heap.size V.heap.size (W.heap.size + 1) x.cf base' top' h' b hb x hx k l W' W') := by
  obtain ⟨h1, h2, h3⟩ := short_each hs
  have v2 : Below W.heap.size W (W.alloc (.cells #[.int .i64 x.cf.ver, .slice k.ra x.cf.rs.length k.rc, .slice k.pa x.cf.ps.length k.pc] 28)) := (Below.refl _ _).alloc (Nat.le_refl _) _
  have s2 : (W.alloc (.cells #[.int .i64 x.cf.ver, .slice k.ra x.cf.rs.length k.rc, .slice k.pa x.cf.ps.length k.pc] 28)).heap.size = W.heap.size + 1 := by simp
  have X2 := heap_new W (.cells #[.int .i64 x.cf.ver, .slice k.ra x.cf.rs.length k.rc, .slice k.pa x.cf.ps.length k.pc] 28)
  generalize W.alloc (.cells #[.int .i64 x.cf.ver, .slice k.ra x.cf.rs.length k.rc, .slice k.pa x.cf.ps.length k.pc] 28) = U at *
  have zU := (z.later v1).later v2
  have xU := (xb.later v1).later v2
  have lX : X < V.heap.size := (Array.getElem?_eq_some_iff.1 (show V.heap[X]? = some _ from xb)).1
  have lW := v1.size
  have nXP : X ≠ P := by
    rintro rfl
    have e1 := z.row
    rw [show V.heap[X]? = some _ from xb] at e1
    simp at e1
  refine (apply_calls zU.own (cf.later v2) (by omega) (by omega) (fun y hy => by have := h3 y hy; omega)).mono ?_
  rintro r W' ⟨hend, g⟩
  have kp : ∀ j, j < U.heap.size → j ≠ P → W'.heap[j]? = U.heap[j]? := fun j h1 h2 => g.block j h1 (fun e => h2 (Option.some.inj e))
  have lP := z.ltP
  have hmu : Mu V.heap.size (W.heap.size + 1) l W' W' := mu_first ow (Nat.le_refl _) (fun y hy => by
    have hi := (ow.dat y hy).1.is
    exact (kp _ (by omega) (by omega)).trans (v2.block _ hi.2.1)) (by omega)
  have hxb : XBox X x hx W' := (kp X (by omega) nXP).trans xU
  have hob : W'.heap[W.heap.size]? = some (.cells #[.int .i64 x.cf.ver, .slice k.ra x.cf.rs.length k.rc, .slice k.pa x.cf.ps.length k.pc] 28 (0, 0)) := (kp _ (by omega) (by omega)).trans X2
  have hpo : ∀ i (hi : i < l.length), ∃ g, k.pa = some ⟨g, 0, none⟩ ∧ notTg W'.heap[g]? ∧ W'.cell? ⟨g, 0 + i * 2 + 1, none⟩ = some (.slice (some ⟨l[i].g, 0, none⟩) l[i].po.ts.length l[i].c) := fun i hi => by
    obtain ⟨q, e, hq, nt, cl⟩ := ow.pools i hi
    have hlt := World.block_lt_of_cell? _ _ cl
    simp only at hlt
    have kk : W'.heap[q]? = W.heap[q]? := (kp q (by omega) (by omega)).trans (v2.block q hlt)
    exact ⟨q, e, by rw [kk]; exact nt, (World.cell?_of_block kk).trans cl⟩
  have hnx : notTg W'.heap[W.heap.size]? := fun cs fr e => by
    rw [hob] at e
    simp at e
  rcases hend with ⟨hv, rfl, ho⟩ | ⟨hv, rfl, h', ho⟩
  · exact .inl ⟨hv, rfl, zU.stale g ho, hxb, hob, hmu, lX, lP, z.ltC, z.bel.size, .inl z.tp, hpo, hnx⟩
  · exact .inr ⟨hv, rfl, _, _, h', zU.taken g ho, hxb, hob, hmu, lX, lP, z.ltC, z.bel.size, .inr (by omega), hpo, hnx⟩
end Go.Proofs.YtcmiappiocfbiaaGreatDoor
