/- A configuration that came in. -/
import Derived.Test.YtjcjleaicjhpeaaGreatDoorB02
import Derived.Test.YtjcjleaicjhpeaaGreatDoorB01
import Derived.Deep.RegionHeld3
section
namespace Go.Proofs.YtjcjleaicjhpeaaGreatDoor
open Go.ChangeShapes Go.WideShapes Go.ChangeAt Go.RowKit

/-- A pool: its name, its targets. -/
structure Po where
  nm : ByteArray
  ts : List Tg
instance : Inhabited Po := ⟨⟨⟨#[]⟩, []⟩⟩
instance : Inhabited Rt := ⟨rt0⟩
structure PosAt (w : World) (a : Option Addr) (l : List Po) : Prop where
  cell : ∀ i (hi : i < l.length), ∃ b off ta tc, a = some ⟨b, off, none⟩ ∧ w.cell? ⟨b, off + i * 2, none⟩ = some (.string l[i].nm) ∧ w.cell? ⟨b, off + i * 2 + 1, none⟩ = some (.slice ta l[i].ts.length tc) ∧ TgsAt w ta l[i].ts ∧ (l[i].ts.length ≤ maxLen ∧ l[i].ts.length ≤ tc) ∧ (ta = none → tc = 0)
theorem PosAt.later {w w' : World} {a : Option Addr} {l : List Po} (h : PosAt w a l) (hb : Below w.heap.size w w') : PosAt w' a l :=
  ⟨fun i hi => by obtain ⟨b, off, ta, tc, e, h1, h2, h3, h4⟩ := h.cell i hi; exact ⟨b, off, ta, tc, e, cell_later hb h1, cell_later hb h2, h3.later hb, h4⟩⟩
structure Cf where
  ver : Int
  rs : List Rt
  ps : List Po
structure CfH where
  ra : Option Addr
  rc : Nat
  pa : Option Addr
  pc : Nat
def cfVal (e : Cf) (h : CfH) : Value := .agg #[.int .i64 e.ver, .slice h.ra e.rs.length h.rc, .slice h.pa e.ps.length h.pc]
structure CfAt (w : World) (e : Cf) (h : CfH) : Prop where
  wv : -9223372036854775808 ≤ e.ver ∧ e.ver ≤ 9223372036854775807
  rts : RtsAt w h.ra e.rs
  pos : PosAt w h.pa e.ps
  rl : e.rs.length ≤ maxLen ∧ e.rs.length ≤ h.rc
  pl : e.ps.length ≤ maxLen ∧ e.ps.length ≤ h.pc
  rz : h.ra = none → h.rc = 0
theorem CfAt.later {w w' : World} {e : Cf} {h : CfH} (x : CfAt w e h) (hb : Below w.heap.size w w') : CfAt w' e h := ⟨x.wv, x.rts.later hb, x.pos.later hb, x.rl, x.pl, x.rz⟩
theorem slice_nil0 {H : Type} {enc : TypeId × Value → H} {W : World} {t e : TypeId} {a : Option Addr} {len cap : Nat} {d : DataW H} {p : List MemPlace} (hu : Tryz.prog.underlying t = some (.slice e))
    (h : DataW.Trod enc Tryz.prog W 0 (fun _ => true) true t (.slice a len cap) d p) : a = none → cap = 0 := by
  obtain ⟨fuel, hf⟩ := h
  rcases Deep.open_slice hu hf with ⟨hcs, _⟩ | ⟨x, l, c, m, n, D, Pl, hcs, _⟩
  · simp [Value.cells] at hcs
    exact fun _ => hcs.2.2
  · simp [Value.cells] at hcs
    rintro rfl
    exact absurd hcs.1 (by simp)
set_option maxRecDepth 20000 in
theorem routes_arg {H : Type} {enc : TypeId × Value → H} {W : World} {a : Option Addr} {len cap : Nat} {d : DataW H} {p : List MemPlace}
    (h : DataW.Trod enc Tryz.prog W 0 (fun _ => true) true 42 (.slice a len cap) d p) :
    ∃ es : List Rt, es.length = len ∧ (len ≤ maxLen ∧ len ≤ cap) ∧ RtsAt W a es := by
  obtain ⟨fuel, hf⟩ := h
  have c6 : Tryz.prog.cellsOf 56 = 3 := by kernel_rfl
  rcases Deep.open_slice Tryz.underlying42 hf with ⟨hcs, _⟩ | ⟨x, l, c, m, n, D, Pl, hcs, _, hl, hm, hm', _, hel⟩
  · simp [Value.cells] at hcs
    obtain ⟨rfl, rfl, rfl⟩ := hcs
    exact ⟨[], rfl, ⟨by simp [maxLen], Nat.le_refl _⟩, ⟨by simp, by simp⟩⟩
  · simp [Value.cells] at hcs
    obtain ⟨rfl, rfl, rfl⟩ := hcs
    have hmm : m = cap := by simpa using hm'
    rw [c6] at hel
    have hone : ∀ i, i < len → ∃ (e : Rt), W.cell? ((x.add (i * 3)).add 0) = some (.string e.h) ∧ W.cell? ((x.add (i * 3)).add 1) = some (.string e.p) ∧ W.cell? ((x.add (i * 3)).add 2) = some (.string e.l) ∧ e.h.size ≤ maxLen ∧ e.p.size ≤ maxLen ∧ e.l.size ≤ maxLen := by
      intro i hi
      obtain ⟨cs', h1, h2⟩ := hel i (by omega)
      obtain ⟨v0, v1, v2, rfl, g0, g1, g2⟩ := cells3 h1
      obtain ⟨xs, n', _, _, _, hx, hfs⟩ := DataW.trod_struct Tryz.underlying56 h2
      obtain ⟨y0, y1, y2, rfl⟩ := list3 (show xs.length = 3 from hx)
      obtain ⟨s0, e0, _, w0⟩ := DataW.trod_string Tryz.underlying9 (show DataW.trod enc Tryz.prog W 0 (fun _ => true) true n' 9 [v0] = some y0 from hfs 0 _ rfl)
      obtain ⟨s1, e1, _, w1⟩ := DataW.trod_string Tryz.underlying9 (show DataW.trod enc Tryz.prog W 0 (fun _ => true) true n' 9 [v1] = some y1 from hfs 1 _ rfl)
      obtain ⟨s2, e2, _, w2⟩ := DataW.trod_string Tryz.underlying9 (show DataW.trod enc Tryz.prog W 0 (fun _ => true) true n' 9 [v2] = some y2 from hfs 2 _ rfl)
      simp only [List.cons.injEq, and_true] at e0 e1 e2
      subst e0 e1 e2
      exact ⟨⟨s0, s1, s2⟩, g0, g1, g2, w0, w1, w2⟩
    obtain ⟨f, hfp⟩ := Deep.choose_lt (n := len) (p := fun i (e : Rt) => W.cell? ((x.add (i * 3)).add 0) = some (.string e.h) ∧ W.cell? ((x.add (i * 3)).add 1) = some (.string e.p) ∧ W.cell? ((x.add (i * 3)).add 2) = some (.string e.l) ∧ e.h.size ≤ maxLen ∧ e.p.size ≤ maxLen ∧ e.l.size ≤ maxLen) (fun i hi => hone i hi)
    refine ⟨(List.range len).map f, by simp, ⟨by omega, by omega⟩, ⟨fun t ht => ?_, fun i hi => ?_⟩⟩
    · obtain ⟨i, hi, rfl⟩ := List.mem_map.1 ht
      exact (hfp i (by simpa using hi)).2.2.2
    · simp only [List.length_map, List.length_range] at hi
      obtain ⟨h0, h1, h2, _⟩ := hfp i hi
      have e : ((List.range len).map f)[i]'(by simpa using hi) = f i := by simp
      rw [e]
      obtain ⟨b, off, spot⟩ := x
      obtain ⟨h00, _⟩ := hfp 0 (by omega)
      have hspot : spot = none := by simpa [Addr.add] using World.cell?_spot h00
      subst hspot
      simp only [Addr.add_lit] at h0 h1 h2
      exact ⟨b, off, rfl, h0, h1, h2⟩
set_option maxRecDepth 20000 in
theorem pools_arg {H : Type} {enc : TypeId × Value → H} {W : World} {a : Option Addr} {len cap : Nat} {d : DataW H} {p : List MemPlace}
    (h : DataW.Trod enc Tryz.prog W 0 (fun _ => true) true 43 (.slice a len cap) d p) :
    ∃ es : List Po, es.length = len ∧ (len ≤ maxLen ∧ len ≤ cap) ∧ PosAt W a es := by
  obtain ⟨fuel, hf⟩ := h
  have c6 : Tryz.prog.cellsOf 54 = 2 := by kernel_rfl
  rcases Deep.open_slice Tryz.underlying43 hf with ⟨hcs, _⟩ | ⟨x, l, c, m, n, D, Pl, hcs, _, hl, hm, hm', _, hel⟩
  · simp [Value.cells] at hcs
    obtain ⟨rfl, rfl, rfl⟩ := hcs
    exact ⟨[], rfl, ⟨by simp [maxLen], Nat.le_refl _⟩, ⟨by simp⟩⟩
  · simp [Value.cells] at hcs
    obtain ⟨rfl, rfl, rfl⟩ := hcs
    have hmm : m = cap := by simpa using hm'
    rw [c6] at hel
    have hone : ∀ i, i < len → ∃ (e : Po), ∃ ta tc, W.cell? ((x.add (i * 2)).add 0) = some (.string e.nm) ∧ W.cell? ((x.add (i * 2)).add 1) = some (.slice ta e.ts.length tc) ∧ TgsAt W ta e.ts ∧ (e.ts.length ≤ maxLen ∧ e.ts.length ≤ tc) ∧ (ta = none → tc = 0) := by
      intro i hi
      obtain ⟨cs', h1, h2⟩ := hel i (by omega)
      obtain ⟨v0, v1, rfl, g0, g1⟩ := cells2 h1
      obtain ⟨xs, n', _, _, _, hx, hfs⟩ := DataW.trod_struct Tryz.underlying54 h2
      obtain ⟨y0, y1, rfl⟩ := list2 (show xs.length = 2 from hx)
      obtain ⟨s0, e0, _, w0⟩ := DataW.trod_string Tryz.underlying9 (show DataW.trod enc Tryz.prog W 0 (fun _ => true) true n' 9 [v0] = some y0 from hfs 0 _ rfl)
      have t1 : DataW.trod enc Tryz.prog W 0 (fun _ => true) true n' 31 [v1] = some y1 := hfs 1 _ rfl
      obtain ⟨ta, tn, tc, e1⟩ := Joins.slice_form Tryz.underlying31 t1
      simp only [List.cons.injEq, and_true] at e0 e1
      subst e0 e1
      have hs : DataW.Trod enc Tryz.prog W 0 (fun _ => true) true 31 (.slice ta tn tc) y1.1 y1.2 := ⟨n', t1⟩
      obtain ⟨ts, rfl, hl2, hT⟩ := targets_arg hs
      exact ⟨⟨s0, ts⟩, ta, tc, g0, g1, hT, hl2, slice_nil0 Tryz.underlying31 hs⟩
    obtain ⟨f, hfp⟩ := Deep.choose_lt (n := len) (p := fun i (e : Po) => ∃ ta tc, W.cell? ((x.add (i * 2)).add 0) = some (.string e.nm) ∧ W.cell? ((x.add (i * 2)).add 1) = some (.slice ta e.ts.length tc) ∧ TgsAt W ta e.ts ∧ (e.ts.length ≤ maxLen ∧ e.ts.length ≤ tc) ∧ (ta = none → tc = 0)) (fun i hi => hone i hi)
    refine ⟨(List.range len).map f, by simp, ⟨by omega, by omega⟩, ⟨fun i hi => ?_⟩⟩
    simp only [List.length_map, List.length_range] at hi
    obtain ⟨ta, tc, h0, h1, h2, h3, h4⟩ := hfp i hi
    have e : ((List.range len).map f)[i]'(by simpa using hi) = f i := by simp
    rw [e]
    obtain ⟨b, off, spot⟩ := x
    obtain ⟨_, _, h00, _⟩ := hfp 0 (by omega)
    have hspot : spot = none := by simpa [Addr.add] using World.cell?_spot h00
    subst hspot
    simp only [Addr.add_lit] at h0 h1
    exact ⟨b, off, ta, tc, rfl, h0, h1, h2, h3, h4⟩
theorem list3a {vs : Array Value} (h : vs.size = 3) : ∃ c0 c1 c2, vs = #[c0, c1, c2] := by
  obtain ⟨l⟩ := vs
  obtain ⟨c0, c1, c2, rfl⟩ := list3 (show l.length = 3 from h)
  exact ⟨c0, c1, c2, rfl⟩
set_option maxRecDepth 20000 in
theorem open_conf {H : Type} {enc : TypeId × Value → H} {W : World} {r : Reach} {b0 : Nat} {v : Value} {d : DataW H} {p : List MemPlace} (hv : Value.okWide Tryz.prog W r b0 45 v)
    (h : DataW.Trod enc Tryz.prog W 0 (fun _ => true) true 45 v d p) : ∃ (e : Cf) (q : CfH), v = cfVal e q ∧ CfAt W e q := by
  obtain ⟨cs, rfl, hsz⟩ := okWide_struct Tryz.underlying45 hv
  have c6 : Tryz.prog.cellsOf 45 = 3 := by kernel_rfl
  obtain ⟨v0, v1, v2, rfl⟩ := list3a (hsz.trans c6)
  obtain ⟨fuel, hf⟩ := h
  have h2 : DataW.trod enc Tryz.prog W 0 (fun _ => true) true fuel 45 [v0, v1, v2] = some (d, p) := hf
  obtain ⟨xs, n', _, _, _, hx, hfs⟩ := DataW.trod_struct Tryz.underlying45 h2
  obtain ⟨y0, y1, y2, rfl⟩ := list3 (show xs.length = 3 from hx)
  obtain ⟨k, e0, _, w0⟩ := DataW.trod_int Tryz.underlying3 (show DataW.trod enc Tryz.prog W 0 (fun _ => true) true n' 3 [v0] = some y0 from hfs 0 _ rfl)
  have t1 : DataW.trod enc Tryz.prog W 0 (fun _ => true) true n' 42 [v1] = some y1 := hfs 1 _ rfl
  have t2 : DataW.trod enc Tryz.prog W 0 (fun _ => true) true n' 43 [v2] = some y2 := hfs 2 _ rfl
  obtain ⟨ra, rn, rc, e1⟩ := Joins.slice_form Tryz.underlying42 t1
  obtain ⟨pa, pn, pc, e2⟩ := Joins.slice_form Tryz.underlying43 t2
  simp only [List.cons.injEq, and_true] at e0 e1 e2
  subst e0 e1 e2
  have hs1 : DataW.Trod enc Tryz.prog W 0 (fun _ => true) true 42 (.slice ra rn rc) y1.1 y1.2 := ⟨n', t1⟩
  have hs2 : DataW.Trod enc Tryz.prog W 0 (fun _ => true) true 43 (.slice pa pn pc) y2.1 y2.2 := ⟨n', t2⟩
  obtain ⟨rs, rfl, hl1, hR⟩ := routes_arg hs1
  obtain ⟨ps, rfl, hl2, hP⟩ := pools_arg hs2
  exact ⟨⟨k, rs, ps⟩, ⟨ra, rc, pa, pc⟩, rfl, i64_bounds w0, hR, hP, hl1, hl2, slice_nil0 Tryz.underlying42 hs1⟩
/-- How great a configuration is, of the first j pools (as far as that is told). -/
def bigN (l : List Po) : Nat → Nat
  | 0 => 0
  | j + 1 => bigN l j + (1 + min (l.getD j default).ts.length 1000)
theorem po_at (l : List Po) (j : Nat) (hj : j < l.length) : l.getD j default = l[j] := by
  rw [List.getD_eq_getElem?_getD, List.getElem?_eq_getElem hj]; rfl
theorem bigN_mono (l : List Po) (j n : Nat) (h : j ≤ n) : bigN l j ≤ bigN l n := by
  induction n with
  | zero =>
    have h0 : j = 0 := by omega
    rw [h0]
    exact Nat.le_refl _
  | succ n ih =>
    by_cases he : j = n + 1
    · rw [he]
      exact Nat.le_refl _
    · exact Nat.le_trans (ih (by omega)) (Nat.le_add_right _ _)
def shortC (e : Cf) : Bool := decide (bigN e.ps e.ps.length ≤ 200) && decide (e.rs.length ≤ 200)
end Go.Proofs.YtjcjleaicjhpeaaGreatDoor
end
/- Regions that draw their order, walked operation by operation, with operations that are not wanted. -/
section
namespace Go.Proofs.YtjcjleaicjhpeaaGreatDoor
open Go.RowKit

section
variable {P : Program} {md : Region.Mode} {ops : Array Oper} {Q : Exit → Act → World → Prop} {S : World → Prop}
/-- An operation that is wanted and yields its value in every world that meets S. -/
theorem held_take (i : Nat) {oi : Oper} {v : Value} {fuel : Nat} {listed : Array Bool} {a : Act} {w : World} (hr : (Region.ready md ops listed).contains i = true) (hi : ops[i]? = some oi)
    (hw : Region.wanted oi (yielded ops a.tmps) = true) (hs : Region.noSelect ops = true) (hf : Region.free md ops listed i = true)
    (hQ : ∀ c a w, Q (.panic c) (a.put oi.dst v) w → Q (.panic c) a w) (hy : ∀ w, S w → (execOp a.eval oi).run P w = .ok (.value v) w) (hS : S w)
    (h : wpAnyH P md ops Q S fuel (listed.setIfInBounds i true) (a.put oi.dst v) w) : wpAnyH P md ops Q S (fuel + 1) listed a w :=
  wpAnyH_take hi hs hf hr hQ (Or.inl ⟨hw, hy⟩) hS h
/-- An operation that is not wanted. -/
theorem held_skip (i : Nat) {oi : Oper} {fuel : Nat} {listed : Array Bool} {a : Act} {w : World} (hr : (Region.ready md ops listed).contains i = true) (hi : ops[i]? = some oi)
    (hw : Region.wanted oi (yielded ops a.tmps) = false) (hs : Region.noSelect ops = true) (hf : Region.free md ops listed i = true)
    (hQ : ∀ c a w, Q (.panic c) (a.put oi.dst undef) w → Q (.panic c) a w) (hS : S w)
    (h : wpAnyH P md ops Q S fuel (listed.setIfInBounds i true) (a.put oi.dst undef) w) : wpAnyH P md ops Q S (fuel + 1) listed a w :=
  wpAnyH_take hi hs hf hr hQ (Or.inr ⟨hw, rfl⟩) hS h
/-- The one operation that may come up. -/
theorem held_one (i : Nat) {oi : Oper} {fuel : Nat} {listed : Array Bool} {a : Act} {w : World} (hr : Region.ready md ops listed = [i]) (hi : ops[i]? = some oi)
    (h : ∀ K' : Act → World → Prop, Shut (∀ a w, S w → (S w → wpAnyH P md ops Q S fuel (listed.setIfInBounds i true) a w) → K' a w) → if Region.wanted oi (yielded ops a.tmps) = true then Oper.wp P oi a w K' Q else K' (a.put oi.dst undef) w) :
    wpAnyH P md ops Q S (fuel + 1) listed a w :=
  wpAnyH_ready hr (by simp) (AllReadyH.cons hi h AllReadyH.nil)
/-- The one operation that may come up, and is not wanted. -/
theorem held_none (i : Nat) {oi : Oper} {fuel : Nat} {listed : Array Bool} {a : Act} {w : World} (hr : Region.ready md ops listed = [i]) (hi : ops[i]? = some oi)
    (hw : Region.wanted oi (yielded ops a.tmps) = false) (hS : S w)
    (h : wpAnyH P md ops Q S fuel (listed.setIfInBounds i true) (a.put oi.dst undef) w) : wpAnyH P md ops Q S (fuel + 1) listed a w :=
  held_one i hr hi (fun K' hK => by rw [hw]; exact hK.out _ _ hS (fun _ => h))
/-- The same, what it asks being looked up by itself. -/
theorem hT (i : Nat) {oi : Oper} {v : Value} {fuel : Nat} {listed : Array Bool} {a a' : Act} {w : World} (h : wpAnyH P md ops Q S fuel (listed.setIfInBounds i true) a' w) (hr : (Region.ready md ops listed).contains i = true := by kernel_rfl) (hi : ops[i]? = some oi := by rfl)
    (hw : Region.wanted oi (yielded ops a.tmps) = true := by rfl) (hs : Region.noSelect ops = true := by kernel_rfl) (hf : Region.free md ops listed i = true := by kernel_rfl)
    (hy : ∀ w, S w → (execOp a.eval oi).run P w = .ok (.value v) w := by (intro w hSw; (try dsimp only at hSw); go_simp; try with_reducible rfl))
    (hp : a.put oi.dst v = a' := by first | (simp only [Act.put, List.getElem_toArray, List.getElem_cons_succ, List.getElem_cons_zero, List.setIfInBounds_toArray, List.set_cons_zero, List.set_cons_succ]; done) | (simp only [Act.put, List.getElem_toArray, List.getElem_cons_succ, List.getElem_cons_zero, List.setIfInBounds_toArray, List.set_cons_zero, List.set_cons_succ]; rfl) | rfl)
    (hQ : ∀ c a w, Q (.panic c) (a.put oi.dst v) w → Q (.panic c) a w := by exact fun _ _ _ h => h) (hS : S w := by assumption) : wpAnyH P md ops Q S (fuel + 1) listed a w := by
  subst hp
  exact held_take i hr hi hw hs hf hQ hy hS h
theorem hN (i : Nat) {oi : Oper} {fuel : Nat} {listed : Array Bool} {a a' : Act} {w : World} (h : wpAnyH P md ops Q S fuel (listed.setIfInBounds i true) a' w) (hr : (Region.ready md ops listed).contains i = true := by kernel_rfl) (hi : ops[i]? = some oi := by rfl)
    (hw : Region.wanted oi (yielded ops a.tmps) = false := by rfl) (hs : Region.noSelect ops = true := by kernel_rfl) (hf : Region.free md ops listed i = true := by kernel_rfl)
    (hp : a.put oi.dst undef = a' := by first | (simp only [Act.put, List.getElem_toArray, List.getElem_cons_succ, List.getElem_cons_zero, List.setIfInBounds_toArray, List.set_cons_zero, List.set_cons_succ]; done) | (simp only [Act.put, List.getElem_toArray, List.getElem_cons_succ, List.getElem_cons_zero, List.setIfInBounds_toArray, List.set_cons_zero, List.set_cons_succ]; rfl) | rfl)
    (hQ : ∀ c a w, Q (.panic c) (a.put oi.dst undef) w → Q (.panic c) a w := by exact fun _ _ _ h => h) (hS : S w := by assumption) : wpAnyH P md ops Q S (fuel + 1) listed a w := by
  subst hp
  exact held_skip i hr hi hw hs hf hQ hS h
theorem hO (i : Nat) {oi : Oper} {fuel : Nat} {listed : Array Bool} {a : Act} {w : World}
    (h : ∀ K' : Act → World → Prop, Shut (∀ a w, S w → (S w → wpAnyH P md ops Q S fuel (listed.setIfInBounds i true) a w) → K' a w) → if Region.wanted oi (yielded ops a.tmps) = true then Oper.wp P oi a w K' Q else K' (a.put oi.dst undef) w) (hr : Region.ready md ops listed = [i] := by kernel_rfl) (hi : ops[i]? = some oi := by rfl) :
    wpAnyH P md ops Q S (fuel + 1) listed a w := held_one i hr hi h
theorem hP {fuel : Nat} {listed : Array Bool} {a a' : Act} {w : World} (h : wpAnyH P md ops Q S fuel listed a' w)
    (hp : a = a' := by first | (simp only [Act.put, List.getElem_toArray, List.getElem_cons_succ, List.getElem_cons_zero, List.setIfInBounds_toArray, List.set_cons_zero, List.set_cons_succ]; done) | (simp only [Act.put, List.getElem_toArray, List.getElem_cons_succ, List.getElem_cons_zero, List.setIfInBounds_toArray, List.set_cons_zero, List.set_cons_succ]; rfl) | rfl) : wpAnyH P md ops Q S fuel listed a w := by
  subst hp
  exact h
end
end Go.Proofs.YtjcjleaicjhpeaaGreatDoor
end
/- Regions that draw their order, walked operation by operation, with operations that are not wanted. -/
section
namespace Go.Proofs.YtjcjleaicjhpeaaGreatDoor
open Go.RowKit

end Go.Proofs.YtjcjleaicjhpeaaGreatDoor
end
