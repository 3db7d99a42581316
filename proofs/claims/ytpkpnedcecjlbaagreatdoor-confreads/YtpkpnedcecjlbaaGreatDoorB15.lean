/- Targets, routes and a draw that came in. -/
import Derived.Test.YtpkpnedcecjlbaaGreatDoorB02
import Derived.Test.YtpkpnedcecjlbaaGreatDoorRows
import Derived.ShutString
import Derived.ChangeOld
import Derived.ChangeMaps5
import Derived.Deep.Slices
import Derived.Lib.SmallJoins
import Derived.Test.YtpkpnedcecjlbaaGreatDoorB14
import Derived.Deep.RegionHeld3
import Derived.Test.YtpkpnedcecjlbaaGreatDoorB08
section
namespace Go.Proofs.YtpkpnedcecjlbaaGreatDoor
open Go.ChangeShapes Go.WideShapes Go.ChangeAt Go.RowKit

theorem f64_lt {n : Nat} (h : (Lit.float .f64 n).wf = true) : n < 18446744073709551616 := by simpa [Lit.wf] using h
theorem u8_nat {n : Int} (h : (Lit.int .u8 n).wf = true) : ∃ m : Nat, n = (m : Int) ∧ m < 256 := by
  have := bounds_u8 h
  exact ⟨n.toNat, by omega, by omega⟩
theorem cells2 {w : World} {a : Addr} {cs : List Value} (h : w.cells? 0 a 2 = some cs) : ∃ v0 v1, cs = [v0, v1] ∧ w.cell? (a.add 0) = some v0 ∧ w.cell? (a.add 1) = some v1 := by
  unfold World.cells? at h
  rw [if_pos (Nat.zero_le _)] at h
  simp only [show List.range 2 = [0, 1] from rfl, List.mapM_cons, List.mapM_nil, Option.bind_eq_bind, Option.bind_eq_some_iff, Option.pure_def, Option.some.injEq] at h
  obtain ⟨v0, h0, r, ⟨v1, h1, r1, rfl, rfl⟩, rfl⟩ := h
  exact ⟨v0, v1, rfl, h0, h1⟩
theorem list2 {α : Type} {l : List α} (h : l.length = 2) : ∃ c0 c1, l = [c0, c1] := by
  match l, h with
  | [c0, c1], _ => exact ⟨c0, c1, rfl⟩
theorem cells3 {w : World} {a : Addr} {cs : List Value} (h : w.cells? 0 a 3 = some cs) : ∃ v0 v1 v2, cs = [v0, v1, v2] ∧ w.cell? (a.add 0) = some v0 ∧ w.cell? (a.add 1) = some v1 ∧ w.cell? (a.add 2) = some v2 := by
  unfold World.cells? at h
  rw [if_pos (Nat.zero_le _)] at h
  simp only [show List.range 3 = [0, 1, 2] from rfl, List.mapM_cons, List.mapM_nil, Option.bind_eq_bind, Option.bind_eq_some_iff, Option.pure_def, Option.some.injEq] at h
  obtain ⟨v0, h0, r, ⟨v1, h1, r1, ⟨v2, h2, r2, rfl, rfl⟩, rfl⟩, rfl⟩ := h
  exact ⟨v0, v1, v2, rfl, h0, h1, h2⟩
theorem list3 {α : Type} {l : List α} (h : l.length = 3) : ∃ c0 c1 c2, l = [c0, c1, c2] := by
  match l, h with
  | [c0, c1, c2], _ => exact ⟨c0, c1, c2, rfl⟩
theorem trod_float0 {H : Type} {enc : TypeId × Value → H} {P : Program} {W : World} {base : Nat} {spare : TypeId → Bool} {held : Bool} {fuel : Nat} {t : TypeId} {cs : List Value} {x : DataW H × List MemPlace} {k : FloatKind} (ht : P.underlying t = some (.float k)) (h : DataW.trod enc P W base spare held fuel t cs = some x) : ∃ n, cs = [.float k n] ∧ (Lit.float k n).wf = true := by
  cases fuel with
  | zero => simp [DataW.trod] at h
  | succ n =>
    unfold DataW.trod at h
    rw [ht] at h
    split at h <;> simp_all
theorem trod_float1 {H : Type} {enc : TypeId × Value → H} {W : World} {n : Nat} {v : Value} {y : DataW H × List MemPlace} (h : DataW.trod enc Tryz.prog W 0 (fun _ => true) true n 39 [v] = some y) : ∃ b, v = .float .f64 b ∧ b < 18446744073709551616 := by
  obtain ⟨b, e, hw⟩ := trod_float0 Tryz.underlying39 h
  simp only [List.cons.injEq, and_true] at e
  exact ⟨b, e, f64_lt hw⟩
set_option maxRecDepth 20000 in
theorem targets_arg {H : Type} {enc : TypeId × Value → H} {W : World} {a : Option Addr} {len cap : Nat} {d : DataW H} {p : List MemPlace}
    (h : DataW.Trod enc Tryz.prog W 0 (fun _ => true) true 23 (.slice a len cap) d p) :
    ∃ es : List Tg, es.length = len ∧ (len ≤ maxLen ∧ len ≤ cap) ∧ TgsAt W a es := by
  obtain ⟨fuel, hf⟩ := h
  have c6 : Tryz.prog.cellsOf 43 = 2 := by kernel_rfl
  rcases Deep.open_slice Tryz.underlying23 hf with ⟨hcs, _⟩ | ⟨x, l, c, m, n, D, Pl, hcs, _, hl, hm, hm', _, hel⟩
  · simp [Value.cells] at hcs
    obtain ⟨rfl, rfl, rfl⟩ := hcs
    exact ⟨[], rfl, ⟨by simp [maxLen], Nat.le_refl _⟩, ⟨by simp, by simp⟩⟩
  · simp [Value.cells] at hcs
    obtain ⟨rfl, rfl, rfl⟩ := hcs
    have hmm : m = cap := by simpa using hm'
    rw [c6] at hel
    have hone : ∀ i, i < len → ∃ (e : Tg), W.cell? ((x.add (i * 2)).add 0) = some (.string e.1) ∧ W.cell? ((x.add (i * 2)).add 1) = some (.float .f64 e.2) ∧ e.2 < 18446744073709551616 := by
      intro i hi
      obtain ⟨cs', h1, h2⟩ := hel i (by omega)
      obtain ⟨v0, v1, rfl, g0, g1⟩ := cells2 h1
      obtain ⟨xs, n', _, _, _, hx, hfs⟩ := DataW.trod_struct Tryz.underlying43 h2
      obtain ⟨y0, y1, rfl⟩ := list2 (show xs.length = 2 from hx)
      obtain ⟨s, e0, _, w0⟩ := DataW.trod_string Tryz.underlying9 (show DataW.trod enc Tryz.prog W 0 (fun _ => true) true n' 9 [v0] = some y0 from hfs 0 _ rfl)
      obtain ⟨b, rfl, hb⟩ := trod_float1 (show DataW.trod enc Tryz.prog W 0 (fun _ => true) true n' 39 [v1] = some y1 from hfs 1 _ rfl)
      simp only [List.cons.injEq, and_true] at e0
      subst e0
      exact ⟨(s, b), g0, g1, hb⟩
    obtain ⟨f, hfp⟩ := Deep.choose_lt (n := len) (p := fun i (e : Tg) => W.cell? ((x.add (i * 2)).add 0) = some (.string e.1) ∧ W.cell? ((x.add (i * 2)).add 1) = some (.float .f64 e.2) ∧ e.2 < 18446744073709551616) (fun i hi => hone i hi)
    refine ⟨(List.range len).map f, by simp, ⟨by omega, by omega⟩, ⟨fun t ht => ?_, fun i hi => ?_⟩⟩
    · obtain ⟨i, hi, rfl⟩ := List.mem_map.1 ht
      exact (hfp i (by simpa using hi)).2.2
    · simp only [List.length_map, List.length_range] at hi
      obtain ⟨h0, h1, _⟩ := hfp i hi
      have e : ((List.range len).map f)[i]'(by simpa using hi) = f i := by simp
      rw [e]
      obtain ⟨b, off, spot⟩ := x
      obtain ⟨h00, _⟩ := hfp 0 (by omega)
      have hspot : spot = none := by simpa [Addr.add] using World.cell?_spot h00
      subst hspot
      simp only [Addr.add_lit] at h0 h1
      exact ⟨b, off, rfl, h0, h1⟩
theorem elemT : Tryz.prog.underlying 23 = some (.slice (Tryz.prog.elem 23)) := by kernel_rfl
theorem sizeOfT (u : World) : (sizeOf (Tryz.prog.elem 23)).run Tryz.prog u = .ok 2 u := by kernel_rfl
theorem TgsAt.take {w : World} {a : Option Addr} {l : List Tg} (h : TgsAt w a l) (k : Nat) : TgsAt w a (l.take k) :=
  ⟨fun t ht => h.lt t (List.mem_of_mem_take ht), fun i hi => by
    rw [List.length_take] at hi
    obtain ⟨b, off, e, h1, h2⟩ := h.cell i (by omega)
    exact ⟨b, off, e, by rw [List.getElem_take]; exact h1, by rw [List.getElem_take]; exact h2⟩⟩
end Go.Proofs.YtpkpnedcecjlbaaGreatDoor
end
/- A configuration that came in. -/
section
namespace Go.Proofs.YtpkpnedcecjlbaaGreatDoor
open Go.ChangeShapes Go.WideShapes Go.ChangeAt Go.RowKit

/-- A pool: its name, its targets. -/
structure Po where
  nm : ByteArray
  ts : List Tg
instance : Inhabited Po := ⟨⟨⟨#[]⟩, []⟩⟩
instance : Inhabited Rt := ⟨rt0⟩
structure PosAt (w : World) (a : Option Addr) (l : List Po) : Prop where
  cell : ∀ i (hi : i < l.length), ∃ b off ta tc, a = some ⟨b, off, none⟩ ∧ w.cell? ⟨b, off + i * 2, none⟩ = some (.string l[i].nm) ∧ w.cell? ⟨b, off + i * 2 + 1, none⟩ = some (.slice ta l[i].ts.length tc) ∧ TgsAt w ta l[i].ts ∧ (l[i].ts.length ≤ maxLen ∧ l[i].ts.length ≤ tc) ∧ (ta = none → tc = 0)
theorem PosAt.later {w w' : World} {a : Option Addr} {l : List Po} (h : PosAt w a l) (hb : Below w.heap.size w w') : PosAt w' a l :=
  ⟨fun i hi => by obtain ⟨b, off, ta, tc, e, h1, h2, h3, h4⟩ := h.cell i hi; exact ⟨b, off, ta, tc, e, cell_later hb h1, cell_later hb h2, h3.later hb, h4⟩⟩
structure Cf where
  ver : Int
  rs : List Rt
  ps : List Po
structure CfH where
  ra : Option Addr
  rc : Nat
  pa : Option Addr
  pc : Nat
def cfVal (e : Cf) (h : CfH) : Value := .agg #[.int .i64 e.ver, .slice h.ra e.rs.length h.rc, .slice h.pa e.ps.length h.pc]
structure CfAt (w : World) (e : Cf) (h : CfH) : Prop where
  wv : -9223372036854775808 ≤ e.ver ∧ e.ver ≤ 9223372036854775807
  rts : RtsAt w h.ra e.rs
  pos : PosAt w h.pa e.ps
  rl : e.rs.length ≤ maxLen ∧ e.rs.length ≤ h.rc
  pl : e.ps.length ≤ maxLen ∧ e.ps.length ≤ h.pc
  rz : h.ra = none → h.rc = 0
theorem CfAt.later {w w' : World} {e : Cf} {h : CfH} (x : CfAt w e h) (hb : Below w.heap.size w w') : CfAt w' e h := ⟨x.wv, x.rts.later hb, x.pos.later hb, x.rl, x.pl, x.rz⟩
theorem slice_nil0 {H : Type} {enc : TypeId × Value → H} {W : World} {t e : TypeId} {a : Option Addr} {len cap : Nat} {d : DataW H} {p : List MemPlace} (hu : Tryz.prog.underlying t = some (.slice e))
    (h : DataW.Trod enc Tryz.prog W 0 (fun _ => true) true t (.slice a len cap) d p) : a = none → cap = 0 := by
  obtain ⟨fuel, hf⟩ := h
  rcases Deep.open_slice hu hf with ⟨hcs, _⟩ | ⟨x, l, c, m, n, D, Pl, hcs, _⟩
  · simp [Value.cells] at hcs
    exact fun _ => hcs.2.2
  · simp [Value.cells] at hcs
    rintro rfl
    exact absurd hcs.1 (by simp)
set_option maxRecDepth 20000 in
theorem routes_arg {H : Type} {enc : TypeId × Value → H} {W : World} {a : Option Addr} {len cap : Nat} {d : DataW H} {p : List MemPlace}
    (h : DataW.Trod enc Tryz.prog W 0 (fun _ => true) true 50 (.slice a len cap) d p) :
    ∃ es : List Rt, es.length = len ∧ (len ≤ maxLen ∧ len ≤ cap) ∧ RtsAt W a es := by
  obtain ⟨fuel, hf⟩ := h
  have c6 : Tryz.prog.cellsOf 67 = 3 := by kernel_rfl
  rcases Deep.open_slice Tryz.underlying50 hf with ⟨hcs, _⟩ | ⟨x, l, c, m, n, D, Pl, hcs, _, hl, hm, hm', _, hel⟩
  · simp [Value.cells] at hcs
    obtain ⟨rfl, rfl, rfl⟩ := hcs
    exact ⟨[], rfl, ⟨by simp [maxLen], Nat.le_refl _⟩, ⟨by simp, by simp⟩⟩
  · simp [Value.cells] at hcs
    obtain ⟨rfl, rfl, rfl⟩ := hcs
    have hmm : m = cap := by simpa using hm'
    rw [c6] at hel
    have hone : ∀ i, i < len → ∃ (e : Rt), W.cell? ((x.add (i * 3)).add 0) = some (.string e.h) ∧ W.cell? ((x.add (i * 3)).add 1) = some (.string e.p) ∧ W.cell? ((x.add (i * 3)).add 2) = some (.string e.l) ∧ e.h.size ≤ maxLen ∧ e.p.size ≤ maxLen ∧ e.l.size ≤ maxLen := by
      intro i hi
      obtain ⟨cs', h1, h2⟩ := hel i (by omega)
      obtain ⟨v0, v1, v2, rfl, g0, g1, g2⟩ := cells3 h1
      obtain ⟨xs, n', _, _, _, hx, hfs⟩ := DataW.trod_struct Tryz.underlying67 h2
      obtain ⟨y0, y1, y2, rfl⟩ := list3 (show xs.length = 3 from hx)
      obtain ⟨s0, e0, _, w0⟩ := DataW.trod_string Tryz.underlying9 (show DataW.trod enc Tryz.prog W 0 (fun _ => true) true n' 9 [v0] = some y0 from hfs 0 _ rfl)
      obtain ⟨s1, e1, _, w1⟩ := DataW.trod_string Tryz.underlying9 (show DataW.trod enc Tryz.prog W 0 (fun _ => true) true n' 9 [v1] = some y1 from hfs 1 _ rfl)
      obtain ⟨s2, e2, _, w2⟩ := DataW.trod_string Tryz.underlying9 (show DataW.trod enc Tryz.prog W 0 (fun _ => true) true n' 9 [v2] = some y2 from hfs 2 _ rfl)
      simp only [List.cons.injEq, and_true] at e0 e1 e2
      subst e0 e1 e2
      exact ⟨⟨s0, s1, s2⟩, g0, g1, g2, w0, w1, w2⟩
    obtain ⟨f, hfp⟩ := Deep.choose_lt (n := len) (p := fun i (e : Rt) => W.cell? ((x.add (i * 3)).add 0) = some (.string e.h) ∧ W.cell? ((x.add (i * 3)).add 1) = some (.string e.p) ∧ W.cell? ((x.add (i * 3)).add 2) = some (.string e.l) ∧ e.h.size ≤ maxLen ∧ e.p.size ≤ maxLen ∧ e.l.size ≤ maxLen) (fun i hi => hone i hi)
    refine ⟨(List.range len).map f, by simp, ⟨by omega, by omega⟩, ⟨fun t ht => ?_, fun i hi => ?_⟩⟩
    · obtain ⟨i, hi, rfl⟩ := List.mem_map.1 ht
      exact (hfp i (by simpa using hi)).2.2.2
    · simp only [List.length_map, List.length_range] at hi
      obtain ⟨h0, h1, h2, _⟩ := hfp i hi
      have e : ((List.range len).map f)[i]'(by simpa using hi) = f i := by simp
      rw [e]
      obtain ⟨b, off, spot⟩ := x
      obtain ⟨h00, _⟩ := hfp 0 (by omega)
      have hspot : spot = none := by simpa [Addr.add] using World.cell?_spot h00
      subst hspot
      simp only [Addr.add_lit] at h0 h1 h2
      exact ⟨b, off, rfl, h0, h1, h2⟩
set_option maxRecDepth 20000 in
theorem pools_arg {H : Type} {enc : TypeId × Value → H} {W : World} {a : Option Addr} {len cap : Nat} {d : DataW H} {p : List MemPlace}
    (h : DataW.Trod enc Tryz.prog W 0 (fun _ => true) true 51 (.slice a len cap) d p) :
    ∃ es : List Po, es.length = len ∧ (len ≤ maxLen ∧ len ≤ cap) ∧ PosAt W a es := by
  obtain ⟨fuel, hf⟩ := h
  have c6 : Tryz.prog.cellsOf 93 = 2 := by kernel_rfl
  rcases Deep.open_slice Tryz.underlying51 hf with ⟨hcs, _⟩ | ⟨x, l, c, m, n, D, Pl, hcs, _, hl, hm, hm', _, hel⟩
  · simp [Value.cells] at hcs
    obtain ⟨rfl, rfl, rfl⟩ := hcs
    exact ⟨[], rfl, ⟨by simp [maxLen], Nat.le_refl _⟩, ⟨by simp⟩⟩
  · simp [Value.cells] at hcs
    obtain ⟨rfl, rfl, rfl⟩ := hcs
    have hmm : m = cap := by simpa using hm'
    rw [c6] at hel
    have hone : ∀ i, i < len → ∃ (e : Po), ∃ ta tc, W.cell? ((x.add (i * 2)).add 0) = some (.string e.nm) ∧ W.cell? ((x.add (i * 2)).add 1) = some (.slice ta e.ts.length tc) ∧ TgsAt W ta e.ts ∧ (e.ts.length ≤ maxLen ∧ e.ts.length ≤ tc) ∧ (ta = none → tc = 0) := by
      intro i hi
      obtain ⟨cs', h1, h2⟩ := hel i (by omega)
      obtain ⟨v0, v1, rfl, g0, g1⟩ := cells2 h1
      obtain ⟨xs, n', _, _, _, hx, hfs⟩ := DataW.trod_struct Tryz.underlying93 h2
      obtain ⟨y0, y1, rfl⟩ := list2 (show xs.length = 2 from hx)
      obtain ⟨s0, e0, _, w0⟩ := DataW.trod_string Tryz.underlying9 (show DataW.trod enc Tryz.prog W 0 (fun _ => true) true n' 9 [v0] = some y0 from hfs 0 _ rfl)
      have t1 : DataW.trod enc Tryz.prog W 0 (fun _ => true) true n' 23 [v1] = some y1 := hfs 1 _ rfl
      obtain ⟨ta, tn, tc, e1⟩ := Joins.slice_form Tryz.underlying23 t1
      simp only [List.cons.injEq, and_true] at e0 e1
      subst e0 e1
      have hs : DataW.Trod enc Tryz.prog W 0 (fun _ => true) true 23 (.slice ta tn tc) y1.1 y1.2 := ⟨n', t1⟩
      obtain ⟨ts, rfl, hl2, hT⟩ := targets_arg hs
      exact ⟨⟨s0, ts⟩, ta, tc, g0, g1, hT, hl2, slice_nil0 Tryz.underlying23 hs⟩
    obtain ⟨f, hfp⟩ := Deep.choose_lt (n := len) (p := fun i (e : Po) => ∃ ta tc, W.cell? ((x.add (i * 2)).add 0) = some (.string e.nm) ∧ W.cell? ((x.add (i * 2)).add 1) = some (.slice ta e.ts.length tc) ∧ TgsAt W ta e.ts ∧ (e.ts.length ≤ maxLen ∧ e.ts.length ≤ tc) ∧ (ta = none → tc = 0)) (fun i hi => hone i hi)
    refine ⟨(List.range len).map f, by simp, ⟨by omega, by omega⟩, ⟨fun i hi => ?_⟩⟩
    simp only [List.length_map, List.length_range] at hi
    obtain ⟨ta, tc, h0, h1, h2, h3, h4⟩ := hfp i hi
    have e : ((List.range len).map f)[i]'(by simpa using hi) = f i := by simp
    rw [e]
    obtain ⟨b, off, spot⟩ := x
    obtain ⟨_, _, h00, _⟩ := hfp 0 (by omega)
    have hspot : spot = none := by simpa [Addr.add] using World.cell?_spot h00
    subst hspot
    simp only [Addr.add_lit] at h0 h1
    exact ⟨b, off, ta, tc, rfl, h0, h1, h2, h3, h4⟩
theorem list3a {vs : Array Value} (h : vs.size = 3) : ∃ c0 c1 c2, vs = #[c0, c1, c2] := by
  obtain ⟨l⟩ := vs
  obtain ⟨c0, c1, c2, rfl⟩ := list3 (show l.length = 3 from h)
  exact ⟨c0, c1, c2, rfl⟩
set_option maxRecDepth 20000 in
theorem open_conf {H : Type} {enc : TypeId × Value → H} {W : World} {r : Reach} {b0 : Nat} {v : Value} {d : DataW H} {p : List MemPlace} (hv : Value.okWide Tryz.prog W r b0 53 v)
    (h : DataW.Trod enc Tryz.prog W 0 (fun _ => true) true 53 v d p) : ∃ (e : Cf) (q : CfH), v = cfVal e q ∧ CfAt W e q := by
  obtain ⟨cs, rfl, hsz⟩ := okWide_struct Tryz.underlying53 hv
  have c6 : Tryz.prog.cellsOf 53 = 3 := by kernel_rfl
  obtain ⟨v0, v1, v2, rfl⟩ := list3a (hsz.trans c6)
  obtain ⟨fuel, hf⟩ := h
  have h2 : DataW.trod enc Tryz.prog W 0 (fun _ => true) true fuel 53 [v0, v1, v2] = some (d, p) := hf
  obtain ⟨xs, n', _, _, _, hx, hfs⟩ := DataW.trod_struct Tryz.underlying53 h2
  obtain ⟨y0, y1, y2, rfl⟩ := list3 (show xs.length = 3 from hx)
  obtain ⟨k, e0, _, w0⟩ := DataW.trod_int Tryz.underlying3 (show DataW.trod enc Tryz.prog W 0 (fun _ => true) true n' 3 [v0] = some y0 from hfs 0 _ rfl)
  have t1 : DataW.trod enc Tryz.prog W 0 (fun _ => true) true n' 50 [v1] = some y1 := hfs 1 _ rfl
  have t2 : DataW.trod enc Tryz.prog W 0 (fun _ => true) true n' 51 [v2] = some y2 := hfs 2 _ rfl
  obtain ⟨ra, rn, rc, e1⟩ := Joins.slice_form Tryz.underlying50 t1
  obtain ⟨pa, pn, pc, e2⟩ := Joins.slice_form Tryz.underlying51 t2
  simp only [List.cons.injEq, and_true] at e0 e1 e2
  subst e0 e1 e2
  have hs1 : DataW.Trod enc Tryz.prog W 0 (fun _ => true) true 50 (.slice ra rn rc) y1.1 y1.2 := ⟨n', t1⟩
  have hs2 : DataW.Trod enc Tryz.prog W 0 (fun _ => true) true 51 (.slice pa pn pc) y2.1 y2.2 := ⟨n', t2⟩
  obtain ⟨rs, rfl, hl1, hR⟩ := routes_arg hs1
  obtain ⟨ps, rfl, hl2, hP⟩ := pools_arg hs2
  exact ⟨⟨k, rs, ps⟩, ⟨ra, rc, pa, pc⟩, rfl, i64_bounds w0, hR, hP, hl1, hl2, slice_nil0 Tryz.underlying50 hs1⟩
/-- How great a configuration is, of the first j pools (as far as that is told). -/
def bigN (l : List Po) : Nat → Nat
  | 0 => 0
  | j + 1 => bigN l j + (1 + min (l.getD j default).ts.length 1000)
theorem po_at (l : List Po) (j : Nat) (hj : j < l.length) : l.getD j default = l[j] := by
  rw [List.getD_eq_getElem?_getD, List.getElem?_eq_getElem hj]; rfl
theorem bigN_mono (l : List Po) (j n : Nat) (h : j ≤ n) : bigN l j ≤ bigN l n := by
  induction n with
  | zero =>
    have h0 : j = 0 := by omega
    rw [h0]
    exact Nat.le_refl _
  | succ n ih =>
    by_cases he : j = n + 1
    · rw [he]
      exact Nat.le_refl _
    · exact Nat.le_trans (ih (by omega)) (Nat.le_add_right _ _)
def shortC (e : Cf) : Bool := decide (bigN e.ps e.ps.length ≤ 200) && decide (e.rs.length ≤ 200)
end Go.Proofs.YtpkpnedcecjlbaaGreatDoor
end
/- Regions that draw their order, walked operation by operation, with operations that are not wanted. -/
section
namespace Go.Proofs.YtpkpnedcecjlbaaGreatDoor
open Go.RowKit

end Go.Proofs.YtpkpnedcecjlbaaGreatDoor
end
