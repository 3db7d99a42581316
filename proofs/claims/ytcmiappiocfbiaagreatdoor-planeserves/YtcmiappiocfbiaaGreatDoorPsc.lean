/- Plane: a deed of the law as an argument. -/
import Derived.Test.YtcmiappiocfbiaaGreatDoorPsb
import Derived.Test.YtcmiappiocfbiaaGreatDoorArg
namespace Go.Proofs.YtcmiappiocfbiaaGreatDoor
open Go.ChangeShapes Go.WideShapes Go.ChangeAt Go.RowKit
set_option linter.unusedVariables false

set_option maxRecDepth 20000 in
theorem conf_trod {H : Type} {enc : TypeId × Value → H} {W : World} {n : Nat} {v0 v1 v2 : Value} {y : DataW H × List MemPlace}
    (h2 : DataW.trod enc Tryz.prog W 0 (fun _ => true) true n 28 [v0, v1, v2] = some y) : ∃ (e : Cf) (q : CfH), v0 = .int .i64 e.ver ∧ v1 = .slice q.ra e.rs.length q.rc ∧ v2 = .slice q.pa e.ps.length q.pc ∧ CfAt W e q := by
  obtain ⟨xs, n', _, _, _, hx, hfs⟩ := DataW.trod_struct Tryz.underlying28 h2
  obtain ⟨y0, y1, y2, rfl⟩ := list3 (show xs.length = 3 from hx)
  obtain ⟨k, e0, _, w0⟩ := DataW.trod_int Tryz.underlying3 (show DataW.trod enc Tryz.prog W 0 (fun _ => true) true n' 3 [v0] = some y0 from hfs 0 _ rfl)
  have t1 : DataW.trod enc Tryz.prog W 0 (fun _ => true) true n' 25 [v1] = some y1 := hfs 1 _ rfl
  have t2 : DataW.trod enc Tryz.prog W 0 (fun _ => true) true n' 26 [v2] = some y2 := hfs 2 _ rfl
  obtain ⟨ra, rn, rc, e1⟩ := Joins.slice_form Tryz.underlying25 t1
  obtain ⟨pa, pn, pc, e2⟩ := Joins.slice_form Tryz.underlying26 t2
  simp only [List.cons.injEq, and_true] at e0 e1 e2
  subst e0 e1 e2
  have hs1 : DataW.Trod enc Tryz.prog W 0 (fun _ => true) true 25 (.slice ra rn rc) y1.1 y1.2 := ⟨n', t1⟩
  have hs2 : DataW.Trod enc Tryz.prog W 0 (fun _ => true) true 26 (.slice pa pn pc) y2.1 y2.2 := ⟨n', t2⟩
  obtain ⟨rs, rfl, hl1, hR⟩ := routes_arg hs1
  obtain ⟨ps, rfl, hl2, hP⟩ := pools_arg hs2
  exact ⟨⟨k, rs, ps⟩, ⟨ra, rc, pa, pc⟩, rfl, rfl, rfl, i64_bounds w0, hR, hP, hl1, hl2, slice_nil0 Tryz.underlying25 hs1⟩
theorem list4p {α : Type} {l : List α} (h : l.length = 4) : ∃ c0 c1 c2 c3, l = [c0, c1, c2, c3] := by
  match l, h with
  | [c0, c1, c2, c3], _ => exact ⟨c0, c1, c2, c3, rfl⟩
theorem list6p {vs : Array Value} (h : vs.size = 6) : ∃ c0 c1 c2 c3 c4 c5, vs = #[c0, c1, c2, c3, c4, c5] := by
  obtain ⟨l⟩ := vs
  match l, h with
  | [c0, c1, c2, c3, c4, c5], _ => exact ⟨c0, c1, c2, c3, c4, c5, rfl⟩
/-- A deed of a plane's script, and where its rows lie. -/
structure Pd where
  kind : Int
  cf : Cf
  bs : List Nat
  draw : Nat
structure PdH where
  cf : CfH
  ba : Option Addr
  bc : Nat
def pdVal (e : Pd) (h : PdH) : Value := .agg #[.int .i64 e.kind, .int .i64 e.cf.ver, .slice h.cf.ra e.cf.rs.length h.cf.rc, .slice h.cf.pa e.cf.ps.length h.cf.pc, .slice h.ba e.bs.length h.bc, .float .f64 e.draw]
structure PdAt (w : World) (e : Pd) (h : PdH) : Prop where
  wk : -9223372036854775808 ≤ e.kind ∧ e.kind ≤ 9223372036854775807
  cf : CfAt w e.cf h.cf
  bts : BytesAt w h.ba e.bs
  bl : e.bs.length ≤ h.bc ∧ h.bc ≤ maxLen
  bz : h.ba = none → h.bc = 0
  dl : e.draw < 18446744073709551616
theorem PdAt.later {w w' : World} {e : Pd} {h : PdH} (x : PdAt w e h) (hb : Below w.heap.size w w') : PdAt w' e h := ⟨x.wk, x.cf.later hb, x.bts.later hb, x.bl, x.bz, x.dl⟩
set_option maxRecDepth 20000 in
theorem pd_open {H : Type} {enc : TypeId × Value → H} {W : World} {n : Nat} {v0 v1 v2 v3 v4 v5 : Value} {y : DataW H × List MemPlace}
    (h2 : DataW.trod enc Tryz.prog W 0 (fun _ => true) true n 32 [v0, v1, v2, v3, v4, v5] = some y) :
    ∃ (e : Pd) (h : PdH), v0 = .int .i64 e.kind ∧ v1 = .int .i64 e.cf.ver ∧ v2 = .slice h.cf.ra e.cf.rs.length h.cf.rc ∧ v3 = .slice h.cf.pa e.cf.ps.length h.cf.pc ∧ v4 = .slice h.ba e.bs.length h.bc ∧ v5 = .float .f64 e.draw ∧ PdAt W e h := by
  obtain ⟨xs, n', _, _, _, hx, hfs⟩ := DataW.trod_struct Tryz.underlying32 h2
  obtain ⟨y0, y1, y2, y3, rfl⟩ := list4p (show xs.length = 4 from hx)
  obtain ⟨k, e0, _, w0⟩ := DataW.trod_int Tryz.underlying3 (show DataW.trod enc Tryz.prog W 0 (fun _ => true) true n' 3 [v0] = some y0 from hfs 0 _ rfl)
  obtain ⟨e, q, rfl, rfl, rfl, hc⟩ := conf_trod (show DataW.trod enc Tryz.prog W 0 (fun _ => true) true n' 28 [v1, v2, v3] = some y1 from hfs 1 _ rfl)
  have t4 : DataW.trod enc Tryz.prog W 0 (fun _ => true) true n' 29 [v4] = some y2 := hfs 2 _ rfl
  obtain ⟨x, rfl, hd⟩ := trod_float1 (show DataW.trod enc Tryz.prog W 0 (fun _ => true) true n' 30 [v5] = some y3 from hfs 3 _ rfl)
  obtain ⟨a', l', c', e4⟩ := Joins.slice_form Tryz.underlying29 t4
  simp only [List.cons.injEq, and_true] at e0 e4
  subst e0 e4
  have hs : DataW.Trod enc Tryz.prog W 0 (fun _ => true) true 29 (.slice a' l' c') y2.1 y2.2 := ⟨n', t4⟩
  obtain ⟨bs, rfl, hc4, hx4, hb, hz, _⟩ := row8 hs
  exact ⟨⟨k, e, bs, x⟩, ⟨q, a', c'⟩, rfl, rfl, rfl, rfl, rfl, rfl, i64_bounds w0, hc, hb, ⟨hc4, hx4⟩, hz, hd⟩
set_option maxRecDepth 20000 in
theorem open_pd {H : Type} {enc : TypeId × Value → H} {W : World} {r : Reach} {b0 : Nat} {v : Value} {d : DataW H} {p : List MemPlace} (hv : Value.okWide Tryz.prog W r b0 32 v)
    (h : DataW.Trod enc Tryz.prog W 0 (fun _ => true) true 32 v d p) : ∃ (e : Pd) (q : PdH), v = pdVal e q ∧ PdAt W e q := by
  obtain ⟨cs, rfl, hsz⟩ := okWide_struct Tryz.underlying32 hv
  have c6 : Tryz.prog.cellsOf 32 = 6 := by kernel_rfl
  obtain ⟨v0, v1, v2, v3, v4, v5, rfl⟩ := list6p (hsz.trans c6)
  obtain ⟨fuel, hf⟩ := h
  obtain ⟨e, q, rfl, rfl, rfl, rfl, rfl, rfl, hd⟩ := pd_open (show DataW.trod enc Tryz.prog W 0 (fun _ => true) true fuel 32 [v0, v1, v2, v3, v4, v5] = some (d, p) from hf)
  exact ⟨e, q, rfl, hd⟩
end Go.Proofs.YtcmiappiocfbiaaGreatDoor
