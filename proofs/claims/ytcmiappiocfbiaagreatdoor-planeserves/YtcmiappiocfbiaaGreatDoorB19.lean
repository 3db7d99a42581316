/- Plane: three boxes that stay while other things are done (the law PlaneSame). -/
import Derived.Test.YtcmiappiocfbiaaGreatDoorB18
import Derived.Test.YtcmiappiocfbiaaGreatDoorB07
import Derived.Shelf.Strings.Builder1
import Derived.Shelf.Strings.Builder2
import Derived.Shelf.Strings.OnBuilder
import Derived.Shelf.Strings.Trim
import Derived.Shelf.Small.Utf8
import Derived.Shelf.Small.Strs
import Derived.Shelf.Small.Wraps
import Derived.Shelf.Strings.BuilderF
import Derived.Shelf.Strings.BuilderK
import Derived.Shelf.Strings.BuilderRune
import Derived.Shelf.Strings.Search1
import Derived.Shelf.Strings.Search2
import Derived.Shelf.Strings.Search3
import Derived.Shelf.Strings.Cut
import Derived.Shelf.LaysM
import Derived.Shelf.Strings.Shaped
import Derived.Shelf.Strings.Prefix
import Derived.Shelf.Unicode.Latin
import Derived.Shelf.Strings.Runes
import Derived.Shelf.Strings.AsciiSet
import Derived.Shelf.Unicode.DecodeSlow
import Derived.Shelf.Unicode.DecodeAny
import Derived.Shelf.Unicode.CaseLookup
import Derived.Shelf.Unicode.CaseConvert
import Derived.Shelf.Unicode.CaseTo
import Derived.Shelf.Unicode.CaseLaid
import Derived.Shelf.Strings.MapAny
import Derived.Shelf.Strings.CaseAny
import Derived.Shelf.Bytes.SlIndexSmall
import Derived.Shelf.Bytes.SlIndexAt
import Derived.Shelf.Bytes.SlSearch0
import Derived.Shelf.Bytes.SlSearch1
import Derived.Shelf.Bytes.SlSearch2
import Derived.Shelf.Bytes.SlIndexWhole
import Derived.Shelf.Bytes.Small
import Derived.Shelf.Bytes.IndexByte
import Derived.Test.YtcmiappiocfbiaaGreatDoorProg
import Derived.Test.YtcmiappiocfbiaaGreatDoorB09
import Derived.Test.YtcmiappiocfbiaaGreatDoorRows
import Derived.Lib.LaidCase
import Derived.Lib.LaidU8
import Derived.Lib.LaidIn
import Derived.HandedShaped
import Derived.Handed
import Derived.MakeChecks
import Derived.Test.YtcmiappiocfbiaaGreatDoorB05
section
namespace Go.Proofs.YtcmiappiocfbiaaGreatDoor
open Go.ChangeShapes Go.WideShapes Go.ChangeAt Go.RowKit
set_option linter.unusedVariables false

/-- Two configurations and a deed in their boxes. -/
structure SmAt (w : World) (a : Cf) (ha : CfH) (b : Cf) (hb : CfH) (x : Pd) (hx : PdH) (W : World) : Prop where
  r0 : W.heap[w.heap.size]? = some (.cells #[.int .i64 a.ver, .slice ha.ra a.rs.length ha.rc, .slice ha.pa a.ps.length ha.pc] 28 (0, 0))
  r1 : W.heap[w.heap.size + 1]? = some (.cells #[.int .i64 b.ver, .slice hb.ra b.rs.length hb.rc, .slice hb.pa b.ps.length hb.pc] 28 (0, 0))
  r2 : W.heap[w.heap.size + 2]? = some (.cells #[.int .i64 x.kind, .int .i64 x.cf.ver, .slice hx.cf.ra x.cf.rs.length hx.cf.rc, .slice hx.cf.pa x.cf.ps.length hx.cf.pc, .slice hx.ba x.bs.length hx.bc, .float .f64 x.draw] 32 (0, 0))
  bel : Below w.heap.size w W
section
variable {w W W' : World} {a : Cf} {ha : CfH} {b : Cf} {hb : CfH} {x : Pd} {hx : PdH}
theorem SmAt.sz (s : SmAt w a ha b hb x hx W) : w.heap.size + 3 ≤ W.heap.size := (Array.getElem?_eq_some_iff.1 s.r2).1
theorem SmAt.later (s : SmAt w a ha b hb x hx W) (h : Below W.heap.size W W') : SmAt w a ha b hb x hx W' := ⟨later_block h s.r0, later_block h s.r1, later_block h s.r2, s.bel.trans (h.mono s.bel.size)⟩
theorem SmAt.grown (s : SmAt w a ha b hb x hx W) {P : Nat} (h : W.grownBy W' (some P)) (hP : w.heap.size + 3 ≤ P) : SmAt w a ha b hb x hx W' := by
  have z := s.sz
  have k : ∀ j, j < w.heap.size + 3 → W'.heap[j]? = W.heap[j]? := fun j hj => h.block j (by omega) (fun e => by have := Option.some.inj e; omega)
  exact ⟨(k _ (by omega)).trans s.r0, (k _ (by omega)).trans s.r1, (k _ (by omega)).trans s.r2, s.bel.grown h s.bel.size (fun j e => by have := Option.some.inj e; omega)⟩
theorem SmAt.cells (s : SmAt w a ha b hb x hx W) : (W.cell? ⟨w.heap.size, 0, none⟩ = some (.int .i64 a.ver) ∧ W.cell? ⟨w.heap.size, 1, none⟩ = some (.slice ha.ra a.rs.length ha.rc) ∧ W.cell? ⟨w.heap.size, 2, none⟩ = some (.slice ha.pa a.ps.length ha.pc)) ∧ (W.cell? ⟨w.heap.size + 1, 0, none⟩ = some (.int .i64 b.ver) ∧ W.cell? ⟨w.heap.size + 1, 1, none⟩ = some (.slice hb.ra b.rs.length hb.rc) ∧ W.cell? ⟨w.heap.size + 1, 2, none⟩ = some (.slice hb.pa b.ps.length hb.pc)) ∧ W.cell? ⟨w.heap.size + 2, 4, none⟩ = some (.slice hx.ba x.bs.length hx.bc) ∧ W.cell? ⟨w.heap.size + 2, 5, none⟩ = some (.float .f64 x.draw) :=
  ⟨⟨box_cell s.r0 0 _ rfl, box_cell s.r0 1 _ rfl, box_cell s.r0 2 _ rfl⟩, ⟨box_cell s.r1 0 _ rfl, box_cell s.r1 1 _ rfl, box_cell s.r1 2 _ rfl⟩, box_cell s.r2 4 _ rfl, box_cell s.r2 5 _ rfl⟩
end
theorem sm_first (w : World) (a : Cf) (ha : CfH) (b : Cf) (hb : CfH) (x : Pd) (hx : PdH) : SmAt w a ha b hb x hx (((w.alloc (.cells #[.int .i64 a.ver, .slice ha.ra a.rs.length ha.rc, .slice ha.pa a.ps.length ha.pc] 28)).alloc (.cells #[.int .i64 b.ver, .slice hb.ra b.rs.length hb.rc, .slice hb.pa b.ps.length hb.pc] 28)).alloc (.cells #[.int .i64 x.kind, .int .i64 x.cf.ver, .slice hx.cf.ra x.cf.rs.length hx.cf.rc, .slice hx.cf.pa x.cf.ps.length hx.cf.pc, .slice hx.ba x.bs.length hx.bc, .float .f64 x.draw] 32)) := by
  have b1 : Below w.heap.size w (w.alloc (.cells #[.int .i64 a.ver, .slice ha.ra a.rs.length ha.rc, .slice ha.pa a.ps.length ha.pc] 28)) := (Below.refl _ _).alloc (Nat.le_refl _) _
  have X1 := heap_new w (.cells #[.int .i64 a.ver, .slice ha.ra a.rs.length ha.rc, .slice ha.pa a.ps.length ha.pc] 28)
  have s1 : (w.alloc (.cells #[.int .i64 a.ver, .slice ha.ra a.rs.length ha.rc, .slice ha.pa a.ps.length ha.pc] 28)).heap.size = w.heap.size + 1 := by simp
  generalize w.alloc (.cells #[.int .i64 a.ver, .slice ha.ra a.rs.length ha.rc, .slice ha.pa a.ps.length ha.pc] 28) = W1 at *
  have b2 : Below W1.heap.size W1 (W1.alloc (.cells #[.int .i64 b.ver, .slice hb.ra b.rs.length hb.rc, .slice hb.pa b.ps.length hb.pc] 28)) := (Below.refl _ _).alloc (Nat.le_refl _) _
  have X2 := heap_new W1 (.cells #[.int .i64 b.ver, .slice hb.ra b.rs.length hb.rc, .slice hb.pa b.ps.length hb.pc] 28)
  have s2 : (W1.alloc (.cells #[.int .i64 b.ver, .slice hb.ra b.rs.length hb.rc, .slice hb.pa b.ps.length hb.pc] 28)).heap.size = W1.heap.size + 1 := by simp
  generalize W1.alloc (.cells #[.int .i64 b.ver, .slice hb.ra b.rs.length hb.rc, .slice hb.pa b.ps.length hb.pc] 28) = W2 at *
  have b3 : Below W2.heap.size W2 (W2.alloc (.cells #[.int .i64 x.kind, .int .i64 x.cf.ver, .slice hx.cf.ra x.cf.rs.length hx.cf.rc, .slice hx.cf.pa x.cf.ps.length hx.cf.pc, .slice hx.ba x.bs.length hx.bc, .float .f64 x.draw] 32)) := (Below.refl _ _).alloc (Nat.le_refl _) _
  have X3 := heap_new W2 (.cells #[.int .i64 x.kind, .int .i64 x.cf.ver, .slice hx.cf.ra x.cf.rs.length hx.cf.rc, .slice hx.cf.pa x.cf.ps.length hx.cf.pc, .slice hx.ba x.bs.length hx.bc, .float .f64 x.draw] 32)
  rw [s1] at X2 s2
  rw [s2] at X3
  exact ⟨later_block b3 (later_block b2 X1), later_block b3 X2, X3, b1.trans ((b2.trans (b3.mono b2.size)).mono b1.size)⟩
/-- Two planes beside the boxes. -/
structure Pl2 (w : World) (a : Cf) (ha : CfH) (b : Cf) (hb : CfH) (x : Pd) (hx : PdH) (P Q bp bq : Nat) (e : Cf) (h : CfH) (f : Cf) (k : CfH) (W : World) : Prop where
  s : SmAt w a ha b hb x hx W
  p : PlOwn bp W P e h
  q : PlOwn bq W Q f k
  hP : w.heap.size + 3 ≤ P
  hQ : w.heap.size + 3 ≤ Q
  ne : P ≠ Q
  qb : Q < bp
  pb : P < bq
section
variable {w W W' : World} {a : Cf} {ha : CfH} {b : Cf} {hb : CfH} {x : Pd} {hx : PdH} {P Q bp bq : Nat} {e : Cf} {h : CfH} {f : Cf} {k : CfH}
theorem Pl2.later (z : Pl2 w a ha b hb x hx P Q bp bq e h f k W) (u : Below W.heap.size W W') : Pl2 w a ha b hb x hx P Q bp bq e h f k W' := ⟨z.s.later u, z.p.later u, z.q.later u, z.hP, z.hQ, z.ne, z.qb, z.pb⟩
theorem Pl2.drew (z : Pl2 w a ha b hb x hx P Q bp bq e h f k W) : Pl2 w a ha b hb x hx P Q bp bq e h f k W.drew := z.later ((Below.refl _ _).drew)
theorem Pl2.lt (z : Pl2 w a ha b hb x hx P Q bp bq e h f k W) : P < W.heap.size ∧ Q < W.heap.size := ⟨(Array.getElem?_eq_some_iff.1 z.p.row).1, (Array.getElem?_eq_some_iff.1 z.q.row).1⟩
/-- The first plane is given a configuration that is newer. -/
theorem applyP_calls (z : Pl2 w a ha b hb x hx P Q bp bq e h f k W) {c : Cf} {l : CfH} (hc : CfAt w c l) (hs : shortC c = true) (hv : e.ver < c.ver) :
    Calls Tryz.prog 9 #[.pointer (some ⟨P, 0, none⟩), cfVal c l] W fun r W' => r = .returned (.int .i64 0) ∧ ∃ h', Pl2 w a ha b hb x hx P Q W.heap.size bq c h' f k W' := by
  obtain ⟨h1, h2, h3⟩ := short_each hs
  refine (apply_calls z.p (hc.later z.s.bel) (by omega) (by omega) (fun y hy => by have := h3 y hy; omega)).mono ?_
  rintro r W' ⟨⟨hn, _⟩ | ⟨_, rfl, h', ho⟩, g⟩
  · omega
  · exact ⟨rfl, h', z.s.grown g z.hP, ho, z.q.other g z.ne.symm z.pb, z.hP, z.hQ, z.ne, z.lt.2, z.pb⟩
/-- .. one that is not newer. -/
theorem applyO_calls (z : Pl2 w a ha b hb x hx P Q bp bq e h f k W) {c : Cf} {l : CfH} (hc : CfAt w c l) (hs : shortC c = true) (hv : c.ver ≤ e.ver) :
    Calls Tryz.prog 9 #[.pointer (some ⟨P, 0, none⟩), cfVal c l] W fun r W' => r = .returned (.int .i64 12) ∧ Pl2 w a ha b hb x hx P Q bp bq e h f k W' := by
  obtain ⟨h1, h2, h3⟩ := short_each hs
  refine (apply_calls z.p (hc.later z.s.bel) (by omega) (by omega) (fun y hy => by have := h3 y hy; omega)).mono ?_
  rintro r W' ⟨⟨_, rfl, ho⟩ | ⟨hn, _⟩, g⟩
  · exact ⟨rfl, z.s.grown g z.hP, ho, z.q.other g z.ne.symm z.pb, z.hP, z.hQ, z.ne, z.qb, z.pb⟩
  · omega
/-- .. any. -/
theorem applyA_calls (z : Pl2 w a ha b hb x hx P Q bp bq e h f k W) {c : Cf} {l : CfH} (hc : CfAt w c l) (hs : shortC c = true) {n : Int} (he : e.ver < n) (hv : c.ver < n) :
    Calls Tryz.prog 9 #[.pointer (some ⟨P, 0, none⟩), cfVal c l] W fun r W' => ∃ m, r = .returned (.int .i64 m) ∧ ∃ bp' e' h', Pl2 w a ha b hb x hx P Q bp' bq e' h' f k W' ∧ e'.ver < n := by
  by_cases hh : e.ver < c.ver
  · refine (applyP_calls z hc hs hh).mono ?_
    rintro r W' ⟨rfl, h', ho⟩
    exact ⟨_, rfl, _, _, _, ho, hv⟩
  · refine (applyO_calls z hc hs (by omega)).mono ?_
    rintro r W' ⟨rfl, ho⟩
    exact ⟨_, rfl, _, _, _, ho, he⟩
theorem Pl2.swap (z : Pl2 w a ha b hb x hx P Q bp bq e h f k W) : Pl2 w a ha b hb x hx Q P bq bp f k e h W := ⟨z.s, z.q, z.p, z.hQ, z.hP, z.ne.symm, z.pb, z.qb⟩
theorem applyQ_calls (z : Pl2 w a ha b hb x hx P Q bp bq e h f k W) {c : Cf} {l : CfH} (hc : CfAt w c l) (hs : shortC c = true) (hv : f.ver < c.ver) :
    Calls Tryz.prog 9 #[.pointer (some ⟨Q, 0, none⟩), cfVal c l] W fun r W' => r = .returned (.int .i64 0) ∧ ∃ h', Pl2 w a ha b hb x hx P Q bp W.heap.size e h c h' W' := by
  refine (applyP_calls z.swap hc hs hv).mono ?_
  rintro r W' ⟨rfl, h', ho⟩
  exact ⟨rfl, h', ho.swap⟩
end
/-- Two new planes. -/
theorem new2 {w W W' W'' : World} {a : Cf} {ha : CfH} {b : Cf} {hb : CfH} {x : Pd} {hx : PdH} (s : SmAt w a ha b hb x hx W) (h1 : ∀ base, PlOwn base W' W.heap.size ⟨0, [], []⟩ ⟨none, 0, none, 0⟩) (b1 : Below W.heap.size W W') (h2 : ∀ base, PlOwn base W'' W'.heap.size ⟨0, [], []⟩ ⟨none, 0, none, 0⟩) (b2 : Below W'.heap.size W' W'') :
    Pl2 w a ha b hb x hx W.heap.size W'.heap.size W''.heap.size W''.heap.size ⟨0, [], []⟩ ⟨none, 0, none, 0⟩ ⟨0, [], []⟩ ⟨none, 0, none, 0⟩ W'' := by
  have z := s.sz
  have l1 : W.heap.size < W'.heap.size := (Array.getElem?_eq_some_iff.1 (h1 0).row).1
  have l2 : W'.heap.size < W''.heap.size := (Array.getElem?_eq_some_iff.1 (h2 0).row).1
  exact ⟨(s.later b1).later b2, (h1 _).later b2, h2 _, z, by omega, by omega, l2, by omega⟩
end Go.Proofs.YtcmiappiocfbiaaGreatDoor
end
/- Contracts of the library's functions at this program's numbers. -/
section
namespace Go.Proofs
open Go.Shelf
def Tryz.laysM145_ren : Go.Shelf.Ren := ⟨fun | 145 => 66 | 220 => 77 | 219 => 85 | 217 => 104 | 225 => 105 | 224 => 64 | 267 => 106 | 266 => 121 | 314 => 122 | n => n, fun | 9 => 9 | 4 => 4 | 59 => 81 | 3 => 3 | 5 => 5 | 46 => 107 | 146 => 115 | 51 => 114 | n => n, fun | 1 => 1 | n => n⟩
theorem Tryz.laysM145 : Go.Proofs.LaysM.n145 Tryz.prog Tryz.laysM145_ren := {
  mixed := by kernel_rfl
  f145 := Tryz.func66.trans (congrArg some (by kernel_rfl))
  f217 := Tryz.func104.trans (congrArg some (by kernel_rfl))
  f219 := Tryz.func85.trans (congrArg some (by kernel_rfl))
  f220 := Tryz.func77.trans (congrArg some (by kernel_rfl))
  f224 := Tryz.func64.trans (congrArg some (by kernel_rfl))
  f225 := Tryz.func105.trans (congrArg some (by kernel_rfl))
  f266 := Tryz.func121.trans (congrArg some (by kernel_rfl))
  f267 := Tryz.func106.trans (congrArg some (by kernel_rfl))
  f314 := Tryz.func122.trans (congrArg some (by kernel_rfl))
  t3 := Tryz.underlying3
  a3 := Tryz.isAgg3
  z3 := Tryz.sizeOf3
  v3 := Tryz.zeroValue3
  t4 := Tryz.underlying4
  a4 := Tryz.isAgg4
  z4 := Tryz.sizeOf4
  v4 := Tryz.zeroValue4
  t5 := Tryz.underlying5
  a5 := Tryz.isAgg5
  z5 := Tryz.sizeOf5
  v5 := Tryz.zeroValue5
  t9 := Tryz.underlying9
  a9 := Tryz.isAgg9
  z9 := Tryz.sizeOf9
  v9 := Tryz.zeroValue9
  t46 := Tryz.underlying107
  a46 := Tryz.isAgg107
  z46 := Tryz.sizeOf107
  v46 := Tryz.zeroValue107
  t51 := Tryz.underlying114
  a51 := Tryz.isAgg114
  z51 := Tryz.sizeOf114
  v51 := Tryz.zeroValue114
  t59 := Tryz.underlying81
  a59 := Tryz.isAgg81
  z59 := Tryz.sizeOf81
  v59 := Tryz.zeroValue81
  t146 := Tryz.underlying115
  a146 := Tryz.isAgg115
  z146 := Tryz.sizeOf115
  v146 := Tryz.zeroValue115
  g1 := by kernel_rfl
  i3 := by kernel_rfl
  i4 := by kernel_rfl
  i5 := by kernel_rfl
  i9 := by kernel_rfl
  i46 := by kernel_rfl
  i51 := by kernel_rfl
  i59 := by kernel_rfl
  i146 := by kernel_rfl
  m1 := by kernel_rfl
  s1_3 := fun w h => Go.Proofs.cell_of_shapedOpen_int (zero := #[.int .i64 0]) (t := 3) h (of_decide_eq_true (by kernel_rfl)) (by kernel_rfl) rfl (by kernel_rfl) (by kernel_rfl) Tryz.underlying3 }
end Go.Proofs
end
/- The tables of the library's, as a tied row lays them. -/
section
namespace Go.Proofs.YtcmiappiocfbiaaGreatDoor
open Go.ChangeShapes Go.WideShapes Go.ChangeAt Go.RowKit Go.Lib
set_option linter.unusedVariables false

theorem first_is : Rows.laid_unicode_utf8_first = firstData := by kernel_rfl
theorem accept_is : (Rows.laid_unicode_utf8_acceptRanges : DataW Unit) = acceptData := by kernel_rfl
theorem case_is : Rows.laid_unicode_CaseRanges = caseData := by kernel_rfl
theorem lz_of {W : World} (hL : laidMet Tryz.prog [("unicode/utf8.acceptRanges", Rows.laid_unicode_utf8_acceptRanges), ("unicode.CaseRanges", Rows.laid_unicode_CaseRanges), ("unicode/utf8.first", Rows.laid_unicode_utf8_first)] W) (hsh : W.ShapedOpen Tryz.prog) : Lz W :=
  ⟨Tryz.laysM145.s1_3 W hsh,
   caseVar_of_reads { Tryz.lays159 with } Tryz.lays159.t206 ⟨by kernel_rfl, by kernel_rfl, by kernel_rfl, by kernel_rfl, by kernel_rfl, by kernel_rfl⟩ (by have := Lib.laidMet.reads hL (.tail _ (.head _)); rwa [case_is] at this),
   utf8Tabs_of_reads { Tryz.lays159 with } ⟨by kernel_rfl, by kernel_rfl, by kernel_rfl, by kernel_rfl, by kernel_rfl, by kernel_rfl, by kernel_rfl⟩ (by have := Lib.laidMet.reads hL (.tail _ (.tail _ (.head _))); rwa [first_is] at this) (by have := Lib.laidMet.reads hL (.head _); rwa [accept_is] at this)⟩
/-- A contract over a first world of which both is known: what X says, and its shape. -/
theorem handed_both {H : Type} {enc : TypeId × Value → H} {a : Assume} {C : Checked} {os : Os} {f : FuncId} {fn : Func} {s : ChangeSpec} {conds : List PathCond} {apart fresh handsOn again : Bool} {X : World → Array Value → Prop}
    (hX : ∀ (w w' : World) (args : Array Value), w.heap = w'.heap → X w args → X w' args)
    (own : ownKnob C.prog.godebug = none) (started : os.Started) (noInit : C.prog.inits.idxOf? f = none) (hfn : C.prog.funcs[f]? = some fn)
    (witness : ∃ (w : World) (tape : Tape) (i : Input), w.os = os ∧ (w.forCall tape i).Shaped C.prog ∧ i.vars = [] ∧ Input.okWide C.prog (w.forCall tape i) .any w.heap.size f i ∧
      ((s.pre enc C.prog fn conds apart (w.forCall tape i).memory i.args ∧ X (w.forCall tape i).memory i.args) ∧ sizedMet enc C.prog fn (OpenSpec.ofChange s) apart (w.forCall tape i).memory i.args) ∧ a.holds C.prog (lone (Frame.enter C.prog f i.args .normal) [] (w.forCall tape i)))
    (contract : ∀ (W : World) (base : Nat) (args : Array Value) (ds gs : List (DataW H)) (before : List MemPlace),
      (∀ (j : Nat) t v, fn.params[j]? = some t → args[j]? = some v → Value.okWide C.prog W .any base t v) →
      DataW.Whole enc C.prog fn.params.toList s.vars apart W args.toList ds gs before →
      conds.all (PathCond.test C.prog ⟨fn.params.toList, ds, s.plain.varTypes C.prog, gs⟩) = true →
      (DataW.weightsEach C.prog (fn.params.toList ++ s.plain.varTypes C.prog) (ds ++ gs)).all (· ≤ reachBytes) = true → X W args → W.ShapedOpen C.prog →
      a.holds C.prog (lone (Frame.enter C.prog f args .normal) [] W) →
      Calls C.prog f args W fun e W' => ∃ v, e = .returned v ∧ s.post enc C.prog fn apart fresh handsOn again W args v W') :
    ReturnsInHanded a C os f .any (fun w args => (s.pre enc C.prog fn conds apart w args ∧ X w args) ∧ sizedMet enc C.prog fn (OpenSpec.ofChange s) apart w args) (s.post enc C.prog fn apart fresh handsOn again) := by
  refine returnsInHanded_of_calls own started noInit witness ?_
  intro w tape i _ hsh _ hok hpre hholds
  obtain ⟨_, _, _, gn, hgn, _, _, _, _, hval⟩ := hok
  obtain rfl : gn = fn := Option.some.inj (hgn.symm.trans hfn)
  obtain ⟨⟨⟨ds, gs, before, hw, hc⟩, hx⟩, hz⟩ := hpre
  refine (contract (w.forCall tape i) w.heap.size i.args ds gs before hval (DataW.Whole.of_heap (w' := w.forCall tape i) (by rfl) hw) hc (hz.weights hw) (hX _ _ _ (by rfl) hx) hsh hholds).mono fun e W' h => ?_
  obtain ⟨v, rfl, hp⟩ := h
  exact ChangeSpec.post_blind hp
end Go.Proofs.YtcmiappiocfbiaaGreatDoor
end
/- Plane: which answers there are (the law PlaneAny). -/
section
namespace Go.Proofs.YtcmiappiocfbiaaGreatDoor
open Go.ChangeShapes Go.WideShapes Go.ChangeAt Go.RowKit
set_option linter.unusedVariables false

def hitT (pool addr : ByteArray) (p : Po) (t : Tg) : Bool := (p.nm.toList == pool.toList) && (t.1.toList == addr.toList)
def hitP (pool addr : ByteArray) (p : Po) (k : Nat) : Bool := (p.ts.take k).any (hitT pool addr p)
def hitC (pool addr : ByteArray) (ps : List Po) (j : Nat) : Bool := (ps.take j).any (fun p => hitP pool addr p p.ts.length)
theorem hitP_zero (pool addr : ByteArray) (p : Po) : hitP pool addr p 0 = false := by simp [hitP]
theorem hitC_zero (pool addr : ByteArray) (ps : List Po) : hitC pool addr ps 0 = false := by simp [hitC]
theorem hitP_succ (pool addr : ByteArray) (p : Po) (k : Nat) (hk : k < p.ts.length) : hitP pool addr p (k + 1) = (hitP pool addr p k || hitT pool addr p p.ts[k]) := by
  unfold hitP
  rw [List.take_succ_eq_append_getElem hk, List.any_append]
  simp
theorem hitC_succ (pool addr : ByteArray) (ps : List Po) (j : Nat) (hj : j < ps.length) : hitC pool addr ps (j + 1) = (hitC pool addr ps j || hitP pool addr ps[j] ps[j].ts.length) := by
  unfold hitC
  rw [List.take_succ_eq_append_getElem hj, List.any_append]
  simp
/-- Which answers there are. -/
def SvKind (ps : List Po) (rs : List Rt) (r : Int × ByteArray × ByteArray) : Prop :=
  ((r.1 = 400 ∨ r.1 = 404) ∧ r.2.1 = ⟨#[]⟩ ∧ r.2.2 = ⟨#[]⟩) ∨ (rs ≠ [] ∧ r.1 = 503 ∧ r.2.2 = ⟨#[]⟩) ∨ (rs ≠ [] ∧ r.1 = 200 ∧ hitC r.2.1 r.2.2 ps ps.length = true)
theorem serve_kinds (l : List Nat) (rs : List Rt) (ps : List Po) (d : Nat) : SvKind ps rs (serveL l rs ps d) := by
  unfold serveL SvKind
  cases parseL (txN l) with
  | bad n => exact .inl ⟨.inl rfl, rfl, rfl⟩
  | ok h k =>
    dsimp only
    cases hb : bestN (stS h.host) (stS h.path) rs rs.length with
    | none => exact .inl ⟨.inr rfl, rfl, rfl⟩
    | some b =>
      dsimp only
      have hne : rs ≠ [] := by
        rintro rfl
        cases hb
      cases ha : addrN (rs.getD b rt0).l ps d with
      | none => exact .inr (.inl ⟨hne, rfl, rfl⟩)
      | some y =>
        refine .inr (.inr ⟨hne, rfl, ?_⟩)
        dsimp only
        generalize (rs.getD b rt0).l = pool at *
        unfold addrN at ha
        cases hp : poolN pool ps with
        | none => rw [hp] at ha; cases ha
        | some i =>
          rw [hp] at ha
          dsimp only at ha
          unfold poolN at hp
          rw [List.findIdx?_eq_some_iff_getElem] at hp
          obtain ⟨hi, hn, _⟩ := hp
          rw [po_at ps i hi] at ha
          cases hw : weighN ps[i].ts d with
          | none => rw [hw] at ha; cases ha
          | some j =>
            rw [hw] at ha
            have hj := weigh_lt _ _ _ hw
            have ha' := Option.some.inj ha
            rw [List.getD_eq_getElem?_getD, List.getElem?_eq_getElem hj, Option.getD_some] at ha'
            unfold hitC
            rw [List.take_length, List.any_eq_true]
            refine ⟨ps[i], List.getElem_mem hi, ?_⟩
            unfold hitP
            rw [List.take_length, List.any_eq_true]
            refine ⟨ps[i].ts[j], List.getElem_mem hj, ?_⟩
            unfold hitT
            rw [hn, ha']
            simp
theorem serve_sz {w : World} {e : Cf} {h : CfH} (hc : CfAt w e h) (l : List Nat) (d : Nat) : (serveL l e.rs e.ps d).2.1.size ≤ maxLen := by
  unfold serveL
  cases parseL (txN l) with
  | bad n => exact (by decide : (⟨#[]⟩ : ByteArray).size ≤ maxLen)
  | ok h k =>
    dsimp only
    cases hb : bestN (stS h.host) (stS h.path) e.rs e.rs.length with
    | none => exact (by decide : (⟨#[]⟩ : ByteArray).size ≤ maxLen)
    | some b =>
      have hl := bestN_lt _ _ _ _ _ hb
      have hs : (e.rs.getD b rt0).l.size ≤ maxLen := by rw [rt_at _ _ hl]; exact (hc.rts.sz _ (List.getElem_mem hl)).2.2
      dsimp only
      cases addrN (e.rs.getD b rt0).l e.ps d with
      | none => exact hs
      | some y => exact hs
/-- A configuration in its box, and a plane beside. -/
structure BoAt (w : World) (e : Cf) (h : CfH) (P base : Nat) (f : Cf) (k : CfH) (W : World) : Prop where
  r0 : W.heap[w.heap.size]? = some (.cells #[.int .i64 e.ver, .slice h.ra e.rs.length h.rc, .slice h.pa e.ps.length h.pc] 28 (0, 0))
  p : PlOwn base W P f k
  hP : w.heap.size + 1 ≤ P
  bel : Below w.heap.size w W
section
variable {w W W' : World} {e : Cf} {h : CfH} {P base : Nat} {f : Cf} {k : CfH}
theorem BoAt.later (z : BoAt w e h P base f k W) (u : Below W.heap.size W W') : BoAt w e h P base f k W' := ⟨later_block u z.r0, z.p.later u, z.hP, z.bel.trans (u.mono z.bel.size)⟩
theorem BoAt.drew (z : BoAt w e h P base f k W) : BoAt w e h P base f k W.drew := z.later ((Below.refl _ _).drew)
theorem BoAt.cells (z : BoAt w e h P base f k W) : W.cell? ⟨w.heap.size, 0, none⟩ = some (.int .i64 e.ver) ∧ W.cell? ⟨w.heap.size, 1, none⟩ = some (.slice h.ra e.rs.length h.rc) ∧ W.cell? ⟨w.heap.size, 2, none⟩ = some (.slice h.pa e.ps.length h.pc) :=
  ⟨box_cell z.r0 0 _ rfl, box_cell z.r0 1 _ rfl, box_cell z.r0 2 _ rfl⟩
theorem applyB_calls (z : BoAt w e h P base f k W) {c : Cf} {l : CfH} (hc : CfAt W c l) (hs : shortC c = true) (hv : f.ver < c.ver) :
    Calls Tryz.prog 9 #[.pointer (some ⟨P, 0, none⟩), cfVal c l] W fun r W' => r = .returned (.int .i64 0) ∧ ∃ h', BoAt w e h P W.heap.size c h' W' ∧ W.grownBy W' (some P) := by
  obtain ⟨h1, h2, h3⟩ := short_each hs
  refine (apply_calls z.p hc (by omega) (by omega) (fun y hy => by have := h3 y hy; omega)).mono ?_
  rintro r W' ⟨⟨hn, _⟩ | ⟨_, rfl, h', ho⟩, g⟩
  · omega
  · have hlt := (Array.getElem?_eq_some_iff.1 z.r0).1
    exact ⟨rfl, h', ⟨(g.block _ hlt (fun e => by have := Option.some.inj e; have := z.hP; omega)).trans z.r0, ho, z.hP, z.bel.grown g z.bel.size (fun j e => by have := Option.some.inj e; have := z.hP; omega)⟩, g⟩
theorem applyBO_calls (z : BoAt w e h P base f k W) {c : Cf} {l : CfH} (hc : CfAt W c l) (hs : shortC c = true) (hv : c.ver ≤ f.ver) :
    Calls Tryz.prog 9 #[.pointer (some ⟨P, 0, none⟩), cfVal c l] W fun r W' => r = .returned (.int .i64 12) ∧ BoAt w e h P base f k W' ∧ W.grownBy W' (some P) := by
  obtain ⟨h1, h2, h3⟩ := short_each hs
  refine (apply_calls z.p hc (by omega) (by omega) (fun y hy => by have := h3 y hy; omega)).mono ?_
  rintro r W' ⟨⟨_, rfl, ho⟩ | ⟨hn, _⟩, g⟩
  · have hlt := (Array.getElem?_eq_some_iff.1 z.r0).1
    exact ⟨rfl, ⟨(g.block _ hlt (fun e => by have := Option.some.inj e; have := z.hP; omega)).trans z.r0, ho, z.hP, z.bel.grown g z.bel.size (fun j e => by have := Option.some.inj e; have := z.hP; omega)⟩, g⟩
  · omega
end
end Go.Proofs.YtcmiappiocfbiaaGreatDoor
end
/- Plane: the route of a host and a path, by the document. -/
section
namespace Go.Proofs.YtcmiappiocfbiaaGreatDoor
open Go.ChangeShapes Go.WideShapes Go.ChangeAt Go.RowKit

theorem bestN_no (ho q : ByteArray) (l : List Rt) : ∀ n, bestN ho q l n = none → ∀ i, i < n → okR ho q (l.getD i rt0) = false
  | 0, _, i, hi => by omega
  | n + 1, h, i, hi => by
    unfold bestN at h
    by_cases hk : okR ho q (l.getD n rt0) = true
    · rw [if_pos hk] at h
      cases hb : bestN ho q l n with
      | none => rw [hb] at h; cases h
      | some b' => rw [hb] at h; simp only at h; split at h <;> cases h
    · rw [if_neg hk] at h
      rcases Nat.lt_or_ge i n with h1 | h1
      · exact bestN_no ho q l n h i h1
      · have : i = n := by omega
        subst this; simpa using hk
/-- It is one that fits, none is longer, and none ahead of it is as long. -/
theorem bestN_is (ho q : ByteArray) (l : List Rt) : ∀ n b, bestN ho q l n = some b → okR ho q (l.getD b rt0) = true ∧ (∀ i, i < n → okR ho q (l.getD i rt0) = true → (l.getD i rt0).p.size ≤ (l.getD b rt0).p.size) ∧ ∀ i, i < b → okR ho q (l.getD i rt0) = true → (l.getD i rt0).p.size < (l.getD b rt0).p.size
  | 0, b, h => by cases h
  | n + 1, b, h => by
    unfold bestN at h
    by_cases hk : okR ho q (l.getD n rt0) = true
    · rw [if_pos hk] at h
      cases hb : bestN ho q l n with
      | none =>
        rw [hb] at h
        cases h
        have hno := bestN_no ho q l n hb
        refine ⟨hk, fun i hi ho' => ?_, fun i hi ho' => ?_⟩
        · rcases Nat.lt_or_ge i n with h1 | h1
          · exact absurd ho' (by rw [hno i h1]; decide)
          · have : i = n := by omega
            subst this; exact Nat.le_refl _
        · exact absurd ho' (by rw [hno i hi]; decide)
      | some b' =>
        rw [hb] at h
        obtain ⟨a1, a2, a3⟩ := bestN_is ho q l n b' hb
        have hlt := bestN_lt ho q l n b' hb
        simp only at h
        split at h
        · rename_i hl
          cases h
          refine ⟨hk, fun i hi ho' => ?_, fun i hi ho' => ?_⟩
          · rcases Nat.lt_or_ge i n with h1 | h1
            · have := a2 i h1 ho'; omega
            · have : i = n := by omega
              subst this; exact Nat.le_refl _
          · have := a2 i hi ho'; omega
        · rename_i hl
          cases h
          refine ⟨a1, fun i hi ho' => ?_, a3⟩
          rcases Nat.lt_or_ge i n with h1 | h1
          · exact a2 i h1 ho'
          · have : i = n := by omega
            subst this; omega
    · rw [if_neg hk] at h
      obtain ⟨a1, a2, a3⟩ := bestN_is ho q l n b h
      refine ⟨a1, fun i hi ho' => ?_, a3⟩
      rcases Nat.lt_or_ge i n with h1 | h1
      · exact a2 i h1 ho'
      · have : i = n := by omega
        subst this; exact absurd ho' hk
/-- The first one of the greatest length. -/
theorem bestN_the (ho q : ByteArray) (l : List Rt) (n i m : Nat) (hi : i < n) (hok : okR ho q (l.getD i rt0) = true) (hm : (l.getD i rt0).p.size = m) (hall : ∀ k, k < n → okR ho q (l.getD k rt0) = true → (l.getD k rt0).p.size ≤ m) (hfst : ∀ k, k < i → okR ho q (l.getD k rt0) = true → (l.getD k rt0).p.size ≠ m) : bestN ho q l n = some i := by
  cases hb : bestN ho q l n with
  | none => exact absurd hok (by rw [bestN_no ho q l n hb i hi]; decide)
  | some b =>
    obtain ⟨a1, a2, a3⟩ := bestN_is ho q l n b hb
    have hlt := bestN_lt ho q l n b hb
    have h1 := a2 i hi hok
    have h2 := hall b hlt a1
    rcases Nat.lt_trichotomy b i with h | h | h
    · exact absurd (by omega) (hfst b h a1)
    · rw [h]
    · have := a3 i h hok; omega
theorem okR_len (ho q : ByteArray) (r : Rt) (h : okR ho q r = true) : r.p.size ≤ q.size := by
  unfold okR fitsL at h
  simp only [Bool.and_eq_true, List.isPrefixOf_iff_prefix] at h
  have := h.2.1.length_le
  rw [data_len, data_len] at this
  exact this
section
variable {w : World} {a : Option Addr} {l : List Rt}
set_option maxRecDepth 20000 in
set_option maxHeartbeats 8000000 in
theorem rfind_calls (h : RtsAt w a l) (n c : Nat) (hn : l.length = n) (hx : n ≤ maxLen) (ver : Int) (pa : Option Addr) (pn pc : Nat) (ho q : ByteArray) (hq : q.size ≤ maxLen) :
    Calls Tryz.prog 22 #[.agg #[.int .i64 ver, .slice a n c, .slice pa pn pc], .string ho, .string q] w fun e w' => e = .returned (findV l (bestN ho q l n)) ∧ Below w.heap.size w w' := by
  have H := hide h
  have HN := hide hn
  have HQ := hide hq
  simp only [maxLen] at hx hq
  clear h hn
  have b1 : Below w.heap.size w (w.alloc (.cells #[.int .i64 ver, .slice a n c, .slice pa pn pc] 28)) := (Below.refl _ _).alloc (Nat.le_refl _) _
  have b2 := b1.alloc b1.size (.cells #[.string ⟨#[]⟩, .string ⟨#[]⟩, .string ⟨#[]⟩] 65)
  have X1 := hide (show ((w.alloc (.cells #[.int .i64 ver, .slice a n c, .slice pa pn pc] 28)).alloc (.cells #[.string ⟨#[]⟩, .string ⟨#[]⟩, .string ⟨#[]⟩] 65)).heap[w.heap.size]? = some (.cells #[.int .i64 ver, .slice a n c, .slice pa pn pc] 28 (0, 0)) by rw [Below.heap_alloc _ _ _ (by simp)]; exact heap_new _ _)
  have B2 := hide b2
  have s1 : (w.alloc (.cells #[.int .i64 ver, .slice a n c, .slice pa pn pc] 28)).heap.size = w.heap.size + 1 := by simp
  have X2 := hide (show ((w.alloc (.cells #[.int .i64 ver, .slice a n c, .slice pa pn pc] 28)).alloc (.cells #[.string ⟨#[]⟩, .string ⟨#[]⟩, .string ⟨#[]⟩] 65)).heap[w.heap.size + 1]? = some (.cells #[.string ⟨#[]⟩, .string ⟨#[]⟩, .string ⟨#[]⟩] 65 (0, 0)) by rw [← s1]; exact heap_new _ _)
  clear b1 b2 s1
  go_enter Tryz.func22, Tryz.ntmps22
  go_wp2_with fail
  generalize ((w.alloc (.cells #[.int .i64 ver, .slice a n c, .slice pa pn pc] 28)).alloc (.cells #[.string ⟨#[]⟩, .string ⟨#[]⟩, .string ⟨#[]⟩] 65)) = W2 at *
  have k1 := fcell0 (unhide X1) 1 _ rfl
  have FZ := hide (show ∀ (W : World) (i : Nat), Below W2.heap.size W2 W → W.frozen? ⟨w.heap.size + 1, i, none⟩ = false from fun W i hb => by simp [World.frozen?, later_block hb (unhide X2)])
  have LT := hide (show ∀ W, Below W2.heap.size W2 W → w.heap.size + 1 < W.heap.size from fun W hb => Nat.lt_of_lt_of_le (Array.getElem?_eq_some_iff.1 (unhide X2)).1 hb.size)
  have SE := hide (show ∀ (W : World) (x y z : Value), Below W2.heap.size W2 W → (((W.setCell ⟨w.heap.size + 1, 0, none⟩ x).setCell ⟨w.heap.size + 1, 1, none⟩ y).setCell ⟨w.heap.size + 1, 2, none⟩ z).heap[w.heap.size + 1]? = some (.cells #[x, y, z] 65 (0, 0)) ∧ Below w.heap.size w (((W.setCell ⟨w.heap.size + 1, 0, none⟩ x).setCell ⟨w.heap.size + 1, 1, none⟩ y).setCell ⟨w.heap.size + 1, 2, none⟩ z) from fun W x y z hb => by
    have F := (unhide B2).trans (hb.mono (unhide B2).size)
    obtain ⟨a1, a2⟩ := set3 (x := x) (y := y) (z := z) (later_block hb (unhide X2))
    exact ⟨a1, F.grown a2 F.size (fun g hg => by have := Option.some.inj hg; omega)⟩)
  have SZ0 := hide (show ∀ (W : World), Below W2.heap.size W2 W → W.cell? ⟨w.heap.size + 1, 0, none⟩ = some (.string ⟨#[]⟩) ∧ W.cell? ⟨w.heap.size + 1, 1, none⟩ = some (.string ⟨#[]⟩) ∧ W.cell? ⟨w.heap.size + 1, 2, none⟩ = some (.string ⟨#[]⟩) from fun W hb => ⟨fcell0 (later_block hb (unhide X2)) 0 _ rfl, fcell0 (later_block hb (unhide X2)) 1 _ rfl, fcell0 (later_block hb (unhide X2)) 2 _ rfl⟩)
  go_loopw [8] (fun t wr => ∃ m : Nat, m ≤ q.size + 1 ∧ t = .int .i64 ((m : Int) - 1) ∧ Hid (∀ k, k < n → okR ho q (l.getD k rt0) = true → (l.getD k rt0).p.size < m) ∧ Hid (Below W2.heap.size W2 wr)) (fun t _ => ((intOf t) + 1).toNat)
  case atStart => exact ⟨q.size + 1, by omega, by first | rfl | (congr 1; omega), hide (fun k _ hk => Nat.lt_succ_of_le (okR_len ho q _ hk)), hide (Below.refl _ _)⟩
  case round =>
    obtain ⟨m, hm, rfl, ALL, B⟩ := hrel
    by_cases hm0 : m = 0
    · subst hm0
      have E := hide (show bestN ho q l n = none by
        cases hb : bestN ho q l n with
        | none => rfl
        | some b =>
          obtain ⟨a1, _⟩ := bestN_is ho q l n b hb
          have := unhide ALL b (bestN_lt ho q l n b hb) a1
          omega)
      obtain ⟨z0, z1, z2⟩ := unhide SZ0 wr (unhide B)
      have f0 := unhide FZ wr 0 (unhide B)
      have f1 := unhide FZ wr 1 (unhide B)
      have f2 := unhide FZ wr 2 (unhide B)
      go_wp2
      obtain ⟨a1, a2⟩ := unhide SE wr (.string ⟨#[]⟩) (.string ⟨#[]⟩) (.string ⟨#[]⟩) (unhide B)
      generalize (((wr.setCell ⟨w.heap.size + 1, 0, none⟩ (.string ⟨#[]⟩)).setCell ⟨w.heap.size + 1, 1, none⟩ (.string ⟨#[]⟩)).setCell ⟨w.heap.size + 1, 2, none⟩ (.string ⟨#[]⟩)) = W9 at *
      have g0 := fcell0 a1 0 _ rfl
      have g1 := fcell0 a1 1 _ rfl
      have g2 := fcell0 a1 2 _ rfl
      rw [unhide E]
      refine bodyPost_ret (v := findV l none) ?_ rfl ⟨rfl, a2⟩
      rw [results_cell_tmp rfl]
      go_simp
      rfl
    · obtain ⟨p, rfl⟩ : ∃ p, m = p + 1 := ⟨m - 1, by omega⟩
      have hp1 : (((p + 1 : Nat) : Int) - 1) = (p : Int) := by omega
      rw [hp1]
      clear hm0 hp1
      have hp0 : (0 : Int) ≤ (p : Int) := by omega
      go_wp2_with fail
      go_loopw [9] (fun t wr2 => ∃ j : Nat, j ≤ n ∧ t = .int .i64 (j : Int) ∧ Hid (∀ k, k < j → okR ho q (l.getD k rt0) = true → (l.getD k rt0).p.size ≠ p) ∧ Hid (Below W2.heap.size W2 wr2)) (fun t _ => n - (intOf t).toNat)
      case atStart => exact ⟨0, by omega, rfl, hide (fun k hk => by omega), B⟩
      case round =>
        obtain ⟨j, hj, rfl, NONE, B'⟩ := hrel
        have c1 := cell_later (unhide B') k1
        have F := hide ((unhide B2).trans ((unhide B').mono (unhide B2).size))
        by_cases hjn : j < n
        · have y0 : (0 : Int) ≤ (j : Int) := by omega
          have y1 : (j : Int) < (n : Int) := by omega
          have hjl : j < l.length := by rw [unhide HN]; exact hjn
          obtain ⟨b, off, rfl, q0, q1, q2⟩ := (unhide H).cell j hjl
          have p0 := cell_later (unhide F) q0
          have p1 := cell_later (unhide F) q1
          have p2 := cell_later (unhide F) q2
          have hsz := (unhide H).sz _ (List.getElem_mem hjl)
          have THE := hide (show okR ho q l[j] = true → l[j].p.size = p → bestN ho q l n = some j ∧ findV l (some j) = .tuple #[.agg #[.string l[j].h, .string l[j].p, .string l[j].l], .bool true] from fun h1 h2 => by
            refine ⟨bestN_the ho q l n j p hjn (by rw [rt_at l j hjl]; exact h1) (by rw [rt_at l j hjl]; exact h2) (fun k hk hok => by have := unhide ALL k hk hok; omega) (unhide NONE), ?_⟩
            rw [← rt_at l j hjl]
            rfl)
          have NX := hide (show ¬ (okR ho q l[j] = true ∧ l[j].p.size = p) → ∀ k, k < j + 1 → okR ho q (l.getD k rt0) = true → (l.getD k rt0).p.size ≠ p from fun hno k hk hok => by
            rcases Nat.lt_or_ge k j with h1 | h1
            · exact unhide NONE k h1 hok
            · have : k = j := by omega
              subst this
              rw [rt_at l k hjl] at hok ⊢
              exact fun e => hno ⟨hok, e⟩)
          generalize l[j] = r at *
          obtain ⟨rh, rp, rl⟩ := r
          simp only at p0 p1 p2 hsz THE NX
          have RF := hide (rfits_calls rp q hsz.2.1 (unhide HQ) (wr.alloc (.cells #[.string rh, .string rp, .string rl] 65)))
          have B3 := hide ((unhide B').alloc (unhide B').size (.cells #[.string rh, .string rp, .string rl] 65))
          have OK := hide (show okR ho q ⟨rh, rp, rl⟩ = ((rh.toList == ho.toList) && fitsL rp.data.toList q.data.toList) from rfl)
          clear q0 q1 q2 hsz
          cases hh : (rh.toList == ho.toList) with
          | false =>
            have N2 := hide (unhide NX (fun h => by rw [unhide OK, hh] at h; simp at h))
            clear NX THE OK RF
            go_wp2
            exact ⟨⟨j + 1, by omega, by go_num, N2, B3⟩, by simp [intOf]; omega⟩
          | true =>
            by_cases hl : rp.size = p
            · have y3 : (rp.size : Int) = (p : Int) := by omega
              cases hf : fitsL rp.data.toList q.data.toList with
              | false =>
                rw [hf] at RF
                have N2 := hide (unhide NX (fun h => by rw [unhide OK, hf] at h; simp at h))
                clear NX THE OK hl
                go_wp2_with (go_at_call 41; refine (unhide RF).mono ?_; rintro e w' ⟨rfl, rfl⟩)
                exact ⟨⟨j + 1, by omega, by go_num, N2, B3⟩, by simp [intOf]; omega⟩
              | true =>
                rw [hf] at RF
                obtain ⟨t1, t2⟩ := unhide THE (by rw [unhide OK, hh, hf]; rfl) hl
                have T1 := hide t1
                have T2 := hide t2
                obtain ⟨z0, z1, z2⟩ := unhide SZ0 _ (unhide B3)
                have f0 := unhide FZ _ 0 (unhide B3)
                have f1 := unhide FZ _ 1 (unhide B3)
                have f2 := unhide FZ _ 2 (unhide B3)
                have SX := hide (unhide SE _ (.string rh) (.string rp) (.string rl) (unhide B3))
                have e0 := fcell0 (heap_new wr (.cells #[.string rh, .string rp, .string rl] 65)) 0 _ rfl
                clear NX THE OK hl t1 t2
                go_wp2_with (go_at_call 41; refine (unhide RF).mono ?_; rintro e w' ⟨rfl, rfl⟩)
                obtain ⟨a1, a2⟩ := unhide SX
                generalize ((((wr.alloc (.cells #[.string rh, .string rp, .string rl] 65)).setCell ⟨w.heap.size + 1, 0, none⟩ (.string rh)).setCell ⟨w.heap.size + 1, 1, none⟩ (.string rp)).setCell ⟨w.heap.size + 1, 2, none⟩ (.string rl)) = W9 at *
                have g0 := fcell0 a1 0 _ rfl
                have g1 := fcell0 a1 1 _ rfl
                have g2 := fcell0 a1 2 _ rfl
                rw [unhide T1]
                refine bodyPost_ret (v := findV l (some j)) ?_ rfl ⟨rfl, a2⟩
                rw [results_cell_tmp rfl, unhide T2]
                go_simp
            · have y3 : ¬ (rp.size : Int) = (p : Int) := by omega
              have N2 := hide (unhide NX (fun h => hl h.2))
              clear NX THE OK hl RF
              go_wp2
              exact ⟨⟨j + 1, by omega, by go_num, N2, B3⟩, by simp [intOf]; omega⟩
        · have hjj : ¬ (j : Int) < (n : Int) := by omega
          obtain rfl : j = n := by omega
          have A2 := hide (show ∀ k, k < j → okR ho q (l.getD k rt0) = true → (l.getD k rt0).p.size < p from fun k hk hok => by have h1 := unhide ALL k hk hok; have h2 := unhide NONE k hk hok; omega)
          go_wp2
          exact ⟨⟨p, by omega, by first | rfl | go_num, A2, B'⟩, by simp [intOf]⟩
end
end Go.Proofs.YtcmiappiocfbiaaGreatDoor
end
