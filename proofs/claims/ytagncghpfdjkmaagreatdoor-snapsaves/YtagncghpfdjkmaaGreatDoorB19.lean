/- Snapshots: the program's reader: members, data. -/
import Derived.Test.YtagncghpfdjkmaaGreatDoorB18
import Derived.RegionTactic
import Derived.ChangeAlike
section
namespace Go.Proofs.YtagncghpfdjkmaaGreatDoor
open Go.ChangeShapes Go.WideShapes Go.ChangeAt Go.RowKit
set_option linter.unusedVariables false

section
variable {R : Nat} {w w' : World} {p : Option Addr} {c : Nat} {h : List Nat} {k e : Nat}
theorem numR_le (hb : ∀ c ∈ h, c < 256) (k e : Nat) : (numR h k e).1 ≤ 1099511627776 := by
  unfold numR
  split
  · simp
  · cases ht : takeE h k with
    | ok q => obtain ⟨n, k2⟩ := q; exact (takeE_leb ht hb).2
    | error x => simp
theorem SR.lt (z : SR R w p c h k e) : R < w.heap.size := (Array.getElem?_eq_some_iff.1 z.row).1
theorem OwnI.far {base : Nat} {sp : Option Addr} {cc : Nat} {l : List Int} (x : OwnI base w sp cc l) (g : w.grownBy w' (some R)) (hR : R < base) : OwnI base w' sp cc l := x.kept g (fun b hb e => by have := x.blk_lt b hb; have := Option.some.inj e; omega)
/-- How a step that tells members ends. -/
def MEnd (R : Nat) (w : World) (p : Option Addr) (c : Nat) (h : List Nat) (r : (List Int × List Int) × Nat × Nat) (en : Ending) (w' : World) : Prop := ∃ spA nA cA spB nB cB, en = .returned (mV spA nA cA spB nB cB) ∧ r.1.1.length = nA ∧ r.1.2.length = nB ∧ OwnI w.heap.size w' spA cA r.1.1 ∧ OwnI w.heap.size w' spB cB r.1.2 ∧ SR R w' p c h r.2.1 r.2.2 ∧ w.grownBy w' (some R)
theorem getRes_any {r : Except Nat (List Int × List Int)} {base : Nat} {e : Ending} {w' : World} (h : GetRes r base e w') : ∃ spA nA cA spB nB cB, e = .returned (.tuple #[mV spA nA cA spB nB cB, .int .i64 (memX r : Int)]) ∧ (memV r).1.length = nA ∧ (memV r).2.length = nB ∧ OwnI base w' spA cA (memV r).1 ∧ OwnI base w' spB cB (memV r).2 := by
  cases r with
  | ok q =>
    obtain ⟨v, l⟩ := q
    obtain ⟨spA, nA, cA, spB, nB, cB, h1, h2, h3, h4, h5⟩ := h
    exact ⟨spA, nA, cA, spB, nB, cB, h1, h2, h3, h4, h5⟩
  | error x =>
    obtain ⟨h1, _⟩ := h
    exact ⟨none, 0, 0, none, 0, 0, h1, rfl, rfl, OwnI.ofNil _ _, OwnI.ofNil _ _⟩
set_option maxRecDepth 20000 in
set_option maxHeartbeats 4000000 in
theorem smem_calls (z : SR R w p c h k e) : Calls Tryz.prog 60 #[.pointer (some ⟨R, 0, none⟩)] w (MEnd R w p c h (memR h k e)) := by
  have b1 := hide (show Below w.heap.size w (w.alloc (mB none 0 0 none 0 0)) from (Below.refl _ _).alloc (Nat.le_refl _) _)
  have Y1 := hide (heap_new w (mB none 0 0 none 0 0))
  have RL := hide z.lt
  have HB0 := hide z.by_
  have NC := hide (snumber_calls (z.later (unhide b1)))
  unfold NEnd at NC
  have NL := hide (numR_le z.by_.lt k e)
  have EQ := hide (show memR h k e = (memV (getE (cutR h (numR h k e).2.1 (numR h k e).2.2 (numR h k e).1).1), (cutR h (numR h k e).2.1 (numR h k e).2.2 (numR h k e).1).2.1, failR (cutR h (numR h k e).2.1 (numR h k e).2.2 (numR h k e).1).2.2 (memX (getE (cutR h (numR h k e).2.1 (numR h k e).2.2 (numR h k e).1).1))) from rfl)
  generalize numR h k e = q at *
  obtain ⟨n, k1, e1⟩ := q
  dsimp only at NC EQ NL
  clear z
  go_enter Tryz.func60, Tryz.ntmps60
  go_wp2_with fail
  generalize hD : w.heap.size = D at *
  generalize w.alloc (mB none 0 0 none 0 0) = W1 at *
  go_at_call 105
  refine (unhide NC).mono ?_
  rintro en V1 ⟨rfl, z1, g1⟩
  have G1 := hide (grown_trans (grown_of (show Below w.heap.size w W1 by rw [hD]; exact unhide b1) (some R)) g1)
  have RD := hide (show R ≠ D by have := unhide RL; omega)
  have Y2 := hide ((g1.block D (Array.getElem?_eq_some_iff.1 (unhide Y1)).1 (fun e => unhide RD (Option.some.inj e).symm)).trans (unhide Y1))
  have TC := hide (stake_calls z1 n (unhide NL))
  unfold CEnd at TC
  generalize cutR h k1 e1 n = q2 at *
  obtain ⟨b, k2, e2⟩ := q2
  dsimp only at TC EQ
  clear z1 g1 NC Y1
  go_wp2_with fail
  go_at_call 108
  refine (unhide TC).mono ?_
  rintro en V2 ⟨sp, m, cc, rfl, pt, z2, g2⟩
  have G2 := hide (grown_trans (unhide G1) g2)
  have Y3 := hide ((g2.block D (Array.getElem?_eq_some_iff.1 (unhide Y2)).1 (fun e => unhide RD (Option.some.inj e).symm)).trans (unhide Y2))
  have GC := hide (mget_calls (w := V2) (c := cc) pt.by_ m pt.len (Nat.le_trans pt.cap pt.mx))
  have Z2 := hide z2
  clear pt z2 g2 TC Y2 G1
  go_wp2_with fail
  go_at_call 107
  refine (unhide GC).mono ?_
  rintro en V3 ⟨hres, v3⟩
  obtain ⟨spA, nA, cA, spB, nB, cB, rfl, hnA, hnB, oA, oB⟩ := getRes_any hres
  have G3 := hide (grown_trans (unhide G2) (grown_of v3 (some R)))
  have Y4 := hide (later_block v3 (unhide Y3))
  have Z3 := hide ((unhide Z2).later v3)
  have S2 := hide (show D + 1 ≤ V2.heap.size from (Array.getElem?_eq_some_iff.1 (unhide Y3)).1)
  have OA := hide (oA.mono (unhide S2))
  have OB := hide (oB.mono (unhide S2))
  have NA := hide hnA
  have NB := hide hnB
  clear hres v3 oA oB hnA hnB GC Z2 Y3 G2
  generalize memX (getE b) = x at *
  generalize memV (getE b) = q3 at *
  obtain ⟨va, vb⟩ := q3
  dsimp only at NA NB OA OB
  have b4 := hide (show Below V3.heap.size V3 (V3.alloc (mB spA nA cA spB nB cB)) from (Below.refl _ _).alloc (Nat.le_refl _) _)
  have Z4 := hide (heap_new V3 (mB spA nA cA spB nB cB))
  have FC := hide (sfail_calls ((unhide Z3).later (unhide b4)) x)
  have O4A := hide ((unhide OA).later (unhide b4))
  have O4B := hide ((unhide OB).later (unhide b4))
  have Y5 := hide (later_block (unhide b4) (unhide Y4))
  have G4 := hide (grown_trans (unhide G3) (grown_of (unhide b4) (some R)))
  have RE := hide (show R ≠ V3.heap.size by have := (unhide Z3).lt; omega)
  have DE := hide (show D ≠ V3.heap.size by have := (Array.getElem?_eq_some_iff.1 (unhide Y4)).1; omega)
  clear Y4 G3 Z3 OA OB b4
  go_wp2_with fail
  generalize V3.heap.size = E at *
  generalize V3.alloc (mB spA nA cA spB nB cB) = W4 at *
  go_at_call 106
  refine (unhide FC).mono ?_
  rintro en V5 ⟨rfl, z5, g5⟩
  have Y6 := hide ((g5.block D (Array.getElem?_eq_some_iff.1 (unhide Y5)).1 (fun e => unhide RD (Option.some.inj e).symm)).trans (unhide Y5))
  have Z6 := hide ((g5.block E (Array.getElem?_eq_some_iff.1 (unhide Z4)).1 (fun e => unhide RE (Option.some.inj e).symm)).trans (unhide Z4))
  have RLD := hide (show R < D from unhide RL)
  have RLE := hide (show R < D + 1 from Nat.lt_succ_of_lt (unhide RL))
  obtain ⟨W, y0, y1, gW, hW⟩ := two_sets (unhide Y6) (.slice spA nA cA) (.slice spB nB cB)
  have HW := hide hW
  have z0 := box_cell (unhide Y6) 0 _ rfl
  have z1 := box_cell (unhide Y6) 1 _ rfl
  have z2 := mbox_free (unhide Y6) 0
  have z3 := mbox_free (unhide Y6) 1
  have x0 := box_cell (unhide Z6) 0 _ rfl
  have x1 := box_cell (unhide Z6) 1 _ rfl
  have FF := hide (show MEnd R w p c h (memR h k e) (.returned (mV spA nA cA spB nB cB)) W from by
    rw [unhide EQ]
    have hg := grown_trans (unhide G4) g5
    have o1 := (((unhide O4A).far g5 (unhide RLE)).far gW (Nat.lt_succ_self D)).mono (Nat.le_succ D)
    have o2 := (((unhide O4B).far g5 (unhide RLE)).far gW (Nat.lt_succ_self D)).mono (Nat.le_succ D)
    refine ⟨_, _, _, _, _, _, rfl, unhide NA, unhide NB, by rw [hD]; exact o1, by rw [hD]; exact o2, ⟨(gW.block R z5.lt (fun e => unhide RD (Option.some.inj e))).trans z5.row, BytesAt.farOld (unhide HB0) z5.by_ gW (by omega), z5.ne, z5.kl, z5.hl, z5.hc, z5.hm, z5.hz⟩, ?_⟩
    exact ⟨gW.os.trans hg.os, gW.tape.trans hg.tape, gW.output.trans hg.output, Nat.le_trans hg.size gW.size, fun j hj hne => (gW.block j (Nat.lt_of_lt_of_le hj hg.size) (fun e => by have := Option.some.inj e; omega)).trans (hg.block j hj hne)⟩)
  clear z5 g5 gW hW FC
  go_wp2_with fail
  rw [unhide HW]
  go_wp2
  refine bodyPost_ret (v := mV spA nA cA spB nB cB) (by simp [results, Tryz.results60, go_sem, y0, y1]) rfl ?_
  exact unhide FF
set_option maxHeartbeats 4000000 in
theorem sdat_calls (z : SR R w p c h k e) : Calls Tryz.prog 61 #[.pointer (some ⟨R, 0, none⟩)] w (CEnd R w p c h (datR h k e)) := by
  have NC := hide (snumber_calls z)
  unfold NEnd at NC
  have NL := hide (numR_le z.by_.lt k e)
  have EQ := hide (show datR h k e = cutR h (numR h k e).2.1 (if 16384 < (numR h k e).1 then failR (numR h k e).2.2 6 else (numR h k e).2.2) (numR h k e).1 from rfl)
  generalize numR h k e = q at *
  obtain ⟨n, k1, e1⟩ := q
  dsimp only at NC EQ NL
  clear z
  by_cases hn : 16384 < n
  · have y1 : (16384 : Int) < (n : Int) := by omega
    rw [if_pos hn] at EQ
    go_enter Tryz.func61, Tryz.ntmps61
    go_wp2_with fail
    go_at_call 105
    refine (unhide NC).mono ?_
    rintro en V1 ⟨rfl, z1, g1⟩
    have FC := hide (sfail_calls z1 6)
    have G1 := hide g1
    clear z1 g1 NC
    go_wp2_with fail
    go_at_call 106
    refine (unhide FC).mono ?_
    rintro en V2 ⟨rfl, z2, g2⟩
    have G2 := hide (grown_trans (unhide G1) g2)
    have TC := hide (stake_calls z2 n (unhide NL))
    clear z2 g2 FC G1
    go_wp2_with fail
    go_at_call 108
    refine (unhide TC).mono ?_
    rintro en V3 ⟨sp, m, cc, rfl, pt, z3, g3⟩
    have FF := hide (show CEnd R w p c h (datR h k e) (.returned (.slice sp m cc)) V3 from by
      rw [unhide EQ]
      exact ⟨sp, m, cc, rfl, pt, z3, grown_trans (unhide G2) g3⟩)
    clear pt z3 g3 TC EQ G2
    go_wp2
    go_ret
    exact unhide FF
  · have y1 : ¬ (16384 : Int) < (n : Int) := by omega
    rw [if_neg hn] at EQ
    go_enter Tryz.func61, Tryz.ntmps61
    go_wp2_with fail
    go_at_call 105
    refine (unhide NC).mono ?_
    rintro en V1 ⟨rfl, z1, g1⟩
    have G1 := hide g1
    have TC := hide (stake_calls z1 n (unhide NL))
    clear z1 g1 NC
    go_wp2_with fail
    go_at_call 108
    refine (unhide TC).mono ?_
    rintro en V3 ⟨sp, m, cc, rfl, pt, z3, g3⟩
    have FF := hide (show CEnd R w p c h (datR h k e) (.returned (.slice sp m cc)) V3 from by
      rw [unhide EQ]
      exact ⟨sp, m, cc, rfl, pt, z3, grown_trans (unhide G1) g3⟩)
    clear pt z3 g3 TC EQ G1
    go_wp2
    go_ret
    exact unhide FF
end
end Go.Proofs.YtagncghpfdjkmaaGreatDoor
end
/- Snapshots: the program's Get. -/
section
namespace Go.Proofs.YtagncghpfdjkmaaGreatDoor
open Go.ChangeShapes Go.WideShapes Go.ChangeAt Go.RowKit
set_option linter.unusedVariables false

def sn0 : Sn := ⟨0, 0, [], [], []⟩
def snOf (r : Except Nat Sn) : Sn := match r with
  | .ok s => s
  | .error _ => sn0
def snX (r : Except Nat Sn) : Nat := match r with
  | .ok _ => 0
  | .error x => x
/-- How Get ends. -/
def GetS (l : List Nat) (w : World) (en : Ending) (w' : World) : Prop := ∃ h, en = .returned (.tuple #[.agg (snRow (snOf (snL l)) h), .int .i64 (snX (snL l) : Int)]) ∧ SnAt w' (snOf (snL l)) h ∧ (∀ ad, h.va = some ad ∨ h.la = some ad ∨ h.dp = some ad → w.heap.size ≤ ad.block) ∧ Below w.heap.size w w'
theorem five_sets {u : World} {j : Nat} {x0 x1 x2 x3 x4 : Value} {T : TypeId} (h : u.heap[j]? = some (.cells #[x0, x1, x2, x3, x4] T (0, 0))) (a0 a1 a2 a3 a4 : Value) : ∃ W, W.heap[j]? = some (.cells #[a0, a1, a2, a3, a4] T (0, 0)) ∧ u.grownBy W (some j) ∧
    ((((u.setCell ⟨j, 0, none⟩ a0).setCell ⟨j, 1, none⟩ a1).setCell ⟨j, 2, none⟩ a2).setCell ⟨j, 3, none⟩ a3).setCell ⟨j, 4, none⟩ a4 = W := by
  have h1 := heap_setCell_same u j 0 _ T a0 h
  have h2 := heap_setCell_same _ j 1 _ T a1 h1
  have h3 := heap_setCell_same _ j 2 _ T a2 h2
  have h4 := heap_setCell_same _ j 3 _ T a3 h3
  have h5 := heap_setCell_same _ j 4 _ T a4 h4
  exact ⟨_, h5, grown_trans (grown_trans (grown_trans (grown_trans (grown_set u j 0 a0) (grown_set _ j 1 a1)) (grown_set _ j 2 a2)) (grown_set _ j 3 a3)) (grown_set _ j 4 a4), rfl⟩
theorem below_grown {base j : Nat} {w u W : World} (h : Below base w u) (g : u.grownBy W (some j)) (hj : base ≤ j) (hb : base ≤ u.heap.size) : Below base w W :=
  h.trans ⟨g.os, g.tape, g.output, g.size, fun k hk => g.block k (by omega) (fun e => by have := Option.some.inj e; omega)⟩
theorem snAt0 (w : World) : SnAt w sn0 ⟨none, 0, none, 0, none, 0⟩ := ⟨by decide, by decide, ⟨by simp [sn0], fun i hi => by simp [sn0] at hi⟩, ⟨by simp [sn0], fun i hi => by simp [sn0] at hi⟩, ⟨by simp [sn0], fun i hi => by simp [sn0] at hi⟩, by simp [sn0], by simp [sn0], by simp [sn0], by simp, fun _ => rfl⟩
theorem getS_bad {l : List Nat} {w W : World} {x : Nat} (h : snL l = .error x) (u : Below w.heap.size w W) : GetS l w (.returned (.tuple #[.agg #[.int .i64 0, .int .i64 0, .slice none 0 0, .slice none 0 0, .slice none 0 0], .int .i64 (x : Int)])) W := by
  unfold GetS
  rw [h]
  exact ⟨⟨none, 0, none, 0, none, 0⟩, rfl, snAt0 W, fun ad e => (by rcases e with e | e | e <;> cases e), u⟩
section
variable {R : Nat} {w w' : World} {p : Option Addr} {c : Nat} {h : List Nat} {k e : Nat}
theorem SR.aside (z : SR R w p c h k e) {j i : Nat} (v : Value) (h1 : j ≠ R) (h2 : ∀ ad, p = some ad → ad.block ≠ j) : SR R (w.setCell ⟨j, i, none⟩ v) p c h k e :=
  ⟨((grown_set w j i v).block R z.lt (fun e => h1 (Option.some.inj e).symm)).trans z.row, z.by_.far (grown_set w j i v) (fun b off e => h2 _ e), z.ne, z.kl, z.hl, z.hc, z.hm, z.hz⟩
end
theorem nextH_le {l : List Nat} (h0 : nextE l 0 = 0) : (nextH l 0).length ≤ 65536 := by
  obtain ⟨_, z2, _⟩ := nextE_zero h0
  rw [z2]
  unfold nextE at h0
  split at h0
  · cases h0
  split at h0
  · cases h0
  rename_i h1
  rw [List.drop_zero] at *
  omega
/-- The world while Get reads: the result's block D, the snapshot's block S, the reader's R. -/
structure GA (w : World) (D S R : Nat) (p : Option Addr) (m : Nat) (H : List Nat) (k e : Nat) (cs : Array Value) (V : World) : Prop where
  sr : SR R V p m H k e
  xs : V.heap[S]? = some (.cells cs 29 (0, 0))
  yd : V.heap[D]? = some (.cells #[.int .i64 0, .int .i64 0, .slice none 0 0, .slice none 0 0, .slice none 0 0] 29 (0, 0))
  be : Below w.heap.size w V
  wd : w.heap.size = D
  ds : D < S
  sl : S < R
  pn : ∀ ad, p = some ad → ad.block < S ∧ D < ad.block
section
variable {w V V' : World} {D S R : Nat} {p : Option Addr} {m : Nat} {H : List Nat} {k e k' e' : Nat} {cs : Array Value}
theorem GA.call (x : GA w D S R p m H k e cs V) (z : SR R V' p m H k' e') (g : V.grownBy V' (some R)) : GA w D S R p m H k' e' cs V' :=
  ⟨z, (g.block S (Array.getElem?_eq_some_iff.1 x.xs).1 (fun e => by have := Option.some.inj e; have := x.sl; omega)).trans x.xs, (g.block D (Array.getElem?_eq_some_iff.1 x.yd).1 (fun e => by have := Option.some.inj e; have := x.sl; have := x.ds; omega)).trans x.yd, below_grown x.be g (by have := x.sl; have := x.ds; have := x.wd; omega) x.be.size, x.wd, x.ds, x.sl, x.pn⟩
theorem GA.set (x : GA w D S R p m H k e cs V) (i : Nat) (v : Value) : GA w D S R p m H k e (cs.setIfInBounds i v) (V.setCell ⟨S, i, none⟩ v) :=
  ⟨x.sr.aside v (by have := x.sl; omega) (fun ad e => by have := (x.pn ad e).1; omega), heap_setCell_same V S i cs _ v x.xs, ((grown_set V S i v).block D (Array.getElem?_eq_some_iff.1 x.yd).1 (fun e => by have := Option.some.inj e; have := x.ds; omega)).trans x.yd, below_grown x.be (grown_set V S i v) (by have := x.ds; have := x.wd; omega) x.be.size, x.wd, x.ds, x.sl, x.pn⟩
theorem GA.size (x : GA w D S R p m H k e cs V) : R < V.heap.size := x.sr.lt
theorem OwnI.adr {base : Nat} {sp : Option Addr} {cc : Nat} {l : List Int} (x : OwnI base V sp cc l) : ∀ ad, sp = some ad → base ≤ ad.block := by
  intro ad e
  rcases x.owns.2 with ⟨hv, _⟩ | ⟨g, cap, cur, hv, hb, _⟩
  · simp only [Value.slice.injEq] at hv
    rw [e] at hv
    cases hv.1
  · simp only [Value.slice.injEq] at hv
    rw [e] at hv
    rw [Option.some.inj hv.1]
    exact hb
theorem OwnI.stays' {base j : Nat} {sp : Option Addr} {cc : Nat} {l : List Int} (x : OwnI base V sp cc l) (g : V.grownBy V' (some j)) (hj : j < base) : OwnI base V' sp cc l := OwnI.far x g hj
theorem OwnI.stays {base j : Nat} {sp : Option Addr} {cc : Nat} {l : List Int} (x : OwnI base V sp cc l) (i : Nat) (v : Value) (hj : j < base) : OwnI base (V.setCell ⟨j, i, none⟩ v) sp cc l := OwnI.far x (grown_set V j i v) hj
end
set_option maxRecDepth 20000 in
set_option maxHeartbeats 16000000 in
theorem sget_calls (a : Option Addr) (n c : Nat) (l : List Nat) (w : World) (hn : l.length = n) (hc : n ≤ c) (hx : n ≤ maxLen) (hb : BytesAt w a l) : Calls Tryz.prog 19 #[.slice a n c] w (GetS l w) := by
  have u1 := hide (show Below w.heap.size w (w.alloc (.cells #[.int .i64 0, .int .i64 0, .slice none 0 0, .slice none 0 0, .slice none 0 0] 29)) from (Below.refl _ _).alloc (Nat.le_refl _) _)
  have Y1 := hide (heap_new w (.cells #[.int .i64 0, .int .i64 0, .slice none 0 0, .slice none 0 0, .slice none 0 0] 29))
  have NX := hide (next_any a c l 0 (w.alloc (.cells #[.int .i64 0, .int .i64 0, .slice none 0 0, .slice none 0 0, .slice none 0 0] 29)) (by omega) (by omega) (Nat.zero_le _) (hb.later (unhide u1)))
  rw [show ((0 : Nat) : Int) = 0 from rfl, hn] at NX
  have HN := hide hn
  have HLT := hide hb.lt
  simp only [maxLen] at hx
  clear hb hn
  have DONE := hide (show ∀ (u : World), Below w.heap.size w u → u.heap[w.heap.size]? = some (.cells #[.int .i64 0, .int .i64 0, .slice none 0 0, .slice none 0 0, .slice none 0 0] 29 (0, 0)) → ∃ W, W.cell? ⟨w.heap.size, 0, none⟩ = some (.int .i64 0) ∧ W.cell? ⟨w.heap.size, 1, none⟩ = some (.int .i64 0) ∧ W.cell? ⟨w.heap.size, 2, none⟩ = some (.slice none 0 0) ∧ W.cell? ⟨w.heap.size, 3, none⟩ = some (.slice none 0 0) ∧ W.cell? ⟨w.heap.size, 4, none⟩ = some (.slice none 0 0) ∧ Below w.heap.size w W ∧
      ((((u.setCell ⟨w.heap.size, 0, none⟩ (.int .i64 0)).setCell ⟨w.heap.size, 1, none⟩ (.int .i64 0)).setCell ⟨w.heap.size, 2, none⟩ (.slice none 0 0)).setCell ⟨w.heap.size, 3, none⟩ (.slice none 0 0)).setCell ⟨w.heap.size, 4, none⟩ (.slice none 0 0) = W from fun u F Y => by
    obtain ⟨W, hr, gW, hW⟩ := five_sets Y (.int .i64 0) (.int .i64 0) (.slice none 0 0) (.slice none 0 0) (.slice none 0 0)
    exact ⟨W, box_cell hr 0 _ rfl, box_cell hr 1 _ rfl, box_cell hr 2 _ rfl, box_cell hr 3 _ rfl, box_cell hr 4 _ rfl, below_grown F gW (Nat.le_refl _) F.size, hW⟩)
  have W1L := hide (show w.heap.size < (w.alloc (.cells #[.int .i64 0, .int .i64 0, .slice none 0 0, .slice none 0 0, .slice none 0 0] 29)).heap.size by simp)
  go_enter Tryz.func19, Tryz.ntmps19
  go_wp2_with fail
  generalize w.alloc (.cells #[.int .i64 0, .int .i64 0, .slice none 0 0, .slice none 0 0, .slice none 0 0] 29) = W1 at *
  generalize hD : w.heap.size = D at *
  go_at_call 58
  refine (unhide NX).mono ?_
  rintro en V1 ⟨v1, hcase⟩
  have U1 := hide ((unhide u1).trans (v1.mono (by rw [← hD]; exact (unhide u1).size)))
  have Y2 := hide (later_block v1 (unhide Y1))
  have LT1 := hide (show D < V1.heap.size from (Array.getElem?_eq_some_iff.1 (unhide Y2)).1)
  clear v1 NX Y1
  rcases hcase with ⟨h0, rfl⟩ | ⟨h0, g, rfl, hg, hcs⟩
  · obtain ⟨W, y0, y1, y2, y3, y4, bW, hW⟩ := unhide DONE V1 (unhide U1) (unhide Y2)
    have HW := hide hW
    have z0 := box_cell (unhide Y2) 0 _ rfl
    have z1 := box_cell (unhide Y2) 1 _ rfl
    have z2 := box_cell (unhide Y2) 2 _ rfl
    have z3 := box_cell (unhide Y2) 3 _ rfl
    have z4 := box_cell (unhide Y2) 4 _ rfl
    have f0 := mbox_free (unhide Y2) 0
    have f1 := mbox_free (unhide Y2) 1
    have f2 := mbox_free (unhide Y2) 2
    have f3 := mbox_free (unhide Y2) 3
    have f4 := mbox_free (unhide Y2) 4
    have FF := hide (getS_bad (l := l) (w := w) (W := W) (x := nextE l 0) (by unfold snL; rw [if_pos (by omega)]) (by rw [hD]; exact bW))
    have x1 : ¬ ((nextE l 0 : Nat) : Int) = 0 := by omega
    have x2 : (((nextE l 0 : Nat) : Int) == 0) = false := by simp; omega
    generalize ((nextE l 0 : Nat) : Int) = xi at *
    clear hW DONE h0
    go_wp2_with fail
    rw [unhide HW]
    go_wp2
    refine bodyPost_ret (v := .tuple #[.agg #[.int .i64 0, .int .i64 0, .slice none 0 0, .slice none 0 0, .slice none 0 0], .int .i64 xi]) (by simp [results, Tryz.results19, go_sem, y0, y1, y2, y3, y4]) rfl ?_
    exact unhide FF
  · have hH := nextH_le h0
    have hHl := (nextE_zero h0).2.2
    have SE := hide (show snL l = (if 8 + (nextH l 0).length < l.length then .error 4 else snG (nextH l 0)) by unfold snL; rw [if_neg (by omega)])
    have HL := hide (nextH_lt (unhide HLT) 0)
    have AI := hide (all_is (nextH l 0))
    generalize hHH : nextH l 0 = H at *
    generalize hm : H.length = m at *
    have HM := hide hm
    clear hHH hm
    by_cases hend : 8 + m < n
    · obtain ⟨W, y0, y1, y2, y3, y4, bW, hW⟩ := unhide DONE V1 (unhide U1) (unhide Y2)
      have HW := hide hW
      have z0 := box_cell (unhide Y2) 0 _ rfl
      have z1 := box_cell (unhide Y2) 1 _ rfl
      have z2 := box_cell (unhide Y2) 2 _ rfl
      have z3 := box_cell (unhide Y2) 3 _ rfl
      have z4 := box_cell (unhide Y2) 4 _ rfl
      have f0 := mbox_free (unhide Y2) 0
      have f1 := mbox_free (unhide Y2) 1
      have f2 := mbox_free (unhide Y2) 2
      have f3 := mbox_free (unhide Y2) 3
      have f4 := mbox_free (unhide Y2) 4
      have FF := hide (getS_bad (l := l) (w := w) (W := W) (x := 4) (by rw [unhide SE, if_pos (by rw [unhide HN]; exact hend)]) (by rw [hD]; exact bW))
      have x1 : ((0 + 8 + m : Nat) : Int) < (n : Int) := by omega
      generalize ((0 + 8 + m : Nat) : Int) = xi at *
      clear hW DONE h0 hcs
      go_wp2_with fail
      rw [unhide HW]
      go_wp2
      refine bodyPost_ret (v := .tuple #[.agg #[.int .i64 0, .int .i64 0, .slice none 0 0, .slice none 0 0, .slice none 0 0], .int .i64 4]) (by simp [results, Tryz.results19, go_sem, y0, y1, y2, y3, y4]) rfl ?_
      exact unhide FF
    · have x1 : ¬ ((0 + 8 + m : Nat) : Int) < (n : Int) := by omega
      rw [if_neg (by rw [unhide HN]; exact hend)] at SE
      have OG := hide (show OwnB W1.heap.size V1 (some ⟨g, 0, none⟩) m H from by
        have := OwnB.ofBlock (base := W1.heap.size) hcs hg (unhide HL) (by rw [unhide HM]; simp only [maxLen]; omega)
        rw [unhide HM] at this
        exact this)
      have GL := hide (show g < V1.heap.size from (Array.getElem?_eq_some_iff.1 hcs).1)
      have GD := hide (show D < g by
        have h1 : D < W1.heap.size := unhide W1L
        omega)
      have G0 := hide (show GA w D V1.heap.size (V1.heap.size + 1) (some ⟨g, 0, none⟩) m H 0 0 #[.int .i64 0, .int .i64 0, .slice none 0 0, .slice none 0 0, .slice none 0 0] ((V1.alloc (.cells #[.int .i64 0, .int .i64 0, .slice none 0 0, .slice none 0 0, .slice none 0 0] 29)).alloc (.cells #[.slice (some ⟨g, 0, none⟩) m m, .int .i64 0, .int .i64 0] 92)) from by
        have a1 : Below V1.heap.size V1 (V1.alloc (.cells #[.int .i64 0, .int .i64 0, .slice none 0 0, .slice none 0 0, .slice none 0 0] 29)) := (Below.refl _ _).alloc (Nat.le_refl _) _
        have hs1 : (V1.alloc (.cells #[.int .i64 0, .int .i64 0, .slice none 0 0, .slice none 0 0, .slice none 0 0] 29)).heap.size = V1.heap.size + 1 := by simp
        have a2 : Below (V1.alloc (.cells #[.int .i64 0, .int .i64 0, .slice none 0 0, .slice none 0 0, .slice none 0 0] 29)).heap.size (V1.alloc (.cells #[.int .i64 0, .int .i64 0, .slice none 0 0, .slice none 0 0, .slice none 0 0] 29)) ((V1.alloc (.cells #[.int .i64 0, .int .i64 0, .slice none 0 0, .slice none 0 0, .slice none 0 0] 29)).alloc (.cells #[.slice (some ⟨g, 0, none⟩) m m, .int .i64 0, .int .i64 0] 92)) := (Below.refl _ _).alloc (Nat.le_refl _) _
        have hn2 := heap_new (V1.alloc (.cells #[.int .i64 0, .int .i64 0, .slice none 0 0, .slice none 0 0, .slice none 0 0] 29)) (.cells #[.slice (some ⟨g, 0, none⟩) m m, .int .i64 0, .int .i64 0] 92)
        rw [hs1] at hn2
        refine ⟨⟨?_, ((unhide OG).bytes.later a1).later a2, fun ad e => ?_, Nat.zero_le _, by rw [unhide HM]; exact hH, by rw [unhide HM]; exact Nat.le_refl _, by simp only [maxLen]; omega, fun e => by cases e⟩, later_block a2 (heap_new V1 _), later_block a2 (later_block a1 (unhide Y2)), ?_, hD, unhide LT1, Nat.lt_succ_self _, fun ad e => ?_⟩
        · rw [unhide HM]
          exact hn2
        · cases e
          have := unhide GL
          show g ≠ V1.heap.size + 1
          omega
        · have := unhide U1
          exact (show Below w.heap.size w V1 by rw [hD]; exact this).trans ((a1.trans (a2.mono a1.size)).mono (show Below w.heap.size w V1 by rw [hD]; exact this).size)
        · cases e
          exact ⟨unhide GL, unhide GD⟩)
      rcases ha : posR H 0 0 with ⟨i, k1, e1⟩
      rcases hb : posR H k1 e1 with ⟨t, k2, e2⟩
      rcases hc' : memR H k2 e2 with ⟨⟨v, lr⟩, k3, e3⟩
      rcases hd : datR H k3 e3 with ⟨dd, k4, e4⟩
      have AE := hide (show allE H = endR H k4 e4 by unfold allE; simp only [ha, hb, hc', hd])
      have AV := hide (show allV H = ⟨i, t, v, lr, dd⟩ by unfold allV; simp only [ha, hb, hc', hd])
      have PA := hide ha
      have PB := hide hb
      have PCC := hide hc'
      have PD := hide hd
      clear hcs hg DONE OG Y2 U1 u1 h0 hHl ha hb hc' hd
      go_wp2_with fail
      generalize hR : V1.heap.size + 1 = R at *
      generalize (V1.alloc (.cells #[.int .i64 0, .int .i64 0, .slice none 0 0, .slice none 0 0, .slice none 0 0] 29)).alloc (.cells #[.slice (some ⟨g, 0, none⟩) m m, .int .i64 0, .int .i64 0] 92) = W3 at *
      generalize hS : V1.heap.size = S at *
      have CC := hide (spos_calls (unhide G0).sr)
      unfold NEnd at CC
      rw [unhide PA] at CC
      dsimp only at CC
      go_at_call 59
      refine (unhide CC).mono ?_
      rintro en V2 ⟨rfl, z2, g2⟩
      have G1 := hide ((unhide G0).call z2 g2)
      have q0 := box_cell (unhide G1).xs 0 _ rfl
      have q1 := mbox_free (unhide G1).xs 0
      have G2 := hide ((unhide G1).set 0 (.int .i64 (i : Int)))
      clear z2 g2 CC G0
      go_wp2_with fail
      generalize V2.setCell ⟨S, 0, none⟩ (.int .i64 (i : Int)) = W4 at *
      have CC := hide (spos_calls (unhide G2).sr)
      unfold NEnd at CC
      rw [unhide PB] at CC
      dsimp only at CC
      clear q0 q1 G1
      go_at_call 59
      refine (unhide CC).mono ?_
      rintro en V3 ⟨rfl, z2, g2⟩
      have G3 := hide ((unhide G2).call z2 g2)
      have q0 := box_cell (unhide G3).xs 1 _ rfl
      have q1 := mbox_free (unhide G3).xs 1
      have G4 := hide ((unhide G3).set 1 (.int .i64 (t : Int)))
      clear z2 g2 CC G2
      go_wp2_with fail
      generalize V3.setCell ⟨S, 1, none⟩ (.int .i64 (t : Int)) = W5 at *
      have CC := hide (smem_calls (unhide G4).sr)
      unfold MEnd at CC
      rw [unhide PCC] at CC
      dsimp only at CC
      clear q0 q1 G3
      go_at_call 60
      refine (unhide CC).mono ?_
      rintro en V4 ⟨spA, nA, cA, spB, nB, cB, rfl, hnA, hnB, oA, oB, z2, g2⟩
      have SZ := hide (show S < W5.heap.size from Nat.lt_trans (unhide G4).sl (unhide G4).size)
      have RZ := hide (unhide G4).size
      have G5 := hide ((unhide G4).call z2 g2)
      have q0 := box_cell (unhide G5).xs 2 _ rfl
      have q1 := mbox_free (unhide G5).xs 2
      have q2 := box_cell (unhide G5).xs 3 _ rfl
      have q3 := mbox_free (unhide G5).xs 3
      have G6 := hide (((unhide G5).set 2 (.slice spA nA cA)).set 3 (.slice spB nB cB))
      have OA := hide ((oA.stays 2 (.slice spA nA cA) (unhide SZ)).stays 3 (.slice spB nB cB) (unhide SZ))
      have OB := hide ((oB.stays 2 (.slice spA nA cA) (unhide SZ)).stays 3 (.slice spB nB cB) (unhide SZ))
      have NA := hide hnA
      have NB := hide hnB
      clear z2 g2 CC G4 oA oB hnA hnB
      go_wp2_with fail
      generalize (V4.setCell ⟨S, 2, none⟩ (.slice spA nA cA)).setCell ⟨S, 3, none⟩ (.slice spB nB cB) = W6 at *
      have CC := hide (sdat_calls (unhide G6).sr)
      unfold CEnd at CC
      rw [unhide PD] at CC
      dsimp only at CC
      clear q0 q1 q2 q3 G5
      go_at_call 61
      refine (unhide CC).mono ?_
      rintro en V5 ⟨dp, dn, dc, rfl, pt, z2, g2⟩
      have G7 := hide ((unhide G6).call z2 g2)
      have q0 := box_cell (unhide G7).xs 4 _ rfl
      have q1 := mbox_free (unhide G7).xs 4
      have G8 := hide ((unhide G7).set 4 (.slice dp dn dc))
      have OA8 := hide (((unhide OA).far g2 (unhide RZ)).stays 4 (.slice dp dn dc) (unhide SZ))
      have OB8 := hide (((unhide OB).far g2 (unhide RZ)).stays 4 (.slice dp dn dc) (unhide SZ))
      have DL := hide pt.len
      have DC := hide pt.cap
      have DM := hide pt.mx
      have DZ := hide pt.nz
      have DO := hide pt.of
      have DB := hide (show BytesAt (V5.setCell ⟨S, 4, none⟩ (.slice dp dn dc)) dp dd from pt.by_.far (grown_set _ _ _ _) (fun b off e => by
        obtain ⟨a', h1, h2⟩ := pt.of _ e
        have h3 := ((unhide G7).pn a' h1).1
        have h4 : a'.block = b := h2
        omega))
      clear pt z2 g2 CC G6 OA OB
      go_wp2_with fail
      generalize V5.setCell ⟨S, 4, none⟩ (.slice dp dn dc) = W7 at *
      have CC := hide (send_calls (unhide G8).sr)
      clear q0 q1 G7
      go_at_call 62
      refine (unhide CC).mono ?_
      rintro en V6 ⟨rfl, z2, g2⟩
      have G9 := hide ((unhide G8).call z2 g2)
      have OA9 := hide ((unhide OA8).far g2 (unhide RZ))
      have OB9 := hide ((unhide OB8).far g2 (unhide RZ))
      have DB9 := hide ((unhide DB).far g2 (fun b off e => by
        obtain ⟨a', h1, h2⟩ := unhide DO _ e
        have h3 := ((unhide G8).pn a' h1).1
        have h4 : a'.block = b := h2
        have h5 := (unhide G8).sl
        omega))
      clear z2 g2 CC G8 OA8 OB8 DB
      rw [← unhide AE] at G9
      have f0 := mbox_free (unhide G9).yd 0
      have f1 := mbox_free (unhide G9).yd 1
      have f2 := mbox_free (unhide G9).yd 2
      have f3 := mbox_free (unhide G9).yd 3
      have f4 := mbox_free (unhide G9).yd 4
      have z0 := box_cell (unhide G9).yd 0 _ rfl
      have z1 := box_cell (unhide G9).yd 1 _ rfl
      have z2 := box_cell (unhide G9).yd 2 _ rfl
      have z3 := box_cell (unhide G9).yd 3 _ rfl
      have z4 := box_cell (unhide G9).yd 4 _ rfl
      cases hg : snG H with
      | ok s =>
        rw [hg] at SE AI
        obtain ⟨ai, av⟩ := unhide AI
        rw [ai] at G9
        have q2 : V6.cell? ⟨R, 2, none⟩ = some (.int .i64 0) := (unhide G9).sr.c2
        have s0 := box_cell (unhide G9).xs 0 _ rfl
        have s1 := box_cell (unhide G9).xs 1 _ rfl
        have s2 := box_cell (unhide G9).xs 2 _ rfl
        have s3 := box_cell (unhide G9).xs 3 _ rfl
        have s4 := box_cell (unhide G9).xs 4 _ rfl
        obtain ⟨W, hr, gW, hW⟩ := five_sets (unhide G9).yd (.int .i64 (i : Int)) (.int .i64 (t : Int)) (.slice spA nA cA) (.slice spB nB cB) (.slice dp dn dc)
        have HW := hide hW
        have y0 := box_cell hr 0 _ rfl
        have y1 := box_cell hr 1 _ rfl
        have y2 := box_cell hr 2 _ rfl
        have y3 := box_cell hr 3 _ rfl
        have y4 := box_cell hr 4 _ rfl
        have FF := hide (show GetS l w (.returned (.tuple #[.agg #[.int .i64 (i : Int), .int .i64 (t : Int), .slice spA nA cA, .slice spB nB cB, .slice dp dn dc], .int .i64 0])) W from by
          unfold GetS
          rw [unhide SE]
          dsimp only [snOf, snX]
          rw [← av, unhide AV]
          obtain ⟨may1, may2, may3, may4⟩ := snE_may (snG_back (unhide HL) hg).1
          rw [← av, unhide AV] at may1 may2 may3 may4
          dsimp only at may1 may2 may3 may4
          have oa := (unhide OA9).stays' gW (by have := (unhide G9).ds; have := unhide SZ; omega)
          have ob := (unhide OB9).stays' gW (by have := (unhide G9).ds; have := unhide SZ; omega)
          refine ⟨⟨spA, cA, spB, cB, dp, dc⟩, ?_, ⟨by dsimp only; omega, by dsimp only; omega, oa.ints, ob.ints, ?_, Nat.le_trans oa.cap.1 oa.cap.2, Nat.le_trans ob.cap.1 ob.cap.2, by dsimp only; rw [unhide DL]; exact unhide DC, unhide DM, unhide DZ⟩, fun ad e => ?_, below_grown (unhide G9).be gW (by have := (unhide G9).wd; omega) (unhide G9).be.size⟩
          · unfold snRow
            dsimp only
            rw [unhide NA, unhide NB, unhide DL]
            rfl
          · exact (unhide DB9).far gW (fun b off e => by
              obtain ⟨a', h1, h2⟩ := unhide DO _ e
              have h3 := ((unhide G9).pn a' h1).2
              have h4 : a'.block = b := h2
              omega)
          · have h4 := (unhide G9).wd
            have h5 := unhide SZ
            have h6 := (unhide G9).ds
            rcases e with e | e | e
            · have := oa.adr ad e
              omega
            · have := ob.adr ad e
              omega
            · obtain ⟨a', h1, h2⟩ := unhide DO _ e
              have h3 := ((unhide G9).pn a' h1).2
              omega)
        clear hW hr gW ai av hg OA9 OB9 DB9 DO AI AV AE
        go_wp2_with fail
        rw [unhide HW]
        go_wp2
        refine bodyPost_ret (v := .tuple #[.agg #[.int .i64 (i : Int), .int .i64 (t : Int), .slice spA nA cA, .slice spB nB cB, .slice dp dn dc], .int .i64 0]) (by simp [results, Tryz.results19, go_sem, y0, y1, y2, y3, y4]) rfl ?_
        exact unhide FF
      | error x =>
        rw [hg] at SE AI
        obtain ⟨ai, ax⟩ := unhide AI
        rw [ai] at G9
        have q2 : V6.cell? ⟨R, 2, none⟩ = some (.int .i64 (x : Int)) := (unhide G9).sr.c2
        have x3 : ¬ (x : Int) = 0 := by omega
        have x4 : ((x : Int) == 0) = false := by simp [ax]
        have DR := hide (show ∀ u : World, u.heap[D]? = some (.cells #[.int .i64 0, .int .i64 0, .slice none 0 0, .slice none 0 0, .slice none 0 0] 29 (0, 0)) → Below w.heap.size w u → ∃ W, W.cell? ⟨D, 0, none⟩ = some (.int .i64 0) ∧ W.cell? ⟨D, 1, none⟩ = some (.int .i64 0) ∧ W.cell? ⟨D, 2, none⟩ = some (.slice none 0 0) ∧ W.cell? ⟨D, 3, none⟩ = some (.slice none 0 0) ∧ W.cell? ⟨D, 4, none⟩ = some (.slice none 0 0) ∧ GetS l w (.returned (.tuple #[.agg #[.int .i64 0, .int .i64 0, .slice none 0 0, .slice none 0 0, .slice none 0 0], .int .i64 (x : Int)])) W ∧
            ((((u.setCell ⟨D, 0, none⟩ (.int .i64 0)).setCell ⟨D, 1, none⟩ (.int .i64 0)).setCell ⟨D, 2, none⟩ (.slice none 0 0)).setCell ⟨D, 3, none⟩ (.slice none 0 0)).setCell ⟨D, 4, none⟩ (.slice none 0 0) = W from fun u Y F => by
          obtain ⟨W, hr, gW, hW⟩ := five_sets Y (.int .i64 0) (.int .i64 0) (.slice none 0 0) (.slice none 0 0) (.slice none 0 0)
          exact ⟨W, box_cell hr 0 _ rfl, box_cell hr 1 _ rfl, box_cell hr 2 _ rfl, box_cell hr 3 _ rfl, box_cell hr 4 _ rfl, getS_bad (unhide SE) (below_grown F gW (by have := (unhide G9).wd; omega) F.size), hW⟩)
        have RD := hide (show R ≠ D by have := (unhide G9).ds; have := (unhide G9).sl; omega)
        clear ai ax hg OA9 OB9 DB9 DO AI AV AE
        generalize (x : Int) = xi at *
        go_wp2_with fail
        have a0 : V6.drew.cell? ⟨R, 2, none⟩ = some (.int .i64 xi) := q2
        obtain ⟨W, y0, y1, y2, y3, y4, FF, hW⟩ := unhide DR V6 (unhide G9).yd (unhide G9).be
        have HW := hide hW
        have F1 := hide (show GetS l w (.returned (.tuple #[.agg #[.int .i64 0, .int .i64 0, .slice none 0 0, .slice none 0 0, .slice none 0 0], .int .i64 xi])) W.drew from by
          obtain ⟨hh, e1, e2, e3, e4⟩ := FF
          exact ⟨hh, e1, e2.later ((Below.refl _ _).drew), e3, e4.trans ((Below.refl _ _).drew)⟩)
        have d0 : W.drew.cell? ⟨D, 0, none⟩ = some (.int .i64 0) := y0
        have d1 : W.drew.cell? ⟨D, 1, none⟩ = some (.int .i64 0) := y1
        have d2 : W.drew.cell? ⟨D, 2, none⟩ = some (.slice none 0 0) := y2
        have d3 : W.drew.cell? ⟨D, 3, none⟩ = some (.slice none 0 0) := y3
        have d4 : W.drew.cell? ⟨D, 4, none⟩ = some (.slice none 0 0) := y4
        have rd1 : ¬ R = D := unhide RD
        have rd2 : ¬ D = R := fun e => unhide RD e.symm
        clear hW FF DR
        go_region
        rw [unhide HW]
        go_wp2
        refine bodyPost_ret (v := .tuple #[.agg #[.int .i64 0, .int .i64 0, .slice none 0 0, .slice none 0 0, .slice none 0 0], .int .i64 xi]) (by simp [results, Tryz.results19, go_sem, d0, d1, d2, d3, d4]) rfl ?_
        exact unhide F1
end Go.Proofs.YtagncghpfdjkmaaGreatDoor
end
