/- Deeds of a log that came in, opened; few enough (short). -/
import Derived.Test.YtijcpmbfhfppmaaGreatDoorWpb
import Derived.Test.YtijcpmbfhfppmaaGreatDoorEarg
import Derived.Deep.Slices
import Derived.Lib.SmallJoins
namespace Go.Proofs.YtijcpmbfhfppmaaGreatDoor
open Go.ChangeShapes Go.WideShapes Go.ChangeAt Go.RowKit
set_option linter.unusedVariables false

/-- A deed: its kind, entries, hard state, mark, what is kept. -/
structure Wd where
  kind : Int
  es : List EntI
  ht : Int
  hv : Int
  mi : Int
  mt : Int
  keep : List Int
instance : Inhabited Wd := ⟨⟨0, [], 0, 0, 0, 0, []⟩⟩
/-- Where a deed's rows lie. -/
structure WdH where
  ep : Option Addr
  ec : Nat
  kp : Option Addr
  kc : Nat
def wdRow (e : Wd) (h : WdH) : Array Value := #[.int .i64 e.kind, .slice h.ep e.es.length h.ec, .int .i64 e.ht, .int .i64 e.hv, .int .i64 e.mi, .int .i64 e.mt, .slice h.kp e.keep.length h.kc]
def w64 (n : Int) : Prop := -9223372036854775808 ≤ n ∧ n ≤ 9223372036854775807
/-- What is known of a deed that came in. -/
structure WdAt (w : World) (e : Wd) (h : WdH) : Prop where
  wk : w64 e.kind
  wt : w64 e.ht
  wv : w64 e.hv
  wi : w64 e.mi
  wm : w64 e.mt
  se : e.es.length ≤ maxLen
  sk : e.keep.length ≤ maxLen
  en : EntsAt w h.ep e.es
  eb : ∀ x ∈ e.es, EntBd x
  ks : IntsAt w h.kp e.keep
theorem WdAt.later {w w' : World} {e : Wd} {h : WdH} (x : WdAt w e h) (hb : Below w.heap.size w w') : WdAt w' e h := ⟨x.wk, x.wt, x.wv, x.wi, x.wm, x.se, x.sk, x.en.later hb, x.eb, x.ks.later hb⟩
def wdCells (e : Wd) (h : WdH) (w : World) (b off : Nat) : Prop :=
  w.cell? ⟨b, off, none⟩ = some (.int .i64 e.kind) ∧ w.cell? ⟨b, off + 1, none⟩ = some (.slice h.ep e.es.length h.ec) ∧ w.cell? ⟨b, off + 2, none⟩ = some (.int .i64 e.ht) ∧ w.cell? ⟨b, off + 3, none⟩ = some (.int .i64 e.hv) ∧
  w.cell? ⟨b, off + 4, none⟩ = some (.int .i64 e.mi) ∧ w.cell? ⟨b, off + 5, none⟩ = some (.int .i64 e.mt) ∧ w.cell? ⟨b, off + 6, none⟩ = some (.slice h.kp e.keep.length h.kc)
structure WdsAt (w : World) (a : Option Addr) (es : List Wd) : Prop where
  cell : ∀ i (hi : i < es.length), ∃ b off h, a = some ⟨b, off, none⟩ ∧ wdCells es[i] h w b (off + i * 7) ∧ WdAt w es[i] h
theorem WdsAt.later {w w' : World} {a : Option Addr} {es : List Wd} (h : WdsAt w a es) (hb : Below w.heap.size w w') : WdsAt w' a es :=
  ⟨fun i hi => by
    obtain ⟨b, off, hh, h0, ⟨h1, h2, h3, h4, h5, h6, h7⟩, h8⟩ := h.cell i hi
    exact ⟨b, off, hh, h0, ⟨cell_later hb h1, cell_later hb h2, cell_later hb h3, cell_later hb h4, cell_later hb h5, cell_later hb h6, cell_later hb h7⟩, h8.later hb⟩⟩
theorem cells7 {w : World} {a : Addr} {cs : List Value} (h : w.cells? 0 a 7 = some cs) : ∃ v0 v1 v2 v3 v4 v5 v6, cs = [v0, v1, v2, v3, v4, v5, v6] ∧ w.cell? (a.add 0) = some v0 ∧ w.cell? (a.add 1) = some v1 ∧ w.cell? (a.add 2) = some v2 ∧ w.cell? (a.add 3) = some v3 ∧ w.cell? (a.add 4) = some v4 ∧ w.cell? (a.add 5) = some v5 ∧ w.cell? (a.add 6) = some v6 := by
  unfold World.cells? at h
  rw [if_pos (Nat.zero_le _)] at h
  simp only [show List.range 7 = [0, 1, 2, 3, 4, 5, 6] from rfl, List.mapM_cons, List.mapM_nil, Option.bind_eq_bind, Option.bind_eq_some_iff, Option.pure_def, Option.some.injEq] at h
  obtain ⟨v0, h0, r, ⟨v1, h1, r1, ⟨v2, h2, r2, ⟨v3, h3, r3, ⟨v4, h4, r4, ⟨v5, h5, r5, ⟨v6, h6, r6, rfl, rfl⟩, rfl⟩, rfl⟩, rfl⟩, rfl⟩, rfl⟩, rfl⟩ := h
  exact ⟨v0, v1, v2, v3, v4, v5, v6, rfl, h0, h1, h2, h3, h4, h5, h6⟩
theorem list5 {α : Type} {l : List α} (h : l.length = 5) : ∃ c0 c1 c2 c3 c4, l = [c0, c1, c2, c3, c4] := by
  match l, h with
  | [c0, c1, c2, c3, c4], _ => exact ⟨c0, c1, c2, c3, c4, rfl⟩
theorem list2 {α : Type} {l : List α} (h : l.length = 2) : ∃ c0 c1, l = [c0, c1] := by
  match l, h with
  | [c0, c1], _ => exact ⟨c0, c1, rfl⟩
set_option maxRecDepth 20000 in
theorem pair_open {H : Type} {enc : TypeId × Value → H} {W : World} {n : Nat} {v0 v1 : Value} {y : DataW H × List MemPlace} {t : TypeId} (h : t = 29 ∨ t = 31)
    (h2 : DataW.trod enc Tryz.prog W 0 (fun _ => true) true n t [v0, v1] = some y) : ∃ a b, v0 = .int .i64 a ∧ v1 = .int .i64 b ∧ w64 a ∧ w64 b := by
  rcases h with rfl | rfl
  · obtain ⟨xs, n', _, _, _, hx, hfs⟩ := DataW.trod_struct Tryz.underlying29 h2
    obtain ⟨y0, y1, rfl⟩ := list2 (show xs.length = 2 from hx)
    obtain ⟨k, e0, _, w0⟩ := DataW.trod_int Tryz.underlying3 (show DataW.trod enc Tryz.prog W 0 (fun _ => true) true n' 3 [v0] = some y0 from hfs 0 _ rfl)
    obtain ⟨j, e1, _, w1⟩ := DataW.trod_int Tryz.underlying3 (show DataW.trod enc Tryz.prog W 0 (fun _ => true) true n' 3 [v1] = some y1 from hfs 1 _ rfl)
    simp only [List.cons.injEq, and_true] at e0 e1
    exact ⟨k, j, e0, e1, i64_bounds w0, i64_bounds w1⟩
  · obtain ⟨xs, n', _, _, _, hx, hfs⟩ := DataW.trod_struct Tryz.underlying31 h2
    obtain ⟨y0, y1, rfl⟩ := list2 (show xs.length = 2 from hx)
    obtain ⟨k, e0, _, w0⟩ := DataW.trod_int Tryz.underlying3 (show DataW.trod enc Tryz.prog W 0 (fun _ => true) true n' 3 [v0] = some y0 from hfs 0 _ rfl)
    obtain ⟨j, e1, _, w1⟩ := DataW.trod_int Tryz.underlying3 (show DataW.trod enc Tryz.prog W 0 (fun _ => true) true n' 3 [v1] = some y1 from hfs 1 _ rfl)
    simp only [List.cons.injEq, and_true] at e0 e1
    exact ⟨k, j, e0, e1, i64_bounds w0, i64_bounds w1⟩
set_option maxRecDepth 20000 in
theorem wd_open {H : Type} {enc : TypeId × Value → H} {W : World} {n : Nat} {v0 v1 v2 v3 v4 v5 v6 : Value} {y : DataW H × List MemPlace}
    (h2 : DataW.trod enc Tryz.prog W 0 (fun _ => true) true n 34 [v0, v1, v2, v3, v4, v5, v6] = some y) :
    ∃ (e : Wd) (h : WdH), v0 = .int .i64 e.kind ∧ v1 = .slice h.ep e.es.length h.ec ∧ v2 = .int .i64 e.ht ∧ v3 = .int .i64 e.hv ∧ v4 = .int .i64 e.mi ∧ v5 = .int .i64 e.mt ∧ v6 = .slice h.kp e.keep.length h.kc ∧ WdAt W e h := by
  obtain ⟨xs, n', _, _, _, hx, hfs⟩ := DataW.trod_struct Tryz.underlying34 h2
  obtain ⟨y0, y1, y2, y3, y4, rfl⟩ := list5 (show xs.length = 5 from hx)
  obtain ⟨k, e0, _, w0⟩ := DataW.trod_int Tryz.underlying3 (show DataW.trod enc Tryz.prog W 0 (fun _ => true) true n' 3 [v0] = some y0 from hfs 0 _ rfl)
  have t1 : DataW.trod enc Tryz.prog W 0 (fun _ => true) true n' 27 [v1] = some y1 := hfs 1 _ rfl
  obtain ⟨t, u, e2, e3, w2, w3⟩ := pair_open (.inl rfl) (show DataW.trod enc Tryz.prog W 0 (fun _ => true) true n' 29 [v2, v3] = some y2 from hfs 2 _ rfl)
  obtain ⟨i, j, e4, e5, w4, w5⟩ := pair_open (.inr rfl) (show DataW.trod enc Tryz.prog W 0 (fun _ => true) true n' 31 [v4, v5] = some y3 from hfs 3 _ rfl)
  have t6 : DataW.trod enc Tryz.prog W 0 (fun _ => true) true n' 32 [v6] = some y4 := hfs 4 _ rfl
  obtain ⟨a1, l1, c1, e1⟩ := Joins.slice_form Tryz.underlying27 t1
  obtain ⟨a6, l6, c6, e6⟩ := Joins.slice_form Tryz.underlying32 t6
  simp only [List.cons.injEq, and_true] at e0 e1 e6
  subst e0 e1 e2 e3 e4 e5 e6
  have hs1 : DataW.Trod enc Tryz.prog W 0 (fun _ => true) true 27 (.slice a1 l1 c1) y1.1 y1.2 := ⟨n', t1⟩
  have hs6 : DataW.Trod enc Tryz.prog W 0 (fun _ => true) true 32 (.slice a6 l6 c6) y4.1 y4.2 := ⟨n', t6⟩
  obtain ⟨es, rfl, he, hE, hB⟩ := ents_arg hs1
  obtain ⟨ks, rfl, hk, hI⟩ := row64 hs6
  exact ⟨⟨k, es, t, u, i, j, ks⟩, ⟨a1, c1, a6, c6⟩, rfl, rfl, rfl, rfl, rfl, rfl, rfl, i64_bounds w0, w2, w3, w4, w5, he, hk, hE, hB, hI⟩
set_option maxRecDepth 20000 in
theorem ddeeds_arg {H : Type} {enc : TypeId × Value → H} {W : World} {a : Option Addr} {len cap : Nat} {d : DataW H} {p : List MemPlace}
    (h : DataW.Trod enc Tryz.prog W 0 (fun _ => true) true 22 (.slice a len cap) d p) :
    ∃ es : List Wd, es.length = len ∧ len ≤ maxLen ∧ WdsAt W a es := by
  obtain ⟨fuel, hf⟩ := h
  have c7 : Tryz.prog.cellsOf 34 = 7 := by kernel_rfl
  rcases Deep.open_slice Tryz.underlying22 hf with ⟨hcs, _⟩ | ⟨x, l, c, m, n, D, Pl, hcs, _, hl, hm, hm', _, hel⟩
  · simp [Value.cells] at hcs
    obtain ⟨rfl, rfl, rfl⟩ := hcs
    exact ⟨[], rfl, by simp [maxLen], ⟨by simp⟩⟩
  · simp [Value.cells] at hcs
    obtain ⟨rfl, rfl, rfl⟩ := hcs
    have hmm : m = cap := by simpa using hm'
    rw [c7] at hel
    have hone : ∀ i, i < len → ∃ (e : Wd), ∃ h : WdH, W.cell? ((x.add (i * 7)).add 0) = some (.int .i64 e.kind) ∧ W.cell? ((x.add (i * 7)).add 1) = some (.slice h.ep e.es.length h.ec) ∧ W.cell? ((x.add (i * 7)).add 2) = some (.int .i64 e.ht) ∧ W.cell? ((x.add (i * 7)).add 3) = some (.int .i64 e.hv) ∧ W.cell? ((x.add (i * 7)).add 4) = some (.int .i64 e.mi) ∧ W.cell? ((x.add (i * 7)).add 5) = some (.int .i64 e.mt) ∧ W.cell? ((x.add (i * 7)).add 6) = some (.slice h.kp e.keep.length h.kc) ∧ WdAt W e h := by
      intro i hi
      obtain ⟨cs', h1, h2⟩ := hel i (by omega)
      obtain ⟨v0, v1, v2, v3, v4, v5, v6, rfl, g0, g1, g2, g3, g4, g5, g6⟩ := cells7 h1
      obtain ⟨e, h, rfl, rfl, rfl, rfl, rfl, rfl, rfl, hd⟩ := wd_open h2
      exact ⟨e, h, g0, g1, g2, g3, g4, g5, g6, hd⟩
    obtain ⟨f, hfp⟩ := Deep.choose_lt (n := len) (p := fun i (e : Wd) => ∃ h : WdH, W.cell? ((x.add (i * 7)).add 0) = some (.int .i64 e.kind) ∧ W.cell? ((x.add (i * 7)).add 1) = some (.slice h.ep e.es.length h.ec) ∧ W.cell? ((x.add (i * 7)).add 2) = some (.int .i64 e.ht) ∧ W.cell? ((x.add (i * 7)).add 3) = some (.int .i64 e.hv) ∧ W.cell? ((x.add (i * 7)).add 4) = some (.int .i64 e.mi) ∧ W.cell? ((x.add (i * 7)).add 5) = some (.int .i64 e.mt) ∧ W.cell? ((x.add (i * 7)).add 6) = some (.slice h.kp e.keep.length h.kc) ∧ WdAt W e h) (fun i hi => hone i hi)
    refine ⟨(List.range len).map f, by simp, by omega, ⟨fun i hi => ?_⟩⟩
    simp only [List.length_map, List.length_range] at hi
    obtain ⟨h, h0, h1, h2, h3, h4, h5, h6, h7⟩ := hfp i hi
    have e : ((List.range len).map f)[i]'(by simpa using hi) = f i := by simp
    rw [e]
    obtain ⟨b, off, spot⟩ := x
    obtain ⟨_, h00, _⟩ := hfp 0 (by omega)
    have hspot : spot = none := by simpa [Addr.add] using World.cell?_spot h00
    subst hspot
    simp only [Addr.add_lit] at h0 h1 h2 h3 h4 h5 h6
    exact ⟨b, off, h, rfl, ⟨h0, h1, h2, h3, h4, h5, h6⟩, h7⟩
/-- What short counts. -/
def sumN (es : List EntI) : Nat := (es.map fun e => 20 + min e.2.2.2.length 6000).sum
theorem sumN_take (es : List EntI) (j : Nat) (hj : j < es.length) : sumN (es.take (j + 1)) = sumN (es.take j) + (20 + min es[j].2.2.2.length 6000) := by
  unfold sumN
  rw [List.take_succ_eq_append_getElem hj, List.map_append, List.sum_append]
  simp
theorem sumN_len : ∀ es : List EntI, es.length * 20 ≤ sumN es
  | [] => by simp [sumN]
  | e :: es => by
    have := sumN_len es
    unfold sumN at this ⊢
    rw [List.map_cons, List.sum_cons, List.length_cons]
    omega
theorem recsE_sum : ∀ {es : List EntI} {b : List Nat}, recsE es = .ok b → b.length ≤ 2 * sumN es
  | [], b, h => by cases h; simp
  | e :: es, b, h => by
    rw [recsE_cons] at h
    cases hp : putE e with
    | error x => rw [hp] at h; cases h
    | ok y =>
      rw [hp] at h
      dsimp only at h
      cases hr : recsE es with
      | error x => rw [hr] at h; cases h
      | ok m =>
        rw [hr] at h
        cases h
        have ih := recsE_sum hr
        obtain ⟨k, t, i, _, _, _, hM, hl, h6, _⟩ := putE_ok hp
        obtain ⟨_, ⟨_, t2⟩, ⟨_, i2⟩, _⟩ := hM
        have n1 := numB_six t (by omega)
        have n2 := numB_six i (by omega)
        have n3 := numB_six e.2.2.2.length (by omega)
        unfold sumN at ih ⊢
        rw [List.map_cons, List.sum_cons, List.length_append, recB_length, h6]
        unfold entryB
        simp only [List.length_cons, List.length_append]
        omega
end Go.Proofs.YtijcpmbfhfppmaaGreatDoor
