/- Deeds of a log that came in, opened; few enough (short). -/
import Derived.Test.YtijcpmbfhfppmaaGreatDoorB28
import Derived.Deep.Slices
import Derived.Lib.SmallJoins
import Derived.Test.YtijcpmbfhfppmaaGreatDoorB26
import Derived.Test.YtijcpmbfhfppmaaGreatDoorB27
section
namespace Go.Proofs.YtijcpmbfhfppmaaGreatDoor
open Go.ChangeShapes Go.WideShapes Go.ChangeAt Go.RowKit
set_option linter.unusedVariables false

/-- A deed: its kind, entries, hard state, mark, what is kept. -/
structure Wd where
  kind : Int
  es : List EntI
  ht : Int
  hv : Int
  mi : Int
  mt : Int
  keep : List Int
instance : Inhabited Wd := ⟨⟨0, [], 0, 0, 0, 0, []⟩⟩
/-- Where a deed's rows lie. -/
structure WdH where
  ep : Option Addr
  ec : Nat
  kp : Option Addr
  kc : Nat
def wdRow (e : Wd) (h : WdH) : Array Value := #[.int .i64 e.kind, .slice h.ep e.es.length h.ec, .int .i64 e.ht, .int .i64 e.hv, .int .i64 e.mi, .int .i64 e.mt, .slice h.kp e.keep.length h.kc]
def w64 (n : Int) : Prop := -9223372036854775808 ≤ n ∧ n ≤ 9223372036854775807
/-- What is known of a deed that came in. -/
structure WdAt (w : World) (e : Wd) (h : WdH) : Prop where
  wk : w64 e.kind
  wt : w64 e.ht
  wv : w64 e.hv
  wi : w64 e.mi
  wm : w64 e.mt
  se : e.es.length ≤ maxLen
  sk : e.keep.length ≤ maxLen
  en : EntsAt w h.ep e.es
  eb : ∀ x ∈ e.es, EntBd x
  ks : IntsAt w h.kp e.keep
theorem WdAt.later {w w' : World} {e : Wd} {h : WdH} (x : WdAt w e h) (hb : Below w.heap.size w w') : WdAt w' e h := ⟨x.wk, x.wt, x.wv, x.wi, x.wm, x.se, x.sk, x.en.later hb, x.eb, x.ks.later hb⟩
def wdCells (e : Wd) (h : WdH) (w : World) (b off : Nat) : Prop :=
  w.cell? ⟨b, off, none⟩ = some (.int .i64 e.kind) ∧ w.cell? ⟨b, off + 1, none⟩ = some (.slice h.ep e.es.length h.ec) ∧ w.cell? ⟨b, off + 2, none⟩ = some (.int .i64 e.ht) ∧ w.cell? ⟨b, off + 3, none⟩ = some (.int .i64 e.hv) ∧
  w.cell? ⟨b, off + 4, none⟩ = some (.int .i64 e.mi) ∧ w.cell? ⟨b, off + 5, none⟩ = some (.int .i64 e.mt) ∧ w.cell? ⟨b, off + 6, none⟩ = some (.slice h.kp e.keep.length h.kc)
structure WdsAt (w : World) (a : Option Addr) (es : List Wd) : Prop where
  cell : ∀ i (hi : i < es.length), ∃ b off h, a = some ⟨b, off, none⟩ ∧ wdCells es[i] h w b (off + i * 7) ∧ WdAt w es[i] h
theorem WdsAt.later {w w' : World} {a : Option Addr} {es : List Wd} (h : WdsAt w a es) (hb : Below w.heap.size w w') : WdsAt w' a es :=
  ⟨fun i hi => by
    obtain ⟨b, off, hh, h0, ⟨h1, h2, h3, h4, h5, h6, h7⟩, h8⟩ := h.cell i hi
    exact ⟨b, off, hh, h0, ⟨cell_later hb h1, cell_later hb h2, cell_later hb h3, cell_later hb h4, cell_later hb h5, cell_later hb h6, cell_later hb h7⟩, h8.later hb⟩⟩
theorem cells7 {w : World} {a : Addr} {cs : List Value} (h : w.cells? 0 a 7 = some cs) : ∃ v0 v1 v2 v3 v4 v5 v6, cs = [v0, v1, v2, v3, v4, v5, v6] ∧ w.cell? (a.add 0) = some v0 ∧ w.cell? (a.add 1) = some v1 ∧ w.cell? (a.add 2) = some v2 ∧ w.cell? (a.add 3) = some v3 ∧ w.cell? (a.add 4) = some v4 ∧ w.cell? (a.add 5) = some v5 ∧ w.cell? (a.add 6) = some v6 := by
  unfold World.cells? at h
  rw [if_pos (Nat.zero_le _)] at h
  simp only [show List.range 7 = [0, 1, 2, 3, 4, 5, 6] from rfl, List.mapM_cons, List.mapM_nil, Option.bind_eq_bind, Option.bind_eq_some_iff, Option.pure_def, Option.some.injEq] at h
  obtain ⟨v0, h0, r, ⟨v1, h1, r1, ⟨v2, h2, r2, ⟨v3, h3, r3, ⟨v4, h4, r4, ⟨v5, h5, r5, ⟨v6, h6, r6, rfl, rfl⟩, rfl⟩, rfl⟩, rfl⟩, rfl⟩, rfl⟩, rfl⟩ := h
  exact ⟨v0, v1, v2, v3, v4, v5, v6, rfl, h0, h1, h2, h3, h4, h5, h6⟩
theorem list5 {α : Type} {l : List α} (h : l.length = 5) : ∃ c0 c1 c2 c3 c4, l = [c0, c1, c2, c3, c4] := by
  match l, h with
  | [c0, c1, c2, c3, c4], _ => exact ⟨c0, c1, c2, c3, c4, rfl⟩
theorem list2 {α : Type} {l : List α} (h : l.length = 2) : ∃ c0 c1, l = [c0, c1] := by
  match l, h with
  | [c0, c1], _ => exact ⟨c0, c1, rfl⟩
set_option maxRecDepth 20000 in
theorem pair_open {H : Type} {enc : TypeId × Value → H} {W : World} {n : Nat} {v0 v1 : Value} {y : DataW H × List MemPlace} {t : TypeId} (h : t = 29 ∨ t = 31)
    (h2 : DataW.trod enc Tryz.prog W 0 (fun _ => true) true n t [v0, v1] = some y) : ∃ a b, v0 = .int .i64 a ∧ v1 = .int .i64 b ∧ w64 a ∧ w64 b := by
  rcases h with rfl | rfl
  · obtain ⟨xs, n', _, _, _, hx, hfs⟩ := DataW.trod_struct Tryz.underlying29 h2
    obtain ⟨y0, y1, rfl⟩ := list2 (show xs.length = 2 from hx)
    obtain ⟨k, e0, _, w0⟩ := DataW.trod_int Tryz.underlying3 (show DataW.trod enc Tryz.prog W 0 (fun _ => true) true n' 3 [v0] = some y0 from hfs 0 _ rfl)
    obtain ⟨j, e1, _, w1⟩ := DataW.trod_int Tryz.underlying3 (show DataW.trod enc Tryz.prog W 0 (fun _ => true) true n' 3 [v1] = some y1 from hfs 1 _ rfl)
    simp only [List.cons.injEq, and_true] at e0 e1
    exact ⟨k, j, e0, e1, i64_bounds w0, i64_bounds w1⟩
  · obtain ⟨xs, n', _, _, _, hx, hfs⟩ := DataW.trod_struct Tryz.underlying31 h2
    obtain ⟨y0, y1, rfl⟩ := list2 (show xs.length = 2 from hx)
    obtain ⟨k, e0, _, w0⟩ := DataW.trod_int Tryz.underlying3 (show DataW.trod enc Tryz.prog W 0 (fun _ => true) true n' 3 [v0] = some y0 from hfs 0 _ rfl)
    obtain ⟨j, e1, _, w1⟩ := DataW.trod_int Tryz.underlying3 (show DataW.trod enc Tryz.prog W 0 (fun _ => true) true n' 3 [v1] = some y1 from hfs 1 _ rfl)
    simp only [List.cons.injEq, and_true] at e0 e1
    exact ⟨k, j, e0, e1, i64_bounds w0, i64_bounds w1⟩
set_option maxRecDepth 20000 in
theorem wd_open {H : Type} {enc : TypeId × Value → H} {W : World} {n : Nat} {v0 v1 v2 v3 v4 v5 v6 : Value} {y : DataW H × List MemPlace}
    (h2 : DataW.trod enc Tryz.prog W 0 (fun _ => true) true n 34 [v0, v1, v2, v3, v4, v5, v6] = some y) :
    ∃ (e : Wd) (h : WdH), v0 = .int .i64 e.kind ∧ v1 = .slice h.ep e.es.length h.ec ∧ v2 = .int .i64 e.ht ∧ v3 = .int .i64 e.hv ∧ v4 = .int .i64 e.mi ∧ v5 = .int .i64 e.mt ∧ v6 = .slice h.kp e.keep.length h.kc ∧ WdAt W e h := by
  obtain ⟨xs, n', _, _, _, hx, hfs⟩ := DataW.trod_struct Tryz.underlying34 h2
  obtain ⟨y0, y1, y2, y3, y4, rfl⟩ := list5 (show xs.length = 5 from hx)
  obtain ⟨k, e0, _, w0⟩ := DataW.trod_int Tryz.underlying3 (show DataW.trod enc Tryz.prog W 0 (fun _ => true) true n' 3 [v0] = some y0 from hfs 0 _ rfl)
  have t1 : DataW.trod enc Tryz.prog W 0 (fun _ => true) true n' 27 [v1] = some y1 := hfs 1 _ rfl
  obtain ⟨t, u, e2, e3, w2, w3⟩ := pair_open (.inl rfl) (show DataW.trod enc Tryz.prog W 0 (fun _ => true) true n' 29 [v2, v3] = some y2 from hfs 2 _ rfl)
  obtain ⟨i, j, e4, e5, w4, w5⟩ := pair_open (.inr rfl) (show DataW.trod enc Tryz.prog W 0 (fun _ => true) true n' 31 [v4, v5] = some y3 from hfs 3 _ rfl)
  have t6 : DataW.trod enc Tryz.prog W 0 (fun _ => true) true n' 32 [v6] = some y4 := hfs 4 _ rfl
  obtain ⟨a1, l1, c1, e1⟩ := Joins.slice_form Tryz.underlying27 t1
  obtain ⟨a6, l6, c6, e6⟩ := Joins.slice_form Tryz.underlying32 t6
  simp only [List.cons.injEq, and_true] at e0 e1 e6
  subst e0 e1 e2 e3 e4 e5 e6
  have hs1 : DataW.Trod enc Tryz.prog W 0 (fun _ => true) true 27 (.slice a1 l1 c1) y1.1 y1.2 := ⟨n', t1⟩
  have hs6 : DataW.Trod enc Tryz.prog W 0 (fun _ => true) true 32 (.slice a6 l6 c6) y4.1 y4.2 := ⟨n', t6⟩
  obtain ⟨es, rfl, he, hE, hB⟩ := ents_arg hs1
  obtain ⟨ks, rfl, hk, hI⟩ := row64 hs6
  exact ⟨⟨k, es, t, u, i, j, ks⟩, ⟨a1, c1, a6, c6⟩, rfl, rfl, rfl, rfl, rfl, rfl, rfl, i64_bounds w0, w2, w3, w4, w5, he, hk, hE, hB, hI⟩
set_option maxRecDepth 20000 in
theorem ddeeds_arg {H : Type} {enc : TypeId × Value → H} {W : World} {a : Option Addr} {len cap : Nat} {d : DataW H} {p : List MemPlace}
    (h : DataW.Trod enc Tryz.prog W 0 (fun _ => true) true 22 (.slice a len cap) d p) :
    ∃ es : List Wd, es.length = len ∧ len ≤ maxLen ∧ WdsAt W a es := by
  obtain ⟨fuel, hf⟩ := h
  have c7 : Tryz.prog.cellsOf 34 = 7 := by kernel_rfl
  rcases Deep.open_slice Tryz.underlying22 hf with ⟨hcs, _⟩ | ⟨x, l, c, m, n, D, Pl, hcs, _, hl, hm, hm', _, hel⟩
  · simp [Value.cells] at hcs
    obtain ⟨rfl, rfl, rfl⟩ := hcs
    exact ⟨[], rfl, by simp [maxLen], ⟨by simp⟩⟩
  · simp [Value.cells] at hcs
    obtain ⟨rfl, rfl, rfl⟩ := hcs
    have hmm : m = cap := by simpa using hm'
    rw [c7] at hel
    have hone : ∀ i, i < len → ∃ (e : Wd), ∃ h : WdH, W.cell? ((x.add (i * 7)).add 0) = some (.int .i64 e.kind) ∧ W.cell? ((x.add (i * 7)).add 1) = some (.slice h.ep e.es.length h.ec) ∧ W.cell? ((x.add (i * 7)).add 2) = some (.int .i64 e.ht) ∧ W.cell? ((x.add (i * 7)).add 3) = some (.int .i64 e.hv) ∧ W.cell? ((x.add (i * 7)).add 4) = some (.int .i64 e.mi) ∧ W.cell? ((x.add (i * 7)).add 5) = some (.int .i64 e.mt) ∧ W.cell? ((x.add (i * 7)).add 6) = some (.slice h.kp e.keep.length h.kc) ∧ WdAt W e h := by
      intro i hi
      obtain ⟨cs', h1, h2⟩ := hel i (by omega)
      obtain ⟨v0, v1, v2, v3, v4, v5, v6, rfl, g0, g1, g2, g3, g4, g5, g6⟩ := cells7 h1
      obtain ⟨e, h, rfl, rfl, rfl, rfl, rfl, rfl, rfl, hd⟩ := wd_open h2
      exact ⟨e, h, g0, g1, g2, g3, g4, g5, g6, hd⟩
    obtain ⟨f, hfp⟩ := Deep.choose_lt (n := len) (p := fun i (e : Wd) => ∃ h : WdH, W.cell? ((x.add (i * 7)).add 0) = some (.int .i64 e.kind) ∧ W.cell? ((x.add (i * 7)).add 1) = some (.slice h.ep e.es.length h.ec) ∧ W.cell? ((x.add (i * 7)).add 2) = some (.int .i64 e.ht) ∧ W.cell? ((x.add (i * 7)).add 3) = some (.int .i64 e.hv) ∧ W.cell? ((x.add (i * 7)).add 4) = some (.int .i64 e.mi) ∧ W.cell? ((x.add (i * 7)).add 5) = some (.int .i64 e.mt) ∧ W.cell? ((x.add (i * 7)).add 6) = some (.slice h.kp e.keep.length h.kc) ∧ WdAt W e h) (fun i hi => hone i hi)
    refine ⟨(List.range len).map f, by simp, by omega, ⟨fun i hi => ?_⟩⟩
    simp only [List.length_map, List.length_range] at hi
    obtain ⟨h, h0, h1, h2, h3, h4, h5, h6, h7⟩ := hfp i hi
    have e : ((List.range len).map f)[i]'(by simpa using hi) = f i := by simp
    rw [e]
    obtain ⟨b, off, spot⟩ := x
    obtain ⟨_, h00, _⟩ := hfp 0 (by omega)
    have hspot : spot = none := by simpa [Addr.add] using World.cell?_spot h00
    subst hspot
    simp only [Addr.add_lit] at h0 h1 h2 h3 h4 h5 h6
    exact ⟨b, off, h, rfl, ⟨h0, h1, h2, h3, h4, h5, h6⟩, h7⟩
/-- What short counts. -/
def sumN (es : List EntI) : Nat := (es.map fun e => 20 + min e.2.2.2.length 6000).sum
theorem sumN_take (es : List EntI) (j : Nat) (hj : j < es.length) : sumN (es.take (j + 1)) = sumN (es.take j) + (20 + min es[j].2.2.2.length 6000) := by
  unfold sumN
  rw [List.take_succ_eq_append_getElem hj, List.map_append, List.sum_append]
  simp
theorem sumN_len : ∀ es : List EntI, es.length * 20 ≤ sumN es
  | [] => by simp [sumN]
  | e :: es => by
    have := sumN_len es
    unfold sumN at this ⊢
    rw [List.map_cons, List.sum_cons, List.length_cons]
    omega
theorem recsE_sum : ∀ {es : List EntI} {b : List Nat}, recsE es = .ok b → b.length ≤ 2 * sumN es
  | [], b, h => by cases h; simp
  | e :: es, b, h => by
    rw [recsE_cons] at h
    cases hp : putE e with
    | error x => rw [hp] at h; cases h
    | ok y =>
      rw [hp] at h
      dsimp only at h
      cases hr : recsE es with
      | error x => rw [hr] at h; cases h
      | ok m =>
        rw [hr] at h
        cases h
        have ih := recsE_sum hr
        obtain ⟨k, t, i, _, _, _, hM, hl, h6, _⟩ := putE_ok hp
        obtain ⟨_, ⟨_, t2⟩, ⟨_, i2⟩, _⟩ := hM
        have n1 := numB_six t (by omega)
        have n2 := numB_six i (by omega)
        have n3 := numB_six e.2.2.2.length (by omega)
        unfold sumN at ih ⊢
        rw [List.map_cons, List.sum_cons, List.length_append, recB_length, h6]
        unfold entryB
        simp only [List.length_cons, List.length_append]
        omega
end Go.Proofs.YtijcpmbfhfppmaaGreatDoor
end
/- Logs, plainly: entries that stand one behind the other. -/
section
namespace Go.Proofs.YtijcpmbfhfppmaaGreatDoor
open Go.ChangeShapes Go.WideShapes Go.ChangeAt Go.RowKit
set_option linter.unusedVariables false

theorem toN_toI (e : EntN) : toN (toI e) = e := by
  obtain ⟨a, b, c, d⟩ := e
  simp [toN, toI]
theorem addAll_end : ∀ (es : List EntN) (c : Wc), (∀ j (hj : j < es.length), es[j].2.2.1 = c.bi + 1 + c.es.length + j) → addAll c (es.map toI) = { c with es := c.es ++ es }
  | [], c, _ => by simp [addAll]
  | e :: r, c, hi => by
    have h0 := hi 0 (by simp)
    simp only [List.getElem_cons_zero] at h0
    have ha : addW c (toN (toI e)) = { c with es := c.es ++ [e] } := by
      rw [toN_toI]
      unfold addW
      rw [List.take_of_length_le (by omega)]
    show addAll (addW c (toN (toI e))) (r.map toI) = _
    rw [ha, addAll_end r _ (fun j hj => ?_)]
    · simp
    · have := hi (j + 1) (by simpa using hj)
      simp only [List.getElem_cons_succ] at this
      rw [this, List.length_append]
      simp only [List.length_singleton]
      omega
theorem addAll_seq {c : Wc} {es : List EntN} {k : Nat} (hk : k ≤ c.es.length) (hi : ∀ j (hj : j < es.length), es[j].2.2.1 = c.bi + 1 + k + j) (h0 : es ≠ []) : addAll c (es.map toI) = { c with es := c.es.take k ++ es } := by
  cases es with
  | nil => exact absurd rfl h0
  | cons e r =>
    have h1 := hi 0 (by simp)
    simp only [List.getElem_cons_zero] at h1
    have ha : addW c (toN (toI e)) = { c with es := c.es.take k ++ [e] } := by
      rw [toN_toI]
      unfold addW
      rw [show e.2.2.1 - c.bi - 1 = k by omega]
    show addAll (addW c (toN (toI e))) (r.map toI) = _
    rw [ha, addAll_end r _ (fun j hj => ?_)]
    · simp
    · have := hi (j + 1) (by simpa using hj)
      simp only [List.getElem_cons_succ] at this
      rw [this, List.length_append, List.length_take]
      simp only [List.length_singleton]
      omega
theorem chain_seq : ∀ (es : List EntN) (i : Nat), (∀ j (hj : j < es.length), es[j].2.2.1 = i + 1 + j) → chainI (i : Int) (es.map toI) = true
  | [], _, _ => rfl
  | e :: r, i, hi => by
    have h0 := hi 0 (by simp)
    simp only [List.getElem_cons_zero] at h0
    rw [List.map_cons, chainI_cons]
    have h1 : (toI e).2.2.1 = ((i + 1 : Nat) : Int) := by show (e.2.2.1 : Int) = _; omega
    rw [h1, chain_seq r (i + 1) (fun j hj => by
      have := hi (j + 1) (by simpa using hj)
      simp only [List.getElem_cons_succ] at this
      omega)]
    simp
theorem fitAll_seq {c : Wc} {es : List EntN} {k : Nat} (hk : k ≤ c.es.length) (hi : ∀ j (hj : j < es.length), es[j].2.2.1 = c.bi + 1 + k + j) : fitAllW c (es.map toI) = true := by
  cases es with
  | nil => rfl
  | cons e r =>
    have h1 := hi 0 (by simp)
    simp only [List.getElem_cons_zero] at h1
    rw [List.map_cons, fitAllW_cons]
    have h2 : (toI e).2.2.1 = (e.2.2.1 : Int) := rfl
    rw [h2, fitsW_at (by omega) (by omega), chain_seq r e.2.2.1 (fun j hj => by
      have := hi (j + 1) (by simpa using hj)
      simp only [List.getElem_cons_succ] at this
      omega)]
    rfl
/-- Entries one behind the other are added where there is room. -/
theorem LS.seq {room n : Nat} {ss : Ds} {c : Wc} {r1 r2 : List (List Nat)} (h : LS room ss c n r1 r2) {es : List EntN} {k : Nat} (hk : k ≤ c.es.length) (hi : ∀ j (hj : j < es.length), es[j].2.2.1 = c.bi + 1 + k + j) (h0 : es ≠ []) (ho : ∀ e ∈ es, EOk e)
    (hs : (cat (r1 ++ r2)).length + 2 * sumN (es.map toI) ≤ min room 262144) : ∃ ss', wAppend room n c (es.map toI) ss = (0, ss', { c with es := c.es.take k ++ es }, n) ∧ LS room ss' { c with es := c.es.take k ++ es } n r1 (r2 ++ es.map recE) ∧ (cat (r1 ++ (r2 ++ es.map recE))).length ≤ (cat (r1 ++ r2)).length + 2 * sumN (es.map toI) := by
  have hr := recsE_yes es ho
  have hl := recsE_sum hr
  rcases h.append_ok hr (fitAll_seq hk hi) (by omega) with ⟨q, _, _⟩ | ⟨ss', q1, q2⟩
  · omega
  · have hm : (es.map toI).map (fun e => recE (toN e)) = es.map recE := by
      rw [List.map_map]
      refine List.map_congr_left fun e _ => ?_
      show recE (toN (toI e)) = recE e
      rw [toN_toI]
    rw [addAll_seq hk hi h0] at q1 q2
    rw [hm] at q2
    refine ⟨ss', q1, q2, ?_⟩
    have hc := recsE_cat hr
    rw [hm] at hc
    rw [← List.append_assoc, cat_app, List.length_append, ← hc]
    omega
/-- Entries without data, of these terms, behind an index. -/
def nops (k : Nat) (us : List Nat) : List EntN := us.mapIdx fun j t => (1, t, k + j + 1, [])
def cW (ts : List Nat) : Wc := ⟨0, 0, 0, 0, nops 0 ts⟩
theorem nops_len (k : Nat) (us : List Nat) : (nops k us).length = us.length := by simp [nops]
theorem nops_at (k : Nat) (us : List Nat) (j : Nat) (hj : j < (nops k us).length) : (nops k us)[j] = (1, us[j]'(by rw [nops_len] at hj; exact hj), k + j + 1, []) := by simp [nops]
theorem nops_sum (k : Nat) (us : List Nat) : sumN ((nops k us).map toI) = 20 * us.length := by
  have : ((nops k us).map toI).map (fun e => 20 + min e.2.2.2.length 6000) = List.replicate us.length 20 := by
    apply List.ext_getElem
    · simp [nops_len]
    · intro i h1 h2
      simp [nops, toI]
  unfold sumN
  rw [this]
  simp [Nat.mul_comm]
theorem cW_put (ts us : List Nat) (k : Nat) (hk : k ≤ ts.length) : (cW ts).es.take k ++ nops k us = (cW (ts.take k ++ us)).es := by
  apply List.ext_getElem
  · simp [cW, nops]
  · intro i h1 h2
    by_cases hi : i < k
    · rw [List.getElem_append_left (by simp [cW, nops]; omega)]
      simp [cW, nops, hi, List.length_take, Nat.min_eq_left hk]
    · rw [List.getElem_append_right (by simp [cW, nops]; omega)]
      simp [cW, nops, List.getElem_append, hi, List.length_take, Nat.min_eq_left hk]
      omega
theorem nops_ok {k : Nat} {us : List Nat} (hu : ∀ u ∈ us, 1 ≤ u ∧ u ≤ 256) (hk : k + us.length ≤ 1000) : ∀ e ∈ nops k us, EOk e := by
  intro e he
  obtain ⟨j, hj, rfl⟩ := List.getElem_of_mem he
  have hj' : j < us.length := by rw [nops_len] at hj; exact hj
  rw [nops_at]
  have := hu us[j] (List.getElem_mem _)
  refine ⟨⟨by simp, by simp⟩, ⟨by simp only; omega, by simp only; omega⟩, ⟨by simp only; omega, by simp only; omega⟩, fun _ => rfl, by simp⟩
theorem ow_step {room : Nat} {ss : Ds} {ts us : List Nat} {r1 r2 : List (List Nat)} (h : LS room ss (cW ts) 1 r1 r2) {k : Nat} (hk : k ≤ ts.length) (h0 : us ≠ []) (hu : ∀ u ∈ us, 1 ≤ u ∧ u ≤ 256) (hl : k + us.length ≤ 1000) (hs : (cat (r1 ++ r2)).length + 40 * us.length ≤ min room 262144) :
    ∃ ss', wAppend room 1 (cW ts) ((nops k us).map toI) ss = (0, ss', cW (ts.take k ++ us), 1) ∧ ∃ r2', LS room ss' (cW (ts.take k ++ us)) 1 r1 r2' ∧ (cat (r1 ++ r2')).length ≤ (cat (r1 ++ r2)).length + 40 * us.length := by
  have hsm := nops_sum k us
  obtain ⟨ss', q1, q2, q3⟩ := h.seq (es := nops k us) (k := k) (by simp [cW, nops]; exact hk) (fun j hj => by rw [nops_at]; simp only [cW]; omega) (fun e => h0 (List.eq_nil_of_length_eq_zero (by rw [← nops_len k us, e]; rfl))) (nops_ok hu hl) (by omega)
  have he : ({ cW ts with es := (cW ts).es.take k ++ nops k us } : Wc) = cW (ts.take k ++ us) := by rw [cW_put ts us k hk]; rfl
  rw [he] at q1 q2
  exact ⟨ss', q1, _, q2, by omega⟩
end Go.Proofs.YtijcpmbfhfppmaaGreatDoor
end
/- Logs: Entries. -/
section
namespace Go.Proofs.YtijcpmbfhfppmaaGreatDoor
open Go.ChangeShapes Go.WideShapes Go.ChangeAt Go.RowKit
set_option linter.unusedVariables false

theorem wpList_appendL {w : World} {ops : Array Oper} {rest : List Oper} {o : Oper} {a : Act} {Q : Exit → Act → World → Prop} (hgd : o.guard = none) (s x : Operand)
    (ho : o.op = .call { callee := .builtin .append, args := #[s, x], argTypes := #[27, 27] })
    (base : Nat) (sp : Option Addr) (n c : Nat) (es : List EntN) (hs : List (Option Addr × Nat)) (hsv : a.eval s = .slice sp n c) (hn : es.length = n) (hown : OwnL base w sp c es hs) (B : Nat) (e : EntN) (h : Option Addr × Nat) (hx : a.eval x = .slice (some ⟨B, 0, none⟩) 1 1)
    (hB : w.heap[B]? = some (.cells (entRow e h).toArray 60 (0, 0))) (hd : Bx base w h.1 h.2 e.2.2.2) (hlen : es.length ≤ 1048576) (hbase : base ≤ w.heap.size)
    (hk : ∀ sp' c' w', OwnL base w' sp' c' (es ++ [e]) (hs ++ [h]) → w.grownBy w' (blk sp) → wpList Tryz.prog ops Q rest (a.put o.dst (.slice sp' (n + 1) c')) w') :
    wpList Tryz.prog ops Q (o :: rest) a w := by
  subst hn
  refine wpList_plain hgd fun K hK => ?_
  obtain ⟨sp', c', w', hrun, h1, h2, _⟩ := run_appendL (w := w) hown B e h hB hd hlen hbase o.type
  unfold Oper.wp
  simp [execOp, ho, resolve, invoke, builtin, hsv, hx, hrun, Result.andThen]
  exact hK _ _ (hk sp' c' w' h1 h2)
/-- The entries from an index to another one. -/
def fromTo (es : List EntN) (i j : Int) : List EntN := es.filter fun e => decide (i ≤ (e.2.2.1 : Int)) && decide ((e.2.2.1 : Int) ≤ j)
/-- How Entries ends. -/
def EntsEnd (w : World) (l : List EntN) (e : Ending) (w' : World) : Prop := ∃ sp m k hs2, e = .returned (.slice sp m k) ∧ l.length = m ∧ OwnL w.heap.size w' sp k l hs2 ∧ Below w.heap.size w w'
section
variable {Av : Nat → Prop} {base : Nat} {w w' : World} {L d M room N N' : Nat} {ss ss' : Ds} {c : Wc} {n : Nat} {ep : Option Addr} {ec : Nat} {hs : List (Option Addr × Nat)}
theorem fromTo_yes (es : List EntN) (i j : Int) (k : Nat) (hk : k < es.length) (h1 : i ≤ (es[k].2.2.1 : Int)) (h2 : (es[k].2.2.1 : Int) ≤ j) : fromTo (es.take (k + 1)) i j = fromTo (es.take k) i j ++ [es[k]] := by
  unfold fromTo
  rw [List.take_succ_eq_append_getElem hk, List.filter_append]
  simp [h1, h2]
theorem fromTo_no (es : List EntN) (i j : Int) (k : Nat) (hk : k < es.length) (h : ¬ (i ≤ (es[k].2.2.1 : Int) ∧ (es[k].2.2.1 : Int) ≤ j)) : fromTo (es.take (k + 1)) i j = fromTo (es.take k) i j := by
  unfold fromTo
  rw [List.take_succ_eq_append_getElem hk, List.filter_append]
  have : (decide (i ≤ (es[k].2.2.1 : Int)) && decide ((es[k].2.2.1 : Int) ≤ j)) = false := by
    rw [Bool.and_eq_false_iff]
    by_cases h1 : i ≤ (es[k].2.2.1 : Int)
    · exact .inr (decide_eq_false (fun h2 => h ⟨h1, h2⟩))
    · exact .inl (decide_eq_false h1)
  simp [this]
theorem fromTo_len (es : List EntN) (i j : Int) : (fromTo es i j).length ≤ es.length := List.length_filter_le _ _
set_option maxRecDepth 20000 in
set_option maxHeartbeats 16000000 in
theorem entries_calls (z : WAt Av base w L d M room N ss c n ep ec hs) (i j : Int) :
    Calls Tryz.prog 22 #[.pointer (some ⟨L, 0, none⟩), .int .i64 i, .int .i64 j] w (EntsEnd w (fromTo c.es i j)) := by
  have EA := hide z.ow.ents
  have EK := hide z.ok.es
  have hle := z.le
  have l5 : w.cell? ⟨L, 5, none⟩ = some (.slice ep c.es.length ec) := box_cell z.lg.row 5 _ rfl
  clear z
  generalize c.es = es at *
  generalize hmm : es.length = m at *
  have HM := hide hmm
  clear hmm
  go_enter Tryz.func22, Tryz.ntmps22
  go_wp2_with fail
  go_loopw [7, 18] (fun v q wr => ∃ (y : Nat) (sp : Option Addr) (m2 k : Nat) (hs2 : List (Option Addr × Nat)), y ≤ m ∧ q = .int .i64 (y : Int) ∧ v = .slice sp m2 k ∧ Hid ((fromTo (es.take y) i j).length = m2) ∧ Hid (OwnL w.heap.size wr sp k (fromTo (es.take y) i j) hs2) ∧ Hid (Below w.heap.size w wr)) (fun _ q _ => m - (intOf q).toNat)
  case atStart => exact ⟨0, none, 0, 0, [], by omega, rfl, rfl, hide rfl, hide (OwnL.ofNil _ _), hide (Below.refl _ _)⟩
  case round =>
    obtain ⟨y, sp, m2, k, hs2, hy, rfl, rfl, HL, O4, B4⟩ := hrel
    by_cases hym : y < m
    · have y0 : (0 : Int) ≤ (y : Int) := by omega
      have y1 : (y : Int) < (m : Int) := by omega
      have hyl : y < es.length := by rw [unhide HM]; exact hym
      obtain ⟨b', off, dp, dc, rfl, p0, p1, p2, p3, q4, nz⟩ := ((unhide EA).later (unhide B4)).cell y (by rw [List.length_map]; exact hyl)
      rw [List.getElem_map] at p0 p1 p2 p3 q4
      have EO := unhide EK es[y] (List.getElem_mem hyl)
      have FY := fromTo_yes es i j y hyl
      have FN := fromTo_no es i j y hyl
      obtain ⟨x, hx⟩ : ∃ x, es[y] = x := ⟨_, rfl⟩
      rw [hx] at p0 p1 p2 p3 q4 EO FY FN
      obtain ⟨xk, xt, xi, xd⟩ := x
      simp only [toI] at p0 p1 p2 p3 q4
      have hxd : xd.length ≤ 2048 := EO.2.2.2.2
      have v1 : Below wr.heap.size wr (wr.alloc (entB (xk : Int) (xt : Int) (xi : Int) dp xd.length dc)) := (Below.refl _ _).alloc (Nat.le_refl _) _
      have X1 := hide (heap_new wr (entB (xk : Int) (xt : Int) (xi : Int) dp xd.length dc))
      obtain ⟨e0, e1, e2, e3⟩ := entB_cells (unhide X1)
      have SZ1 := hide (show (wr.alloc (entB (xk : Int) (xt : Int) (xi : Int) dp xd.length dc)).heap.size = wr.heap.size + 1 by simp)
      have B1 := hide v1
      have M2 := hide (show m2 ≤ 1000000 by
        have h1 := fromTo_len (es.take y) i j
        rw [unhide HL, List.length_take] at h1
        omega)
      dsimp only at FY FN
      by_cases hin : i ≤ (xi : Int) ∧ (xi : Int) ≤ j
      · obtain ⟨h1, h2⟩ := hin
        have FE := hide (FY h1 h2)
        have CL := hide (clone_calls dp xd.length dc xd (wr.alloc (entB (xk : Int) (xt : Int) (xi : Int) dp xd.length dc)) rfl (by omega) (q4.later v1) nz)
        clear FY FN v1 q4 nz hx EO
        go_wp2_with fail
        clear e0 e1 e2 e3 p0 p1 p2 p3
        generalize wr.alloc _ = W1 at *
        go_at_call 60
        refine (unhide CL).mono ?_
        rintro e V4 ⟨sp4, c4, rfl, o4, v4⟩
        have X2 := hide (later_block v4 (unhide X1))
        obtain ⟨e0, e1, e2, e3⟩ := entB_cells (unhide X2)
        have f3 := froz_of (unhide X2) 3
        have U4 := hide ((unhide B1).trans (v4.mono (unhide B1).size))
        have X5 := hide (heap_setCell_same V4 wr.heap.size 3 _ _ (.slice sp4 xd.length c4) (unhide X2))
        have G5 := hide (grown_set V4 wr.heap.size 3 (.slice sp4 xd.length c4))
        have U5 := hide ((unhide U4).grown (unhide G5) (unhide U4).size (fun g e => by have := Option.some.inj e; omega))
        have O5 := hide (o4.far (unhide G5) (by rw [unhide SZ1]; omega))
        have d0 : (V4.setCell ⟨wr.heap.size, 3, none⟩ (.slice sp4 xd.length c4)).cell? ⟨wr.heap.size, 0, none⟩ = some (.int .i64 (xk : Int)) := box_cell (unhide X5) 0 _ rfl
        have d1 : (V4.setCell ⟨wr.heap.size, 3, none⟩ (.slice sp4 xd.length c4)).cell? ⟨wr.heap.size, 1, none⟩ = some (.int .i64 (xt : Int)) := box_cell (unhide X5) 1 _ rfl
        have d2 : (V4.setCell ⟨wr.heap.size, 3, none⟩ (.slice sp4 xd.length c4)).cell? ⟨wr.heap.size, 2, none⟩ = some (.int .i64 (xi : Int)) := box_cell (unhide X5) 2 _ rfl
        have d3 : (V4.setCell ⟨wr.heap.size, 3, none⟩ (.slice sp4 xd.length c4)).cell? ⟨wr.heap.size, 3, none⟩ = some (.slice sp4 xd.length c4) := box_cell (unhide X5) 3 _ rfl
        clear o4 v4 CL
        have SS5 := hide (show (V4.setCell ⟨wr.heap.size, 3, none⟩ (.slice sp4 xd.length c4)).heap.size = V4.heap.size by simp [World.setCell])
        have X6 := hide (heap_new (V4.setCell ⟨wr.heap.size, 3, none⟩ (.slice sp4 xd.length c4)) (.cells #[.int .i64 (xk : Int), .int .i64 (xt : Int), .int .i64 (xi : Int), .slice sp4 xd.length c4] 60))
        have U6 := hide (show Below (V4.setCell ⟨wr.heap.size, 3, none⟩ (.slice sp4 xd.length c4)).heap.size (V4.setCell ⟨wr.heap.size, 3, none⟩ (.slice sp4 xd.length c4)) ((V4.setCell ⟨wr.heap.size, 3, none⟩ (.slice sp4 xd.length c4)).alloc (.cells #[.int .i64 (xk : Int), .int .i64 (xt : Int), .int .i64 (xi : Int), .slice sp4 xd.length c4] 60)) from (Below.refl _ _).alloc (Nat.le_refl _) _)
        rw [unhide SS5] at X6
        have B6 := hide ((unhide U5).trans ((unhide U6).mono (unhide U5).size))
        have O6 := hide ((unhide O4).later (unhide B6))
        have DX := hide (((unhide O5).mono (show w.heap.size ≤ W1.heap.size by rw [unhide SZ1]; have := (unhide B4).size; omega)).later (unhide U6)).toBx
        have B7 := hide ((unhide B4).trans ((unhide B6).mono (unhide B4).size))
        have FT := hide (show ∀ g, blk sp = some g → w.heap.size ≤ g from fun g hg => ((unhide O4).foot g (.inl hg)).1)
        go_wp2_with (at_builtin; refine unhide ?_)
        clear d0 d1 d2 d3 e0 e1 e2 e3 f3
        generalize (V4.setCell _ _).alloc _ = W6 at *
        refine hide ?_
        refine wpList_appendL rfl (.tmp 36) (.tmp 38) rfl w.heap.size sp m2 k (fromTo (es.take y) i j) hs2 rfl (unhide HL) (unhide O6) V4.heap.size (xk, xt, xi, xd) (sp4, c4) rfl (unhide X6) (unhide DX) (by rw [unhide HL]; have := unhide M2; omega) (unhide B7).size ?_
        intro sp7 c7 W7 ho7 hg7
        have O8 := hide ho7
        have B8 := hide ((unhide B7).grown hg7 (unhide B7).size (unhide FT))
        have L8 := hide (show (fromTo (es.take y) i j ++ [(xk, xt, xi, xd)]).length = m2 + 1 by rw [List.length_append, unhide HL]; rfl)
        clear ho7 hg7
        go_wp2
        exact ⟨⟨y + 1, sp7, m2 + 1, c7, hs2 ++ [(sp4, c4)], by omega, by go_num, rfl, by rw [unhide FE]; exact L8, by rw [unhide FE]; exact O8, B8⟩, by simp [intOf]; omega⟩
      · have FE := hide (FN hin)
        have O5 := hide ((unhide O4).later v1)
        have B5 := hide ((unhide B4).trans (v1.mono (unhide B4).size))
        clear FY FN v1 q4 nz hx EO
        by_cases h1 : i ≤ (xi : Int)
        · have h2 : ¬ (xi : Int) ≤ j := fun h => hin ⟨h1, h⟩
          clear hin
          go_wp2
          exact ⟨⟨y + 1, sp, m2, k, hs2, by omega, by go_num, rfl, by rw [unhide FE]; exact HL, by rw [unhide FE]; exact O5, B5⟩, by simp [intOf]; omega⟩
        · clear hin
          go_wp2
          exact ⟨⟨y + 1, sp, m2, k, hs2, by omega, by go_num, rfl, by rw [unhide FE]; exact HL, by rw [unhide FE]; exact O5, B5⟩, by simp [intOf]; omega⟩
    · have hjj : ¬ (y : Int) < (m : Int) := by omega
      obtain rfl : y = m := by omega
      have FE := hide (show (fromTo es i j).length = m2 ∧ OwnL w.heap.size wr sp k (fromTo es i j) hs2 by
        have h1 := unhide HL
        have h2 := unhide O4
        rw [List.take_of_length_le (by rw [unhide HM]; exact Nat.le_refl _)] at h1 h2
        exact ⟨h1, h2⟩)
      go_wp2
      go_ret
      exact ⟨sp, m2, k, hs2, rfl, (unhide FE).1, (unhide FE).2, unhide B4⟩
end
end Go.Proofs.YtijcpmbfhfppmaaGreatDoor
end
/- Logs: blocks that lie aside may be written while a log stays; entries told by their indices. -/
section
namespace Go.Proofs.YtijcpmbfhfppmaaGreatDoor
open Go.ChangeShapes Go.WideShapes Go.ChangeAt Go.RowKit
set_option linter.unusedVariables false
section
variable {Av : Nat → Prop} {base : Nat} {w w' : World} {L d M room N N' : Nat} {ss ss' : Ds} {c : Wc} {n : Nat} {ep : Option Addr} {ec : Nat} {hs : List (Option Addr × Nat)}
theorem WAt.grow (z : WAt Av base w L d M room N ss c n ep ec hs) (h1 : ∀ g, g < w.heap.size → ¬ Av g → w'.heap[g]? = w.heap[g]?) (hb : Below base w w') : WAt (fun g => Av g ∨ (w.heap.size ≤ g ∧ g < w'.heap.size)) base w' L d M room N ss c n ep ec hs := by
  have hL : w'.heap[L]? = w.heap[L]? := h1 L z.ltL (fun ha => (z.av L ha).1 rfl)
  refine ⟨(z.dk.grow (fun g hg hn => h1 g hg (fun ha => hn (.inl ha))) hb.size).av (fun g hg => ?_), z.lg.same hL, z.ow.same (fun g hg => h1 g (z.ow.foot g hg).2.1 (fun ha => (z.av g ha).2 hg)), z.bl, fun g hg => ?_, z.ok, z.nn, z.le, let ⟨w0, q1, q2, q3⟩ := z.tz; ⟨w0, q1, q2, q3.trans hb⟩⟩
  · rcases hg with (hg | hg) | hg | hg
    · exact .inl (.inl hg)
    · exact .inr hg
    · exact .inl (.inr (.inl hg))
    · exact .inl (.inr (.inr hg))
  · rcases hg with hg | hg
    · exact z.av g hg
    · refine ⟨fun e => ?_, fun hf => ?_⟩
      · have := z.ltL; omega
      · have := (z.ow.foot g hf).2.1; omega
theorem OwnI.asd {sp : Option Addr} {k : Nat} {l : List Int} (h : OwnI base w sp k l) (ha : Asd Av base w w') (hp : ∀ g, blk sp = some g → Av g) : OwnI base w' sp k l := by
  refine ⟨⟨h.owns.1, ?_⟩, h.bd⟩
  rcases h.owns.2 with hv | ⟨g, cap, cur, hv, hbg, hgg, r⟩
  · exact .inl hv
  · refine .inr ⟨g, cap, cur, hv, hbg, (ha.av g (hp g ?_)).trans hgg, r⟩
    simp only [Value.slice.injEq] at hv
    rw [hv.1]
    rfl
theorem OwnL.asd {sp : Option Addr} {k : Nat} {es : List EntN} {hs2 : List (Option Addr × Nat)} {b2 : Nat} (h : OwnL b2 w sp k es hs2) (ha : Asd Av base w w') (hp : ∀ g, LFoot sp hs2 g → Av g) : OwnL b2 w' sp k es hs2 := h.same (fun g hg => ha.av g (hp g hg))
/-- A log's own entries, as an argument. -/
theorem OwnL.in_ {P : Nat → Prop} {sp : Option Addr} {k : Nat} {es : List EntN} {hs2 : List (Option Addr × Nat)} {b2 : Nat} (h : OwnL b2 w sp k es hs2) (hp : ∀ g, LFoot sp hs2 g → P g) : EntsIn P w sp (es.map toI) := by
  refine ⟨h.ents, fun b off e h0 => hp b (.inl (by rw [e]; rfl)), fun i hi b off dp dc m e hc g o e1 h0 => ?_⟩
  have hi' : i < es.length := by simpa using hi
  have hh : i < hs2.length := by rw [h.len]; exact hi'
  rcases h.row.2 with ⟨hv, h1⟩ | ⟨g', cap, cur, hv, hb, hg, hle, hmx, hsz, ht⟩
  · omega
  · simp only [Value.slice.injEq] at hv
    obtain ⟨rfl, _, rfl⟩ := hv
    simp only [Option.some.injEq, Addr.mk.injEq, and_true] at e
    obtain ⟨rfl, rfl⟩ := e
    have hk := rowsV_get es hs2 i 3 hi' hh (by omega)
    rw [Nat.zero_add, cell_of_row w g' _ cur _ _ hg, ← Array.getElem?_toList] at hc
    have hj : i * 4 + 3 < es.length * 4 := by omega
    rw [← ht, List.getElem?_take, if_pos hj, hc] at hk
    have hk2 : (entRow es[i] hs2[i])[3]? = some (.slice hs2[i].1 es[i].2.2.2.length hs2[i].2) := rfl
    rw [hk2] at hk
    simp only [Option.some.injEq, Value.slice.injEq] at hk
    refine hp g (.inr ⟨hs2[i], List.getElem_mem hh, ?_⟩)
    rw [← hk.1, e1]
    rfl
theorem fromTo_all {c : Wc} (hi : Ix c) {i j : Int} (h1 : i ≤ (c.bi : Int) + 1) (h2 : ((c.bi + c.es.length : Nat) : Int) ≤ j) : fromTo c.es i j = c.es := by
  unfold fromTo
  refine List.filter_eq_self.2 fun e he => ?_
  obtain ⟨k, hk, rfl⟩ := List.getElem_of_mem he
  have := hi k hk
  rw [Bool.and_eq_true, decide_eq_true_eq, decide_eq_true_eq]
  omega
end
end Go.Proofs.YtijcpmbfhfppmaaGreatDoor
end
