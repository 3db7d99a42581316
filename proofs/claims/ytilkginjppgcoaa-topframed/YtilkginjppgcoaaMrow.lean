/- Messages that came in, a list of them; a row of messages of the call's own. -/
import Derived.Test.YtilkginjppgcoaaMarg
import Derived.Test.YtilkginjppgcoaaPutg
namespace Go.Proofs.Ytilkginjppgcoaa
open Go.ChangeShapes Go.WideShapes Go.ChangeAt Go.RowKit

/-- A message as it lies in memory. -/
structure MI where
  kd : Int
  fr : Int
  to : Int
  t : Int
  ix : Int
  lt : Int
  cm : Int
  hi : Int
  ro : Int
  bo : Bool
  ep : Option Addr
  ec : Nat
  es : List EntI
  dp : Option Addr
  dc : Nat
  dl : List Nat
instance : Inhabited MI := ⟨⟨0, 0, 0, 0, 0, 0, 0, 0, 0, false, none, 0, [], none, 0, []⟩⟩
abbrev miV (m : MI) : List Value := [.int .i64 m.kd, .int .i64 m.fr, .int .i64 m.to, .int .i64 m.t, .int .i64 m.ix, .int .i64 m.lt, .int .i64 m.cm, .int .i64 m.hi, .int .i64 m.ro, .bool m.bo, .slice m.ep m.es.length m.ec, .slice m.dp m.dl.length m.dc]
/-- What a message refers to. -/
structure MiAt (w : World) (m : MI) : Prop where
  len : m.es.length ≤ maxLen
  ents : EntsAt w m.ep m.es
  cap : m.dl.length ≤ m.dc
  max : m.dc ≤ maxLen
  bytes : BytesAt w m.dp m.dl
  nil : m.dp = none → m.dc = 0
theorem MiAt.later {w w' : World} {m : MI} (h : MiAt w m) (hb : Below w.heap.size w w') : MiAt w' m := ⟨h.len, h.ents.later hb, h.cap, h.max, h.bytes.later hb, h.nil⟩
structure MsgsAt (w : World) (a : Option Addr) (ms : List MI) : Prop where
  cell : ∀ i (hi : i < ms.length), (∃ b off, a = some ⟨b, off, none⟩ ∧ ∀ f, f < 12 → w.cell? ⟨b, off + i * 12 + f, none⟩ = (miV ms[i])[f]?) ∧ MiAt w ms[i]
theorem cells12 {w : World} {a : Addr} {cs : List Value} (h : w.cells? 0 a 12 = some cs) : ∃ v0 v1 v2 v3 v4 v5 v6 v7 v8 v9 v10 v11, cs = [v0, v1, v2, v3, v4, v5, v6, v7, v8, v9, v10, v11] ∧ w.cell? (a.add 0) = some v0 ∧ w.cell? (a.add 1) = some v1 ∧ w.cell? (a.add 2) = some v2 ∧ w.cell? (a.add 3) = some v3 ∧ w.cell? (a.add 4) = some v4 ∧ w.cell? (a.add 5) = some v5 ∧ w.cell? (a.add 6) = some v6 ∧ w.cell? (a.add 7) = some v7 ∧ w.cell? (a.add 8) = some v8 ∧ w.cell? (a.add 9) = some v9 ∧ w.cell? (a.add 10) = some v10 ∧ w.cell? (a.add 11) = some v11 := by
  unfold World.cells? at h
  rw [if_pos (Nat.zero_le _)] at h
  simp only [show List.range 12 = [0, 1, 2, 3, 4, 5, 6, 7, 8, 9, 10, 11] from rfl, List.mapM_cons, List.mapM_nil, Option.bind_eq_bind, Option.bind_eq_some_iff, Option.pure_def, Option.some.injEq] at h
  obtain ⟨v0, h0, r, ⟨v1, h1, r1, ⟨v2, h2, r2, ⟨v3, h3, r3, ⟨v4, h4, r4, ⟨v5, h5, r5, ⟨v6, h6, r6, ⟨v7, h7, r7, ⟨v8, h8, r8, ⟨v9, h9, r9, ⟨v10, h10, r10, ⟨v11, h11, r11, rfl, rfl⟩, rfl⟩, rfl⟩, rfl⟩, rfl⟩, rfl⟩, rfl⟩, rfl⟩, rfl⟩, rfl⟩, rfl⟩, rfl⟩ := h
  exact ⟨v0, v1, v2, v3, v4, v5, v6, v7, v8, v9, v10, v11, rfl, h0, h1, h2, h3, h4, h5, h6, h7, h8, h9, h10, h11⟩
theorem msg_cells {H : Type} {enc : TypeId × Value → H} {W : World} {v0 v1 v2 v3 v4 v5 v6 v7 v8 v9 v10 v11 : Value} {x : DataW H × List MemPlace} {fuel : Nat} (hf : DataW.trod enc Try.prog W 0 (fun _ => true) true fuel 26 [v0, v1, v2, v3, v4, v5, v6, v7, v8, v9, v10, v11] = some x) :
    ∃ m : MI, [v0, v1, v2, v3, v4, v5, v6, v7, v8, v9, v10, v11] = miV m ∧ MiAt W m := by
  obtain ⟨xs, n, _, _, _, hx, hfs⟩ := DataW.trod_struct Try.underlying26 hf
  obtain ⟨y0, y1, y2, y3, y4, y5, y6, y7, y8, y9, y10, y11, rfl⟩ := list12 (show xs.length = 12 from hx)
  obtain ⟨kd, e0, _, _⟩ := DataW.trod_int Try.underlying22 (show DataW.trod enc Try.prog W 0 (fun _ => true) true n 22 [v0] = some y0 from hfs 0 _ rfl)
  obtain ⟨fr, e1, _, _⟩ := DataW.trod_int Try.underlying3 (show DataW.trod enc Try.prog W 0 (fun _ => true) true n 3 [v1] = some y1 from hfs 1 _ rfl)
  obtain ⟨to, e2, _, _⟩ := DataW.trod_int Try.underlying3 (show DataW.trod enc Try.prog W 0 (fun _ => true) true n 3 [v2] = some y2 from hfs 2 _ rfl)
  obtain ⟨t, e3, _, _⟩ := DataW.trod_int Try.underlying3 (show DataW.trod enc Try.prog W 0 (fun _ => true) true n 3 [v3] = some y3 from hfs 3 _ rfl)
  obtain ⟨ix, e4, _, _⟩ := DataW.trod_int Try.underlying3 (show DataW.trod enc Try.prog W 0 (fun _ => true) true n 3 [v4] = some y4 from hfs 4 _ rfl)
  obtain ⟨lt, e5, _, _⟩ := DataW.trod_int Try.underlying3 (show DataW.trod enc Try.prog W 0 (fun _ => true) true n 3 [v5] = some y5 from hfs 5 _ rfl)
  obtain ⟨cm, e6, _, _⟩ := DataW.trod_int Try.underlying3 (show DataW.trod enc Try.prog W 0 (fun _ => true) true n 3 [v6] = some y6 from hfs 6 _ rfl)
  obtain ⟨hi, e7, _, _⟩ := DataW.trod_int Try.underlying3 (show DataW.trod enc Try.prog W 0 (fun _ => true) true n 3 [v7] = some y7 from hfs 7 _ rfl)
  obtain ⟨ro, e8, _, _⟩ := DataW.trod_int Try.underlying3 (show DataW.trod enc Try.prog W 0 (fun _ => true) true n 3 [v8] = some y8 from hfs 8 _ rfl)
  have u9 : DataW.trod enc Try.prog W 0 (fun _ => true) true n 4 [v9] = some y9 := hfs 9 _ rfl
  have u10 : DataW.trod enc Try.prog W 0 (fun _ => true) true n 23 [v10] = some y10 := hfs 10 _ rfl
  have u11 : DataW.trod enc Try.prog W 0 (fun _ => true) true n 24 [v11] = some y11 := hfs 11 _ rfl
  obtain ⟨bo, e9, _⟩ := DataW.trod_bool Try.underlying4 u9
  obtain ⟨ea, el, ec, e10⟩ := Joins.slice_form Try.underlying23 u10
  obtain ⟨da, dl, dc, e11⟩ := Joins.slice_form Try.underlying24 u11
  simp only [List.cons.injEq, and_true] at e0 e1 e2 e3 e4 e5 e6 e7 e8 e9 e10 e11
  subst e0 e1 e2 e3 e4 e5 e6 e7 e8 e9 e10 e11
  obtain ⟨es, rfl, h1, h2, h3⟩ := ents_arg (show DataW.Trod enc Try.prog W 0 (fun _ => true) true 23 (.slice ea el ec) y10.1 y10.2 from ⟨n, u10⟩)
  obtain ⟨bs, rfl, hc, hx', hb, hz, _⟩ := row8 (show DataW.Trod enc Try.prog W 0 (fun _ => true) true 24 (.slice da dl dc) y11.1 y11.2 from ⟨n, u11⟩)
  exact ⟨⟨kd, fr, to, t, ix, lt, cm, hi, ro, bo, ea, ec, es, da, dc, bs⟩, rfl, ⟨h1, h2, hc, hx', hb, hz⟩⟩
theorem msgs_arg {H : Type} {enc : TypeId × Value → H} {W : World} {a : Option Addr} {len cap : Nat} {d : DataW H} {p : List MemPlace}
    (h : DataW.Trod enc Try.prog W 0 (fun _ => true) true 38 (.slice a len cap) d p) :
    ∃ ms : List MI, ms.length = len ∧ len ≤ maxLen ∧ MsgsAt W a ms := by
  obtain ⟨fuel, hf⟩ := h
  have c12 : Try.prog.cellsOf 26 = 12 := by kernel_rfl
  rcases Deep.open_slice Try.underlying38 hf with ⟨hcs, _⟩ | ⟨x, l, c, m, n, D, Pl, hcs, _, hl, hm, hm', _, hel⟩
  · simp [Value.cells] at hcs
    obtain ⟨rfl, rfl, rfl⟩ := hcs
    exact ⟨[], rfl, by simp [maxLen], ⟨by simp⟩⟩
  · simp [Value.cells] at hcs
    obtain ⟨rfl, rfl, rfl⟩ := hcs
    have hmm : m = cap := by simpa using hm'
    rw [c12] at hel
    have hone : ∀ i, i < len → ∃ (e : MI), (∀ f, f < 12 → W.cell? ((x.add (i * 12)).add f) = (miV e)[f]?) ∧ MiAt W e := by
      intro i hi
      obtain ⟨cs', h1, h2⟩ := hel i (by omega)
      obtain ⟨v0, v1, v2, v3, v4, v5, v6, v7, v8, v9, v10, v11, rfl, g0, g1, g2, g3, g4, g5, g6, g7, g8, g9, g10, g11⟩ := cells12 h1
      obtain ⟨e, he, hM⟩ := msg_cells h2
      refine ⟨e, fun f hf => ?_, hM⟩
      rw [← he]
      match f, hf with
      | 0, _ => exact g0
      | 1, _ => exact g1
      | 2, _ => exact g2
      | 3, _ => exact g3
      | 4, _ => exact g4
      | 5, _ => exact g5
      | 6, _ => exact g6
      | 7, _ => exact g7
      | 8, _ => exact g8
      | 9, _ => exact g9
      | 10, _ => exact g10
      | 11, _ => exact g11
    obtain ⟨f, hfp⟩ := Deep.choose_lt (n := len) (p := fun i (e : MI) => (∀ f, f < 12 → W.cell? ((x.add (i * 12)).add f) = (miV e)[f]?) ∧ MiAt W e) (fun i hi => hone i hi)
    refine ⟨(List.range len).map f, by simp, by omega, ⟨fun i hi => ?_⟩⟩
    simp only [List.length_map, List.length_range] at hi
    obtain ⟨h0, h1⟩ := hfp i hi
    have e : ((List.range len).map f)[i]'(by simpa using hi) = f i := by simp
    rw [e]
    obtain ⟨b, off, spot⟩ := x
    have h00 := (hfp 0 (by omega)).1 0 (by omega)
    have hspot : spot = none := by simpa [Addr.add] using World.cell?_spot (show W.cell? _ = some (.int .i64 (f 0).kd) from h00)
    subst hspot
    refine ⟨⟨b, off, rfl, fun q hq => ?_⟩, h1⟩
    have := h0 q hq
    simpa only [Addr.add_lit] using this
theorem MsgsAt.cells {w : World} {a : Option Addr} {ms : List MI} (h : MsgsAt w a ms) (i : Nat) (hi : i < ms.length) : ∃ b off, a = some ⟨b, off, none⟩ ∧ w.cell? ⟨b, off + i * 12, none⟩ = some (.int .i64 (ms[i]).kd) ∧ w.cell? ⟨b, off + i * 12 + 1, none⟩ = some (.int .i64 (ms[i]).fr) ∧ w.cell? ⟨b, off + i * 12 + 2, none⟩ = some (.int .i64 (ms[i]).to) ∧ w.cell? ⟨b, off + i * 12 + 3, none⟩ = some (.int .i64 (ms[i]).t) ∧ w.cell? ⟨b, off + i * 12 + 4, none⟩ = some (.int .i64 (ms[i]).ix) ∧ w.cell? ⟨b, off + i * 12 + 5, none⟩ = some (.int .i64 (ms[i]).lt) ∧ w.cell? ⟨b, off + i * 12 + 6, none⟩ = some (.int .i64 (ms[i]).cm) ∧ w.cell? ⟨b, off + i * 12 + 7, none⟩ = some (.int .i64 (ms[i]).hi) ∧ w.cell? ⟨b, off + i * 12 + 8, none⟩ = some (.int .i64 (ms[i]).ro) ∧ w.cell? ⟨b, off + i * 12 + 9, none⟩ = some (.bool (ms[i]).bo) ∧ w.cell? ⟨b, off + i * 12 + 10, none⟩ = some (.slice (ms[i]).ep (ms[i]).es.length (ms[i]).ec) ∧ w.cell? ⟨b, off + i * 12 + 11, none⟩ = some (.slice (ms[i]).dp (ms[i]).dl.length (ms[i]).dc) := by
  obtain ⟨⟨b, off, rfl, hc⟩, _⟩ := h.cell i hi
  exact ⟨b, off, rfl, hc 0 (by omega), hc 1 (by omega), hc 2 (by omega), hc 3 (by omega), hc 4 (by omega), hc 5 (by omega), hc 6 (by omega), hc 7 (by omega), hc 8 (by omega), hc 9 (by omega), hc 10 (by omega), hc 11 (by omega)⟩
theorem MsgsAt.later {w w' : World} {a : Option Addr} {ms : List MI} (h : MsgsAt w a ms) (hb : Below w.heap.size w w') : MsgsAt w' a ms := by
  refine ⟨fun i hi => ?_⟩
  obtain ⟨⟨b, off, e, hc⟩, hM⟩ := h.cell i hi
  refine ⟨⟨b, off, e, fun f hf => ?_⟩, hM.later hb⟩
  have hlt : f < (miV ms[i]).length := hf
  have := hc f hf
  rw [List.getElem?_eq_getElem hlt] at this ⊢
  exact cell_later hb this
def rowsM (ms : List MI) : List Value := ms.flatMap miV
theorem rowsM_length (ms : List MI) : (rowsM ms).length = ms.length * 12 := by
  induction ms with
  | nil => rfl
  | cons m r ih => simp only [rowsM, List.flatMap_cons, List.length_append, List.length_cons, List.length_nil] at ih ⊢; omega
theorem rowsM_get : ∀ (ms : List MI) (i f : Nat) (hi : i < ms.length) (_ : f < 12), (rowsM ms)[i * 12 + f]? = (miV ms[i])[f]?
  | [], i, _, hi, _ => by simp at hi
  | m :: r, 0, f, _, hf => by
    simp only [rowsM, List.flatMap_cons, Nat.zero_mul, Nat.zero_add, List.getElem_cons_zero]
    rw [List.getElem?_append_left (by simp only [List.length_cons, List.length_nil]; omega)]
  | m :: r, i + 1, f, hi, hf => by
    have ih := rowsM_get r i f (by simpa using hi) hf
    simp only [rowsM, List.flatMap_cons, List.getElem_cons_succ] at ih ⊢
    rw [List.getElem?_append_right (by simp only [List.length_cons, List.length_nil]; omega)]
    have e4 : (i + 1) * 12 + f - (miV m).length = i * 12 + f := by simp only [List.length_cons, List.length_nil]; omega
    rw [e4]
    exact ih
/-- A row of messages of the call's own; what they refer to lies where it lay. -/
structure PutM (base : Nat) (w : World) (sp : Option Addr) (c : Nat) (ms : List MI) : Prop where
  row : w.ownsRow base 26 12 (.slice sp ms.length c) ms.length (rowsM ms)
section
variable {base : Nat} {w w' : World} {sp : Option Addr} {c : Nat} {ms : List MI}
theorem PutM.ofNil (base : Nat) (w : World) : PutM base w none 0 [] := ⟨w.ownsRow_nil base 26 12⟩
theorem PutM.later (h : PutM base w sp c ms) (hb : Below w.heap.size w w') : PutM base w' sp c ms := ⟨ownsRow_later h.row hb⟩
theorem PutM.isMsgs (h : PutM base w sp c ms) : ∀ g, blk sp = some g → base ≤ g ∧ ∃ cur : Array Value, w.heap[g]? = some (.cells cur 26 (0, 0)) := by
  intro g hg
  rcases h.row.2 with ⟨hv, _⟩ | ⟨g1, cap, cur, hv, hb, hh, _⟩
  · simp only [Value.slice.injEq] at hv
    rw [hv.1] at hg
    cases hg
  · simp only [Value.slice.injEq] at hv
    rw [hv.1] at hg
    obtain rfl : g1 = g := by simpa [blk] using hg
    exact ⟨hb, cur, hh⟩
theorem PutM.kept (h : PutM base w sp c ms) {o : Option Nat} (hg : w.grownBy w' o) (hne : ∀ g, blk sp = some g → o ≠ some g) : PutM base w' sp c ms := by
  refine ⟨h.row.1, ?_⟩
  rcases h.row.2 with hv | ⟨g, cap, cur, hv, hbg, hgg, r⟩
  · exact .inl hv
  · refine .inr ⟨g, cap, cur, hv, hbg, (hg.block g (Array.getElem?_eq_some_iff.1 hgg).1 (fun e => ?_)).trans hgg, r⟩
    simp only [Value.slice.injEq] at hv
    exact hne g (by rw [hv.1]; rfl) e.symm
theorem PutM.cells (h : PutM base w sp c ms) (i : Nat) (hi : i < ms.length) : ∃ g, sp = some ⟨g, 0, none⟩ ∧ w.cell? ⟨g, i * 12, none⟩ = some (.int .i64 (ms[i]).kd) ∧ w.cell? ⟨g, i * 12 + 1, none⟩ = some (.int .i64 (ms[i]).fr) ∧ w.cell? ⟨g, i * 12 + 2, none⟩ = some (.int .i64 (ms[i]).to) ∧ w.cell? ⟨g, i * 12 + 3, none⟩ = some (.int .i64 (ms[i]).t) ∧ w.cell? ⟨g, i * 12 + 4, none⟩ = some (.int .i64 (ms[i]).ix) ∧ w.cell? ⟨g, i * 12 + 5, none⟩ = some (.int .i64 (ms[i]).lt) ∧ w.cell? ⟨g, i * 12 + 6, none⟩ = some (.int .i64 (ms[i]).cm) ∧ w.cell? ⟨g, i * 12 + 7, none⟩ = some (.int .i64 (ms[i]).hi) ∧ w.cell? ⟨g, i * 12 + 8, none⟩ = some (.int .i64 (ms[i]).ro) ∧ w.cell? ⟨g, i * 12 + 9, none⟩ = some (.bool (ms[i]).bo) ∧ w.cell? ⟨g, i * 12 + 10, none⟩ = some (.slice (ms[i]).ep (ms[i]).es.length (ms[i]).ec) ∧ w.cell? ⟨g, i * 12 + 11, none⟩ = some (.slice (ms[i]).dp (ms[i]).dl.length (ms[i]).dc) := by
  rcases h.row.2 with ⟨_, h0⟩ | ⟨g, cap, cur, hv, _, hg, _, _, _, ht⟩
  · omega
  · simp only [Value.slice.injEq] at hv
    obtain ⟨rfl, _, _⟩ := hv
    have key : ∀ f, f < 12 → w.cell? ⟨g, i * 12 + f, none⟩ = (miV ms[i])[f]? := by
      intro f hf
      rw [cell_of_row w g _ cur _ _ hg]
      have e := rowsM_get ms i f hi hf
      rw [← ht, List.getElem?_take, if_pos (by omega)] at e
      rw [← Array.getElem?_toList, e]
    exact ⟨g, rfl, key 0 (by omega), key 1 (by omega), key 2 (by omega), key 3 (by omega), key 4 (by omega), key 5 (by omega), key 6 (by omega), key 7 (by omega), key 8 (by omega), key 9 (by omega), key 10 (by omega), key 11 (by omega)⟩
theorem infoM : (Try.prog.info? 26).map (fun i => (i.zero, i.size, i.bytes)) = some (some (.agg #[.int .i64 0, .int .i64 0, .int .i64 0, .int .i64 0, .int .i64 0, .int .i64 0, .int .i64 0, .int .i64 0, .int .i64 0, .bool false, .slice none 0 0, .slice none 0 0]), 12, 128) := by kernel_rfl
theorem wpList_appendM {ops : Array Oper} {rest : List Oper} {o : Oper} {a : Act} {Q : Exit → Act → World → Prop} (hgd : o.guard = none) (s x : Operand)
    (ho : o.op = .call { callee := .builtin .append, args := #[s, x], argTypes := #[38, 38] })
    (n : Nat) (hs : a.eval s = .slice sp n c) (hn : ms.length = n) (hown : PutM base w sp c ms) (B : Nat) (e : MI) (hx : a.eval x = .slice (some ⟨B, 0, none⟩) 1 1)
    (hB : w.heap[B]? = some (.cells (miV e).toArray 26 (0, 0))) (hlen : ms.length ≤ 1048576) (hbase : base ≤ w.heap.size)
    (hk : ∀ sp' c' w', PutM base w' sp' c' (ms ++ [e]) → w.grownBy w' (blk sp) → wpList Try.prog ops Q rest (a.put o.dst (.slice sp' (n + 1) c')) w') :
    wpList Try.prog ops Q (o :: rest) a w := by
  subst hn
  refine wpList_plain hgd fun K hK => ?_
  obtain ⟨i0, hi, hz0, hz1, hz2⟩ := info_parts infoM
  obtain ⟨v', w', hrun, h1, h2, _, _⟩ := run_append_own_at (P := Try.prog) w base 38 o.type 26 i0 _ 12 128 Try.underlying38 hi hz0 hz1 hz2 rfl (by omega) _ _ _ hown.row ⟨B, 0, none⟩ 1 1 (miV e) rfl
    (fun j u hu => by have := World.news_of_block hB j u; simp only at this; exact this hu) (by
      intro u hu
      simp only [List.mem_cons, List.not_mem_nil, or_false] at hu
      rcases hu with rfl | rfl | rfl | rfl | rfl | rfl | rfl | rfl | rfl | rfl | rfl | rfl <;> rfl) (by simp only [maxLen]; omega) (by omega) hbase
  have hv : ∃ sp' c', v' = .slice sp' (ms.length + 1) c' := by
    rcases h1.2 with ⟨hv, h0⟩ | ⟨g, cap, cur, hv, _⟩
    · omega
    · exact ⟨_, _, hv⟩
  obtain ⟨sp', c', rfl⟩ := hv
  rw [ownBlock_slice] at h2
  unfold Oper.wp
  simp [execOp, ho, resolve, invoke, builtin, hs, hx, hrun, Result.andThen]
  refine hK _ _ (hk sp' c' w' ⟨?_⟩ h2)
  rw [List.length_append]
  have e : rowsM (ms ++ [e]) = rowsM ms ++ miV e := by simp [rowsM]
  rw [e]
  exact h1
end
end Go.Proofs.Ytilkginjppgcoaa
