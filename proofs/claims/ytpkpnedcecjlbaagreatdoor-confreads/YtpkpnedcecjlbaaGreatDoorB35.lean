/- Conf: commands as arguments, with what their rows may weigh. -/
import Derived.Test.YtpkpnedcecjlbaaGreatDoorB34
import Derived.Deep.Slices
namespace Go.Proofs.YtpkpnedcecjlbaaGreatDoor
open Go.ChangeShapes Go.WideShapes Go.ChangeAt Go.RowKit
set_option linter.unusedVariables false

theorem weights_allK {H : Type} {P : Program} {e : TypeId} : ∀ {l : List (DataW H)} {d : DataW H} {n : Nat}, d ∈ l → n ∈ d.weights P e → n ∈ DataW.weightsAll P e l
  | [], d, n, h, _ => by cases h
  | x :: r, d, n, h, hn => by
    unfold DataW.weightsAll
    rcases List.mem_cons.1 h with rfl | h
    · exact List.mem_append_left _ hn
    · exact List.mem_append_right _ (weights_allK h hn)
theorem str_le {s : ByteArray} (h : s.data.toList.length ≤ reachBytes) : s.size ≤ 140737488355328 := by
  have hr := reachBytes_lt
  have e0 : s.data.toList.length = s.size := by simp
  omega
set_option maxRecDepth 100000 in
theorem targets_argS {H : Type} {enc : TypeId × Value → H} {W : World} {a : Option Addr} {len cap : Nat} {d : DataW H} {p : List MemPlace}
    (h : DataW.Trod enc Tryz.prog W 0 (fun _ => true) true 23 (.slice a len cap) d p) (hw : ∀ n ∈ d.weights Tryz.prog 23, n ≤ reachBytes) :
    ∃ es : List Tgt, es.length = len ∧ (len ≤ maxLen ∧ len ≤ cap) ∧ TgsAt W a es ∧ ∀ t ∈ es, t.1.size ≤ 140737488355328 := by
  obtain ⟨fuel, hf⟩ := h
  have c6 : Tryz.prog.cellsOf 43 = 2 := by kernel_rfl
  rcases Deep.open_slice Tryz.underlying23 hf with ⟨hcs, _⟩ | ⟨x, l, c, m, n, D, Pl, hcs, _, hl, hm, hm', hd, hel⟩
  · simp [Value.cells] at hcs
    obtain ⟨rfl, rfl, rfl⟩ := hcs
    exact ⟨[], rfl, ⟨by simp [maxLen], Nat.le_refl _⟩, ⟨by simp, by simp⟩, by simp⟩
  · simp [Value.cells] at hcs
    obtain ⟨rfl, rfl, rfl⟩ := hcs
    have hmm : m = cap := by simpa using hm'
    have hdd := (Prod.mk.inj hd).1
    rw [c6] at hel
    have hone : ∀ i, i < len → ∃ (e : Tgt), W.cell? ((x.add (i * 2)).add 0) = some (.string e.1) ∧ W.cell? ((x.add (i * 2)).add 1) = some (.float .f64 e.2) ∧ e.2 < 18446744073709551616 ∧ e.1.size ≤ 140737488355328 := by
      intro i hi
      obtain ⟨cs', h1, h2⟩ := hel i (by omega)
      obtain ⟨v0, v1, rfl, g0, g1⟩ := cells2 h1
      obtain ⟨xs, n', _, ey, _, hx, hfs⟩ := DataW.trod_struct Tryz.underlying43 h2
      obtain ⟨y0, y1, rfl⟩ := list2 (show xs.length = 2 from hx)
      obtain ⟨s, e0, f0, w0⟩ := DataW.trod_string Tryz.underlying9 (show DataW.trod enc Tryz.prog W 0 (fun _ => true) true n' 9 [v0] = some y0 from hfs 0 _ rfl)
      obtain ⟨b, rfl, hb⟩ := trod_float1 (show DataW.trod enc Tryz.prog W 0 (fun _ => true) true n' 39 [v1] = some y1 from hfs 1 _ rfl)
      simp only [List.cons.injEq, and_true] at e0
      subst e0
      have hmem : D i ∈ (List.range len).map D := List.mem_map.2 ⟨i, List.mem_range.2 hi, rfl⟩
      have h4 := hw s.data.toList.length (by
        rw [hdd]
        unfold DataW.weights
        rw [Tryz.underlying23]
        refine List.mem_cons_of_mem _ (List.mem_append_left _ (weights_allK hmem ?_))
        rw [show D i = _ from (Prod.mk.inj ey).1, f0]
        simp [DataW.weights, DataW.weightsEach, Tryz.underlying43])
      exact ⟨(s, b), g0, g1, hb, str_le h4⟩
    obtain ⟨f, hfp⟩ := Deep.choose_lt (n := len) (p := fun i (e : Tgt) => W.cell? ((x.add (i * 2)).add 0) = some (.string e.1) ∧ W.cell? ((x.add (i * 2)).add 1) = some (.float .f64 e.2) ∧ e.2 < 18446744073709551616 ∧ e.1.size ≤ 140737488355328) (fun i hi => hone i hi)
    refine ⟨(List.range len).map f, by simp, ⟨by omega, by omega⟩, ⟨fun t ht => ?_, fun i hi => ?_⟩, fun t ht => ?_⟩
    · obtain ⟨i, hi, rfl⟩ := List.mem_map.1 ht
      exact (hfp i (by simpa using hi)).2.2.1
    · simp only [List.length_map, List.length_range] at hi
      obtain ⟨h0, h1, _⟩ := hfp i hi
      have e : ((List.range len).map f)[i]'(by simpa using hi) = f i := by simp
      rw [e]
      obtain ⟨b, off, spot⟩ := x
      obtain ⟨h00, _⟩ := hfp 0 (by omega)
      have hspot : spot = none := by simpa [Addr.add] using World.cell?_spot h00
      subst hspot
      simp only [Addr.add_lit] at h0 h1
      exact ⟨b, off, rfl, h0, h1⟩
    · obtain ⟨i, hi, rfl⟩ := List.mem_map.1 ht
      exact (hfp i (by simpa using hi)).2.2.2
theorem targets_bytes {H : Type} {enc : TypeId × Value → H} {W : World} {a : Option Addr} {len cap : Nat} {d : DataW H} {p : List MemPlace}
    (h : DataW.Trod enc Tryz.prog W 0 (fun _ => true) true 23 (.slice a len cap) d p) (hw : ∀ n ∈ d.weights Tryz.prog 23, n ≤ reachBytes) : len * 24 ≤ 140737488355328 := by
  obtain ⟨fuel, hf⟩ := h
  have b24 : Tryz.prog.bytesOf 43 = 24 := by kernel_rfl
  rcases Deep.open_slice Tryz.underlying23 hf with ⟨hcs, _⟩ | ⟨x, l, c, m, n, D, Pl, hcs, _, hl, hm, hm', hd, hel⟩
  · simp [Value.cells] at hcs
    obtain ⟨rfl, rfl, rfl⟩ := hcs
    omega
  · simp [Value.cells] at hcs
    obtain ⟨rfl, rfl, rfl⟩ := hcs
    have hdd := (Prod.mk.inj hd).1
    have h4 := hw ((((List.range len).map D).length + ((List.range (m - len)).map fun j => D (len + j)).length) * Tryz.prog.bytesOf 43) (by rw [hdd]; simp [DataW.weights, Tryz.underlying23])
    rw [b24] at h4
    simp only [List.length_map, List.length_range] at h4
    have := reachBytes_lt
    omega
set_option maxRecDepth 20000 in
theorem cmd_openS {H : Type} {enc : TypeId × Value → H} {W : World} {n : Nat} {v0 v1 v2 v3 v4 v5 v6 v7 : Value} {y : DataW H × List MemPlace}
    (h2 : DataW.trod enc Tryz.prog W 0 (fun _ => true) true n 25 [v0, v1, v2, v3, v4, v5, v6, v7] = some y) (hw : ∀ n ∈ y.1.weights Tryz.prog 25, n ≤ reachBytes) :
    ∃ (c : Cmd) (a : Option Addr) (tc : Nat), #[v0, v1, v2, v3, v4, v5, v6, v7] = cmdRow c a tc ∧ CmdAt W c a tc := by
  obtain ⟨xs, n', _, ey, _, hx, hfs⟩ := DataW.trod_struct Tryz.underlying25 h2
  obtain ⟨y0, y1, y2, y3, y4, y5, y6, y7, rfl⟩ := list8l (show xs.length = 8 from hx)
  obtain ⟨k0, e0, d0, w0⟩ := DataW.trod_int Tryz.underlying22 (show DataW.trod enc Tryz.prog W 0 (fun _ => true) true n' 22 [v0] = some y0 from hfs 0 _ rfl)
  obtain ⟨k1, e1, d1, w1⟩ := DataW.trod_int Tryz.underlying3 (show DataW.trod enc Tryz.prog W 0 (fun _ => true) true n' 3 [v1] = some y1 from hfs 1 _ rfl)
  obtain ⟨k2, e2, d2, w2⟩ := DataW.trod_int Tryz.underlying3 (show DataW.trod enc Tryz.prog W 0 (fun _ => true) true n' 3 [v2] = some y2 from hfs 2 _ rfl)
  obtain ⟨k3, e3, d3, w3⟩ := DataW.trod_int Tryz.underlying3 (show DataW.trod enc Tryz.prog W 0 (fun _ => true) true n' 3 [v3] = some y3 from hfs 3 _ rfl)
  obtain ⟨k4, e4, d4, _⟩ := DataW.trod_string Tryz.underlying9 (show DataW.trod enc Tryz.prog W 0 (fun _ => true) true n' 9 [v4] = some y4 from hfs 4 _ rfl)
  obtain ⟨k5, e5, d5, _⟩ := DataW.trod_string Tryz.underlying9 (show DataW.trod enc Tryz.prog W 0 (fun _ => true) true n' 9 [v5] = some y5 from hfs 5 _ rfl)
  obtain ⟨k6, e6, d6, _⟩ := DataW.trod_string Tryz.underlying9 (show DataW.trod enc Tryz.prog W 0 (fun _ => true) true n' 9 [v6] = some y6 from hfs 6 _ rfl)
  have t7 : DataW.trod enc Tryz.prog W 0 (fun _ => true) true n' 23 [v7] = some y7 := hfs 7 _ rfl
  obtain ⟨a', l', c', e7⟩ := Joins.slice_form Tryz.underlying23 t7
  simp only [List.cons.injEq, and_true] at e0 e1 e2 e3 e4 e5 e6 e7
  subst e0 e1 e2 e3 e4 e5 e6 e7
  have m4 : k4.size ≤ 140737488355328 := str_le (hw _ (by rw [show y.1 = _ from congrArg Prod.fst ey, d4]; simp [DataW.weights, DataW.weightsEach, Tryz.underlying25]))
  have m5 : k5.size ≤ 140737488355328 := str_le (hw _ (by rw [show y.1 = _ from congrArg Prod.fst ey, d5]; simp [DataW.weights, DataW.weightsEach, Tryz.underlying25]))
  have m6 : k6.size ≤ 140737488355328 := str_le (hw _ (by rw [show y.1 = _ from congrArg Prod.fst ey, d6]; simp [DataW.weights, DataW.weightsEach, Tryz.underlying25]))
  have hw7 : ∀ n ∈ y7.1.weights Tryz.prog 23, n ≤ reachBytes := fun n hn => hw n (by rw [show y.1 = _ from congrArg Prod.fst ey]; simp [DataW.weights, DataW.weightsEach, Tryz.underlying25, hn])
  have hs : DataW.Trod enc Tryz.prog W 0 (fun _ => true) true 23 (.slice a' l' c') y7.1 y7.2 := ⟨n', t7⟩
  obtain ⟨ts, rfl, hl, hT, hz⟩ := targets_argS hs hw7
  exact ⟨⟨k0, k1, k2, k3, k4, k5, k6, ts⟩, a', c', rfl, hT, hz, m4, m5, m6, hl, slice_nil0 Tryz.underlying23 hs, i64_bounds w0, i64_bounds w1, i64_bounds w2, i64_bounds w3⟩
set_option maxRecDepth 20000 in
theorem open_cmdS {H : Type} {enc : TypeId × Value → H} {W : World} {r : Reach} {b0 : Nat} {v : Value} {d : DataW H} {p : List MemPlace} (hv : Value.okWide Tryz.prog W r b0 25 v)
    (h : DataW.Trod enc Tryz.prog W 0 (fun _ => true) true 25 v d p) (hw : ∀ n ∈ d.weights Tryz.prog 25, n ≤ reachBytes) : ∃ (c : Cmd) (q : Option Addr × Nat), v = cmdVal c q.1 q.2 ∧ CmdAt W c q.1 q.2 := by
  obtain ⟨cs, rfl, hsz⟩ := okWide_struct Tryz.underlying25 hv
  have c8 : Tryz.prog.cellsOf 25 = 8 := by kernel_rfl
  obtain ⟨v0, v1, v2, v3, v4, v5, v6, v7, rfl⟩ := list8p (hsz.trans c8)
  obtain ⟨fuel, hf⟩ := h
  obtain ⟨c, a, tc, e, hc⟩ := cmd_openS (show DataW.trod enc Tryz.prog W 0 (fun _ => true) true fuel 25 [v0, v1, v2, v3, v4, v5, v6, v7] = some (d, p) from hf) hw
  exact ⟨c, (a, tc), congrArg Value.agg e, hc⟩
set_option maxRecDepth 20000 in
theorem open_cmdW {H : Type} {enc : TypeId × Value → H} {W : World} {r : Reach} {b0 : Nat} {v : Value} {d : DataW H} {p : List MemPlace} (hv : Value.okWide Tryz.prog W r b0 25 v)
    (h : DataW.Trod enc Tryz.prog W 0 (fun _ => true) true 25 v d p) (hw : ∀ n ∈ d.weights Tryz.prog 25, n ≤ reachBytes) : ∃ (c : Cmd) (q : Option Addr × Nat), v = cmdVal c q.1 q.2 ∧ (CmdAt W c q.1 q.2 ∧ c.ts.length * 24 ≤ 140737488355328) := by
  obtain ⟨c, q, e, hc⟩ := open_cmdS hv h hw
  refine ⟨c, q, e, hc, ?_⟩
  obtain ⟨fuel, hf⟩ := h
  rw [e] at hf
  have h2 : DataW.trod enc Tryz.prog W 0 (fun _ => true) true fuel 25 [.int .i64 c.act, .int .i64 c.cli, .int .i64 c.seq, .int .i64 c.exp, .string c.host, .string c.pre, .string c.pool, .slice q.1 c.ts.length q.2] = some (d, p) := hf
  obtain ⟨xs, n', _, ey, _, hx, hfs⟩ := DataW.trod_struct Tryz.underlying25 h2
  obtain ⟨y0, y1, y2, y3, y4, y5, y6, y7, rfl⟩ := list8l (show xs.length = 8 from hx)
  have t7 : DataW.trod enc Tryz.prog W 0 (fun _ => true) true n' 23 [.slice q.1 c.ts.length q.2] = some y7 := hfs 7 _ rfl
  exact targets_bytes (show DataW.Trod enc Tryz.prog W 0 (fun _ => true) true 23 (.slice q.1 c.ts.length q.2) y7.1 y7.2 from ⟨n', t7⟩) (fun n hn => hw n (by rw [show d = _ from (Prod.mk.inj ey).1]; simp [DataW.weights, DataW.weightsEach, Tryz.underlying25, hn]))
/-- A command in a row, and where its targets lie. -/
abbrev CmdQ := Cmd × (Option Addr × Nat)
structure CmdsAt (w : World) (a : Option Addr) (l : List CmdQ) : Prop where
  cell : ∀ i (hi : i < l.length), ∃ b off, a = some ⟨b, off, none⟩ ∧ (∀ k, k < 8 → w.cell? ⟨b, off + i * 8 + k, none⟩ = (cmdRow l[i].1 l[i].2.1 l[i].2.2)[k]?)
  at_ : ∀ q ∈ l, CmdAt w q.1 q.2.1 q.2.2
theorem CmdsAt.later {w w' : World} {a : Option Addr} {l : List CmdQ} (h : CmdsAt w a l) (hb : Below w.heap.size w w') : CmdsAt w' a l :=
  ⟨fun i hi => by
    obtain ⟨b, off, e, h1⟩ := h.cell i hi
    refine ⟨b, off, e, fun k hk => ?_⟩
    have h2 := h1 k hk
    have h3 : k < (cmdRow l[i].1 l[i].2.1 l[i].2.2).size := hk
    rw [Array.getElem?_eq_getElem h3] at h2 ⊢
    exact cell_later hb h2, fun q hq => (h.at_ q hq).later hb⟩
theorem cells8c {w : World} {a : Addr} {cs : List Value} (h : w.cells? 0 a 8 = some cs) : ∃ v0 v1 v2 v3 v4 v5 v6 v7, cs = [v0, v1, v2, v3, v4, v5, v6, v7] ∧ ∀ k, k < 8 → w.cell? (a.add k) = (#[v0, v1, v2, v3, v4, v5, v6, v7] : Array Value)[k]? := by
  obtain ⟨_, hlen, hc⟩ := World.cells?_some h
  match cs, hlen with
  | [v0, v1, v2, v3, v4, v5, v6, v7], _ =>
    refine ⟨v0, v1, v2, v3, v4, v5, v6, v7, rfl, fun k hk => ?_⟩
    have := hc k hk
    rw [this]
    simp
set_option maxRecDepth 100000 in
theorem cmds_arg {H : Type} {enc : TypeId × Value → H} {W : World} {a : Option Addr} {len cap : Nat} {d : DataW H} {p : List MemPlace}
    (h : DataW.Trod enc Tryz.prog W 0 (fun _ => true) true 47 (.slice a len cap) d p) (hw : ∀ n ∈ d.weights Tryz.prog 47, n ≤ reachBytes) :
    ∃ es : List CmdQ, es.length = len ∧ len ≤ maxLen ∧ CmdsAt W a es := by
  obtain ⟨fuel, hf⟩ := h
  have c6 : Tryz.prog.cellsOf 25 = 8 := by kernel_rfl
  rcases Deep.open_slice Tryz.underlying47 hf with ⟨hcs, _⟩ | ⟨x, l, c, m, n, D, Pl, hcs, _, hl, hm, hm', hd, hel⟩
  · simp [Value.cells] at hcs
    obtain ⟨rfl, rfl, rfl⟩ := hcs
    exact ⟨[], rfl, by simp [maxLen], ⟨by simp, by simp⟩⟩
  · simp [Value.cells] at hcs
    obtain ⟨rfl, rfl, rfl⟩ := hcs
    have hmm : m = cap := by simpa using hm'
    have hdd := (Prod.mk.inj hd).1
    rw [c6] at hel
    haveI : Inhabited CmdQ := ⟨(⟨0, 0, 0, 0, ⟨#[]⟩, ⟨#[]⟩, ⟨#[]⟩, []⟩, (none, 0))⟩
    obtain ⟨f, hfp⟩ := Deep.choose_lt (n := len) (p := fun i (e : CmdQ) => (∀ k, k < 8 → W.cell? ((x.add (i * 8)).add k) = (cmdRow e.1 e.2.1 e.2.2)[k]?) ∧ CmdAt W e.1 e.2.1 e.2.2) (fun i hi => by
      obtain ⟨cs', h1, h2⟩ := hel i (by omega)
      obtain ⟨v0, v1, v2, v3, v4, v5, v6, v7, rfl, hk⟩ := cells8c h1
      have hmem : D i ∈ (List.range len).map D := List.mem_map.2 ⟨i, List.mem_range.2 hi, rfl⟩
      obtain ⟨c, a', tc, e, hc⟩ := cmd_openS h2 (fun n hn => hw n (by
        rw [hdd]
        unfold DataW.weights
        rw [Tryz.underlying47]
        exact List.mem_cons_of_mem _ (List.mem_append_left _ (weights_allK hmem hn))))
      exact ⟨(c, (a', tc)), fun k h8 => by rw [hk k h8, e], hc⟩)
    refine ⟨(List.range len).map f, by simp, by omega, ⟨fun i hi => ?_, fun q hq => ?_⟩⟩
    · simp only [List.length_map, List.length_range] at hi
      obtain ⟨h0, _⟩ := hfp i hi
      have e : ((List.range len).map f)[i]'(by simpa using hi) = f i := by simp
      rw [e]
      obtain ⟨b, off, spot⟩ := x
      obtain ⟨h00, _⟩ := hfp 0 (by omega)
      have hspot : spot = none := by
        have h000 := h00 0 (by omega)
        rw [show (cmdRow (f 0).1 (f 0).2.1 (f 0).2.2)[0]? = some (.int .i64 (f 0).1.act) from rfl] at h000
        simpa [Addr.add] using World.cell?_spot h000
      subst hspot
      refine ⟨b, off, rfl, fun k hk => ?_⟩
      have := h0 k hk
      simp only [Addr.add_lit] at this
      exact this
    · obtain ⟨i, hi, rfl⟩ := List.mem_map.1 hq
      exact (hfp i (by simpa using hi)).2
end Go.Proofs.YtpkpnedcecjlbaaGreatDoor
