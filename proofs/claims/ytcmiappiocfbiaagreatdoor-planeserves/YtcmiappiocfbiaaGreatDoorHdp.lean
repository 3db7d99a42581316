/- A head that came in. -/
import Derived.Test.YtcmiappiocfbiaaGreatDoorHda
import Derived.Test.YtcmiappiocfbiaaGreatDoorArg
import Derived.Test.YtcmiappiocfbiaaGreatDoorBulk
import Derived.Deep.Slices
import Derived.OpenShut
import Derived.Lib.SmallJoins
namespace Go.Proofs.YtcmiappiocfbiaaGreatDoor
open Go.ChangeShapes Go.WideShapes Go.ChangeAt Go.RowKit
set_option linter.unusedVariables false

theorem cells2h {w : World} {a : Addr} {cs : List Value} (h : w.cells? 0 a 2 = some cs) : ∃ v0 v1, cs = [v0, v1] ∧ w.cell? (a.add 0) = some v0 ∧ w.cell? (a.add 1) = some v1 := by
  unfold World.cells? at h
  rw [if_pos (Nat.zero_le _)] at h
  simp only [show List.range 2 = [0, 1] from rfl, List.mapM_cons, List.mapM_nil, Option.bind_eq_bind, Option.bind_eq_some_iff, Option.pure_def, Option.some.injEq] at h
  obtain ⟨v0, h0, r, ⟨v1, h1, r1, rfl, rfl⟩, rfl⟩ := h
  exact ⟨v0, v1, rfl, h0, h1⟩
theorem list2h {α : Type} {l : List α} (h : l.length = 2) : ∃ c0 c1, l = [c0, c1] := by
  match l, h with
  | [c0, c1], _ => exact ⟨c0, c1, rfl⟩
theorem list5h {α : Type} {l : List α} (h : l.length = 5) : ∃ c0 c1 c2 c3 c4, l = [c0, c1, c2, c3, c4] := by
  match l, h with
  | [c0, c1, c2, c3, c4], _ => exact ⟨c0, c1, c2, c3, c4, rfl⟩
theorem array5h {α : Type} {cs : Array α} (h : cs.size = 5) : ∃ c0 c1 c2 c3 c4, cs = #[c0, c1, c2, c3, c4] := by
  obtain ⟨l⟩ := cs
  match l, h with
  | [c0, c1, c2, c3, c4], _ => exact ⟨c0, c1, c2, c3, c4, rfl⟩
instance : Inhabited Fd := ⟨⟨[], []⟩⟩
/-- Bounds of fields. -/
def FdsLe (n : Nat) (l : List Fd) : Prop := l.length ≤ n ∧ ∀ f ∈ l, f.name.length ≤ n ∧ f.value.length ≤ n
set_option maxRecDepth 20000 in
theorem fields_arg {H : Type} {enc : TypeId × Value → H} {W : World} {a : Option Addr} {len cap : Nat} {d : DataW H} {p : List MemPlace}
    (h : DataW.Trod enc Tryz.prog W 0 (fun _ => true) true 56 (.slice a len cap) d p) :
    ∃ es : List Fd, es.length = len ∧ len ≤ cap ∧ FdsAt W a es ∧ FdsLe (Rows.uptoBulk d) es ∧ FdsLe maxLen es := by
  obtain ⟨fuel, hf⟩ := h
  have c6 : Tryz.prog.cellsOf 86 = 2 := by kernel_rfl
  rcases Deep.open_slice Tryz.underlying56 hf with ⟨hcs, _⟩ | ⟨x, l, c, m, n, D, Pl, hcs, _, hl, hm, hm', hd, hel⟩
  · simp [Value.cells] at hcs
    obtain ⟨rfl, rfl, rfl⟩ := hcs
    exact ⟨[], rfl, Nat.le_refl _, fun i hi => by simp at hi, ⟨by simp, by simp⟩, ⟨by simp, by simp⟩⟩
  · simp [Value.cells] at hcs
    obtain ⟨rfl, rfl, rfl⟩ := hcs
    have hmm : m = cap := by simpa using hm'
    rw [c6] at hel
    obtain ⟨rfl, _⟩ := Prod.mk.inj hd
    have hb0 : ∀ i, i < len → Rows.uptoBulk (D i) ≤ Rows.uptoBulk (DataW.slice ((List.range len).map D) ((List.range (m - len)).map fun j => D (len + j))) := fun i hi => by
      have := bulk_mem (show D i ∈ (List.range len).map D from List.mem_map.2 ⟨i, List.mem_range.2 hi, rfl⟩)
      simp only [Rows.uptoBulk]
      omega
    have hb1 : len ≤ Rows.uptoBulk (DataW.slice ((List.range len).map D) ((List.range (m - len)).map fun j => D (len + j))) := by
      have := bulk_length ((List.range len).map D)
      simp only [List.length_map, List.length_range] at this
      simp only [Rows.uptoBulk]
      omega
    generalize Rows.uptoBulk (DataW.slice ((List.range len).map D) ((List.range (m - len)).map fun j => D (len + j))) = B at *
    have hone : ∀ i, i < len → ∃ (e : Fd), W.cell? ((x.add (i * 2)).add 0) = some (.string (stS e.name)) ∧ W.cell? ((x.add (i * 2)).add 1) = some (.string (stS e.value)) ∧ (e.name.length ≤ B ∧ e.value.length ≤ B) ∧ (e.name.length ≤ maxLen ∧ e.value.length ≤ maxLen) := by
      intro i hi
      obtain ⟨cs', h1, h2⟩ := hel i (by omega)
      obtain ⟨v0, v1, rfl, g0, g1⟩ := cells2h h1
      obtain ⟨xs, n', _, he, _, hx, hfs⟩ := DataW.trod_struct Tryz.underlying86 h2
      obtain ⟨y0, y1, rfl⟩ := list2h (show xs.length = 2 from hx)
      obtain ⟨s0, e0, f0, w0⟩ := DataW.trod_string Tryz.underlying9 (show DataW.trod enc Tryz.prog W 0 (fun _ => true) true n' 9 [v0] = some y0 from hfs 0 _ rfl)
      obtain ⟨s1, e1, f1, w1⟩ := DataW.trod_string Tryz.underlying9 (show DataW.trod enc Tryz.prog W 0 (fun _ => true) true n' 9 [v1] = some y1 from hfs 1 _ rfl)
      simp only [List.cons.injEq, and_true] at e0 e1
      subst e0 e1 f0 f1
      have hbi := hb0 i hi
      obtain ⟨he1, _⟩ := Prod.mk.inj he
      rw [he1] at hbi
      simp only [List.map_cons, List.map_nil, Rows.uptoBulk, Rows.uptoBulkAll] at hbi
      refine ⟨⟨s0.data.toList, s1.data.toList⟩, by rw [stS_self]; exact g0, by rw [stS_self]; exact g1, ⟨?_, ?_⟩, ?_, ?_⟩
      · show s0.data.toList.length ≤ B
        omega
      · show s1.data.toList.length ≤ B
        omega
      · show s0.data.toList.length ≤ maxLen
        simpa using w0
      · show s1.data.toList.length ≤ maxLen
        simpa using w1
    obtain ⟨f, hfp⟩ := Deep.choose_lt (n := len) (p := fun i (e : Fd) => W.cell? ((x.add (i * 2)).add 0) = some (.string (stS e.name)) ∧ W.cell? ((x.add (i * 2)).add 1) = some (.string (stS e.value)) ∧ (e.name.length ≤ B ∧ e.value.length ≤ B) ∧ (e.name.length ≤ maxLen ∧ e.value.length ≤ maxLen)) (fun i hi => hone i hi)
    refine ⟨(List.range len).map f, by simp, by omega, fun i hi => ?_, ⟨by simpa using hb1, fun t ht => ?_⟩, ⟨by simp; omega, fun t ht => ?_⟩⟩
    · simp only [List.length_map, List.length_range] at hi
      obtain ⟨h0, h1, _⟩ := hfp i hi
      have e : ((List.range len).map f)[i]'(by simpa using hi) = f i := by simp
      rw [e]
      obtain ⟨b, off, spot⟩ := x
      obtain ⟨h00, _⟩ := hfp 0 (by omega)
      have hspot : spot = none := by simpa [Addr.add] using World.cell?_spot h00
      subst hspot
      simp only [Addr.add_lit] at h0 h1
      exact ⟨b, off, rfl, h0, h1⟩
    · obtain ⟨i, hi, rfl⟩ := List.mem_map.1 ht
      exact (hfp i (by simpa using hi)).2.2.1
    · obtain ⟨i, hi, rfl⟩ := List.mem_map.1 ht
      exact (hfp i (by simpa using hi)).2.2.2
/-- A head's value; its fields lie at 'sp'. -/
def hdVal (h : Hd) (sp : Option Addr) (c : Nat) : Value := .agg #[.string (stS h.method), .string (stS h.path), .string (stS h.query), .string (stS h.host), .slice sp h.fields.length c]
structure HdLe (n : Nat) (h : Hd) : Prop where
  m : h.method.length ≤ n
  p : h.path.length ≤ n
  q : h.query.length ≤ n
  x : h.host.length ≤ n
  f : FdsLe n h.fields
theorem HdLe.mono {n k : Nat} {h : Hd} (e : HdLe n h) (hk : n ≤ k) : HdLe k h :=
  ⟨Nat.le_trans e.m hk, Nat.le_trans e.p hk, Nat.le_trans e.q hk, Nat.le_trans e.x hk, Nat.le_trans e.f.1 hk, fun f hf => ⟨Nat.le_trans (e.f.2 f hf).1 hk, Nat.le_trans (e.f.2 f hf).2 hk⟩⟩
set_option maxRecDepth 20000 in
theorem open_head {H : Type} {enc : TypeId × Value → H} {W : World} {r : Reach} {b0 : Nat} {v : Value} {d : DataW H} {p : List MemPlace} (hv : Value.okWide Tryz.prog W r b0 58 v)
    (h : DataW.Trod enc Tryz.prog W 0 (fun _ => true) true 58 v d p) : ∃ (e : Hd) (sp : Option Addr) (c : Nat), v = hdVal e sp c ∧ e.fields.length ≤ c ∧ FdsAt W sp e.fields ∧ HdLe (Rows.uptoBulk d) e ∧ HdLe maxLen e := by
  obtain ⟨cs, rfl, hsz⟩ := okWide_struct Tryz.underlying58 hv
  have c5 : Tryz.prog.cellsOf 58 = 5 := by kernel_rfl
  obtain ⟨v0, v1, v2, v3, v4, rfl⟩ := array5h (hsz.trans c5)
  obtain ⟨fuel, hf⟩ := h
  obtain ⟨xs, n, _, he, _, hx, hfs⟩ := DataW.trod_struct Tryz.underlying58 hf
  obtain ⟨y0, y1, y2, y3, y4, rfl⟩ := list5h (show xs.length = 5 from hx)
  obtain ⟨s0, e0, f0, w0⟩ := DataW.trod_string Tryz.underlying9 (show DataW.trod enc Tryz.prog W 0 (fun _ => true) true n 9 [v0] = some y0 from hfs 0 _ rfl)
  obtain ⟨s1, e1, f1, w1⟩ := DataW.trod_string Tryz.underlying9 (show DataW.trod enc Tryz.prog W 0 (fun _ => true) true n 9 [v1] = some y1 from hfs 1 _ rfl)
  obtain ⟨s2, e2, f2, w2⟩ := DataW.trod_string Tryz.underlying9 (show DataW.trod enc Tryz.prog W 0 (fun _ => true) true n 9 [v2] = some y2 from hfs 2 _ rfl)
  obtain ⟨s3, e3, f3, w3⟩ := DataW.trod_string Tryz.underlying9 (show DataW.trod enc Tryz.prog W 0 (fun _ => true) true n 9 [v3] = some y3 from hfs 3 _ rfl)
  have t4 : DataW.trod enc Tryz.prog W 0 (fun _ => true) true n 56 [v4] = some y4 := hfs 4 _ rfl
  obtain ⟨ta, tn, tc, e4⟩ := Joins.slice_form Tryz.underlying56 t4
  simp only [List.cons.injEq, and_true] at e0 e1 e2 e3 e4
  subst e0 e1 e2 e3 e4
  have hs : DataW.Trod enc Tryz.prog W 0 (fun _ => true) true 56 (.slice ta tn tc) y4.1 y4.2 := ⟨n, t4⟩
  obtain ⟨es, rfl, hc, hF, hL, hM⟩ := fields_arg hs
  obtain ⟨rfl, _⟩ := Prod.mk.inj he
  subst f0 f1 f2 f3
  have hq : HdLe (Rows.uptoBulk (DataW.agg (List.map Prod.fst [((DataW.lit (.string s0.data.toList) : DataW H), ([] : List MemPlace)), (.lit (.string s1.data.toList), []), (.lit (.string s2.data.toList), []), (.lit (.string s3.data.toList), []), y4]))) ⟨s0.data.toList, s1.data.toList, s2.data.toList, s3.data.toList, es⟩ := by
    simp only [List.map_cons, List.map_nil, Rows.uptoBulk, Rows.uptoBulkAll]
    refine ⟨?_, ?_, ?_, ?_, ?_, fun f hf => ⟨?_, ?_⟩⟩ <;> try simp only
    · omega
    · omega
    · omega
    · omega
    · have := hL.1; omega
    · have := (hL.2 f hf).1; omega
    · have := (hL.2 f hf).2; omega
  refine ⟨⟨s0.data.toList, s1.data.toList, s2.data.toList, s3.data.toList, es⟩, ta, tc, ?_, hc, hF, hq, ⟨?_, ?_, ?_, ?_, hM⟩⟩
  · unfold hdVal
    simp only [stS_self]
  · show s0.data.toList.length ≤ maxLen
    simpa using w0
  · show s1.data.toList.length ≤ maxLen
    simpa using w1
  · show s2.data.toList.length ≤ maxLen
    simpa using w2
  · show s3.data.toList.length ≤ maxLen
    simpa using w3
end Go.Proofs.YtcmiappiocfbiaaGreatDoor
