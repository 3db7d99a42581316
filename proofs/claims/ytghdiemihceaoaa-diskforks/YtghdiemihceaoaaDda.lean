/- Deeds of a disk that came in, opened; few enough (short). -/
import Derived.Test.YtghdiemihceaoaaDko
import Derived.Deep.Slices
import Derived.Lib.SmallJoins
namespace Go.Proofs.Ytghdiemihceaoaa
open Go.ChangeShapes Go.WideShapes Go.ChangeAt Go.RowKit

/-- A deed: its kind, name, the other name, place, bytes, what is kept. -/
structure De where
  kind : Int
  name : ByteArray
  to : ByteArray
  at_ : Int
  bs : List Nat
  keep : List Int
instance : Inhabited De := ⟨⟨0, ByteArray.empty, ByteArray.empty, 0, [], []⟩⟩
/-- Where a deed's rows lie. -/
structure DeH where
  bp : Option Addr
  bc : Nat
  kp : Option Addr
  kc : Nat
def deVal (e : De) (h : DeH) : Value := .agg #[.int .i64 e.kind, .string e.name, .string e.to, .int .i64 e.at_, .slice h.bp e.bs.length h.bc, .slice h.kp e.keep.length h.kc]
def W64 (n : Int) : Prop := -9223372036854775808 ≤ n ∧ n ≤ 9223372036854775807
/-- What is known of a deed that came in. -/
structure DeAt (w : World) (e : De) (h : DeH) : Prop where
  wk : W64 e.kind
  wa : W64 e.at_
  sn : e.name.size ≤ maxLen
  st : e.to.size ≤ maxLen
  sb : e.bs.length ≤ maxLen
  sk : e.keep.length ≤ maxLen
  by_ : BytesAt w h.bp e.bs
  bz : h.bp = none → h.bc = 0
  ks : IntsAt w h.kp e.keep
  bcap : e.bs.length ≤ h.bc
theorem DeAt.later {w w' : World} {e : De} {h : DeH} (x : DeAt w e h) (hb : Below w.heap.size w w') : DeAt w' e h := ⟨x.wk, x.wa, x.sn, x.st, x.sb, x.sk, x.by_.later hb, x.bz, x.ks.later hb, x.bcap⟩
def deCells (e : De) (h : DeH) (w : World) (b off : Nat) : Prop :=
  w.cell? ⟨b, off, none⟩ = some (.int .i64 e.kind) ∧ w.cell? ⟨b, off + 1, none⟩ = some (.string e.name) ∧ w.cell? ⟨b, off + 2, none⟩ = some (.string e.to) ∧ w.cell? ⟨b, off + 3, none⟩ = some (.int .i64 e.at_) ∧
  w.cell? ⟨b, off + 4, none⟩ = some (.slice h.bp e.bs.length h.bc) ∧ w.cell? ⟨b, off + 5, none⟩ = some (.slice h.kp e.keep.length h.kc)
structure DesAt (w : World) (a : Option Addr) (es : List De) : Prop where
  cell : ∀ i (hi : i < es.length), ∃ b off h, a = some ⟨b, off, none⟩ ∧ deCells es[i] h w b (off + i * 6) ∧ DeAt w es[i] h
theorem DesAt.later {w w' : World} {a : Option Addr} {es : List De} (h : DesAt w a es) (hb : Below w.heap.size w w') : DesAt w' a es :=
  ⟨fun i hi => by
    obtain ⟨b, off, hh, h0, ⟨h1, h2, h3, h4, h5, h6⟩, h7⟩ := h.cell i hi
    exact ⟨b, off, hh, h0, ⟨cell_later hb h1, cell_later hb h2, cell_later hb h3, cell_later hb h4, cell_later hb h5, cell_later hb h6⟩, h7.later hb⟩⟩
theorem cells6 {w : World} {a : Addr} {cs : List Value} (h : w.cells? 0 a 6 = some cs) : ∃ v0 v1 v2 v3 v4 v5, cs = [v0, v1, v2, v3, v4, v5] ∧ w.cell? (a.add 0) = some v0 ∧ w.cell? (a.add 1) = some v1 ∧ w.cell? (a.add 2) = some v2 ∧ w.cell? (a.add 3) = some v3 ∧ w.cell? (a.add 4) = some v4 ∧ w.cell? (a.add 5) = some v5 := by
  unfold World.cells? at h
  rw [if_pos (Nat.zero_le _)] at h
  simp only [show List.range 6 = [0, 1, 2, 3, 4, 5] from rfl, List.mapM_cons, List.mapM_nil, Option.bind_eq_bind, Option.bind_eq_some_iff, Option.pure_def, Option.some.injEq] at h
  obtain ⟨v0, h0, r, ⟨v1, h1, r1, ⟨v2, h2, r2, ⟨v3, h3, r3, ⟨v4, h4, r4, ⟨v5, h5, r5, rfl, rfl⟩, rfl⟩, rfl⟩, rfl⟩, rfl⟩, rfl⟩ := h
  exact ⟨v0, v1, v2, v3, v4, v5, rfl, h0, h1, h2, h3, h4, h5⟩
theorem list6 {α : Type} {l : List α} (h : l.length = 6) : ∃ c0 c1 c2 c3 c4 c5, l = [c0, c1, c2, c3, c4, c5] := by
  match l, h with
  | [c0, c1, c2, c3, c4, c5], _ => exact ⟨c0, c1, c2, c3, c4, c5, rfl⟩
set_option maxRecDepth 20000 in
theorem de_open {H : Type} {enc : TypeId × Value → H} {W : World} {n : Nat} {v0 v1 v2 v3 v4 v5 : Value} {y : DataW H × List MemPlace}
    (h2 : DataW.trod enc Try.prog W 0 (fun _ => true) true n 31 [v0, v1, v2, v3, v4, v5] = some y) :
    ∃ (e : De) (h : DeH), v0 = .int .i64 e.kind ∧ v1 = .string e.name ∧ v2 = .string e.to ∧ v3 = .int .i64 e.at_ ∧ v4 = .slice h.bp e.bs.length h.bc ∧ v5 = .slice h.kp e.keep.length h.kc ∧ DeAt W e h := by
  obtain ⟨xs, n', _, _, _, hx, hfs⟩ := DataW.trod_struct Try.underlying31 h2
  obtain ⟨y0, y1, y2, y3, y4, y5, rfl⟩ := list6 (show xs.length = 6 from hx)
  obtain ⟨k, e0, _, w0⟩ := DataW.trod_int Try.underlying3 (show DataW.trod enc Try.prog W 0 (fun _ => true) true n' 3 [v0] = some y0 from hfs 0 _ rfl)
  obtain ⟨nm, e1, _, w1⟩ := DataW.trod_string Try.underlying9 (show DataW.trod enc Try.prog W 0 (fun _ => true) true n' 9 [v1] = some y1 from hfs 1 _ rfl)
  obtain ⟨to, e2, _, w2⟩ := DataW.trod_string Try.underlying9 (show DataW.trod enc Try.prog W 0 (fun _ => true) true n' 9 [v2] = some y2 from hfs 2 _ rfl)
  obtain ⟨j, e3, _, w3⟩ := DataW.trod_int Try.underlying3 (show DataW.trod enc Try.prog W 0 (fun _ => true) true n' 3 [v3] = some y3 from hfs 3 _ rfl)
  have t4 : DataW.trod enc Try.prog W 0 (fun _ => true) true n' 28 [v4] = some y4 := hfs 4 _ rfl
  have t5 : DataW.trod enc Try.prog W 0 (fun _ => true) true n' 29 [v5] = some y5 := hfs 5 _ rfl
  obtain ⟨a', l', c', e4⟩ := Joins.slice_form Try.underlying28 t4
  obtain ⟨a5, l5, c5, e5⟩ := Joins.slice_form Try.underlying29 t5
  simp only [List.cons.injEq, and_true] at e0 e1 e2 e3 e4 e5
  subst e0 e1 e2 e3 e4 e5
  have hs : DataW.Trod enc Try.prog W 0 (fun _ => true) true 28 (.slice a' l' c') y4.1 y4.2 := ⟨n', t4⟩
  have hs5 : DataW.Trod enc Try.prog W 0 (fun _ => true) true 29 (.slice a5 l5 c5) y5.1 y5.2 := ⟨n', t5⟩
  obtain ⟨bs, rfl, hc, hx, hb, hz, _⟩ := row8 hs
  obtain ⟨ks, rfl, hk, hI⟩ := row64 hs5
  exact ⟨⟨k, nm, to, j, bs, ks⟩, ⟨a', c', a5, c5⟩, rfl, rfl, rfl, rfl, rfl, rfl, i64_bounds w0, i64_bounds w3, w1, w2, by simp only; omega, hk, hb, hz, hI, hc⟩
theorem list6a {vs : Array Value} (h : vs.size = 6) : ∃ c0 c1 c2 c3 c4 c5, vs = #[c0, c1, c2, c3, c4, c5] := by
  obtain ⟨l⟩ := vs
  obtain ⟨c0, c1, c2, c3, c4, c5, rfl⟩ := list6 (show l.length = 6 from h)
  exact ⟨c0, c1, c2, c3, c4, c5, rfl⟩
set_option maxRecDepth 20000 in
theorem ddeeds_arg {H : Type} {enc : TypeId × Value → H} {W : World} {a : Option Addr} {len cap : Nat} {d : DataW H} {p : List MemPlace}
    (h : DataW.Trod enc Try.prog W 0 (fun _ => true) true 22 (.slice a len cap) d p) :
    ∃ es : List De, es.length = len ∧ len ≤ maxLen ∧ DesAt W a es := by
  obtain ⟨fuel, hf⟩ := h
  have c6 : Try.prog.cellsOf 31 = 6 := by kernel_rfl
  rcases Deep.open_slice Try.underlying22 hf with ⟨hcs, _⟩ | ⟨x, l, c, m, n, D, Pl, hcs, _, hl, hm, hm', _, hel⟩
  · simp [Value.cells] at hcs
    obtain ⟨rfl, rfl, rfl⟩ := hcs
    exact ⟨[], rfl, by simp [maxLen], ⟨by simp⟩⟩
  · simp [Value.cells] at hcs
    obtain ⟨rfl, rfl, rfl⟩ := hcs
    have hmm : m = cap := by simpa using hm'
    rw [c6] at hel
    have hone : ∀ i, i < len → ∃ (e : De), ∃ h : DeH, W.cell? ((x.add (i * 6)).add 0) = some (.int .i64 e.kind) ∧ W.cell? ((x.add (i * 6)).add 1) = some (.string e.name) ∧ W.cell? ((x.add (i * 6)).add 2) = some (.string e.to) ∧ W.cell? ((x.add (i * 6)).add 3) = some (.int .i64 e.at_) ∧ W.cell? ((x.add (i * 6)).add 4) = some (.slice h.bp e.bs.length h.bc) ∧ W.cell? ((x.add (i * 6)).add 5) = some (.slice h.kp e.keep.length h.kc) ∧ DeAt W e h := by
      intro i hi
      obtain ⟨cs', h1, h2⟩ := hel i (by omega)
      obtain ⟨v0, v1, v2, v3, v4, v5, rfl, g0, g1, g2, g3, g4, g5⟩ := cells6 h1
      obtain ⟨e, h, rfl, rfl, rfl, rfl, rfl, rfl, hd⟩ := de_open h2
      exact ⟨e, h, g0, g1, g2, g3, g4, g5, hd⟩
    obtain ⟨f, hfp⟩ := Deep.choose_lt (n := len) (p := fun i (e : De) => ∃ h : DeH, W.cell? ((x.add (i * 6)).add 0) = some (.int .i64 e.kind) ∧ W.cell? ((x.add (i * 6)).add 1) = some (.string e.name) ∧ W.cell? ((x.add (i * 6)).add 2) = some (.string e.to) ∧ W.cell? ((x.add (i * 6)).add 3) = some (.int .i64 e.at_) ∧ W.cell? ((x.add (i * 6)).add 4) = some (.slice h.bp e.bs.length h.bc) ∧ W.cell? ((x.add (i * 6)).add 5) = some (.slice h.kp e.keep.length h.kc) ∧ DeAt W e h) (fun i hi => hone i hi)
    refine ⟨(List.range len).map f, by simp, by omega, ⟨fun i hi => ?_⟩⟩
    simp only [List.length_map, List.length_range] at hi
    obtain ⟨h, h0, h1, h2, h3, h4, h5, h6⟩ := hfp i hi
    have e : ((List.range len).map f)[i]'(by simpa using hi) = f i := by simp
    rw [e]
    obtain ⟨b, off, spot⟩ := x
    obtain ⟨_, h00, _⟩ := hfp 0 (by omega)
    have hspot : spot = none := by simpa [Addr.add] using World.cell?_spot h00
    subst hspot
    simp only [Addr.add_lit] at h0 h1 h2 h3 h4 h5
    exact ⟨b, off, h, rfl, ⟨h0, h1, h2, h3, h4, h5⟩, h6⟩
set_option maxRecDepth 20000 in
theorem open_de {H : Type} {enc : TypeId × Value → H} {W : World} {r : Reach} {b0 : Nat} {v : Value} {d : DataW H} {p : List MemPlace} (hv : Value.okWide Try.prog W r b0 31 v)
    (h : DataW.Trod enc Try.prog W 0 (fun _ => true) true 31 v d p) : ∃ (e : De) (q : DeH), v = deVal e q ∧ DeAt W e q := by
  obtain ⟨cs, rfl, hsz⟩ := okWide_struct Try.underlying31 hv
  have c6 : Try.prog.cellsOf 31 = 6 := by kernel_rfl
  obtain ⟨v0, v1, v2, v3, v4, v5, rfl⟩ := list6a (hsz.trans c6)
  obtain ⟨fuel, hf⟩ := h
  obtain ⟨e, q, rfl, rfl, rfl, rfl, rfl, rfl, hd⟩ := de_open (show DataW.trod enc Try.prog W 0 (fun _ => true) true fuel 31 [v0, v1, v2, v3, v4, v5] = some (d, p) from hf)
  exact ⟨e, q, rfl, hd⟩
/-- Few enough to be played? -/
def De.short (e : De) : Bool := decide (e.bs.length ≤ 4000) && decide (e.keep.length ≤ 100)
set_option maxHeartbeats 4000000 in
theorem short_calls (e : De) (h : DeH) (w : World) : Calls Try.prog 14 #[deVal e h] w fun r w' => r = .returned (.bool e.short) ∧ Below w.heap.size w w' := by
  unfold deVal
  have B1 := hide (show Below w.heap.size w (w.alloc (.cells #[.int .i64 e.kind, .string e.name, .string e.to, .int .i64 e.at_, .slice h.bp e.bs.length h.bc, .slice h.kp e.keep.length h.kc] 31)) from (Below.refl _ _).alloc (Nat.le_refl _) _)
  by_cases hb : e.bs.length ≤ 4000
  · have y1 : (e.bs.length : Int) ≤ 4000 := by omega
    by_cases hk : e.keep.length ≤ 100
    · have y2 : (e.keep.length : Int) ≤ 100 := by omega
      have E := hide (show e.short = true by simp [De.short, hb, hk])
      go_enter Try.func14, Try.ntmps14
      go_wp2
      go_ret
      exact ⟨by rw [unhide E]; rfl, unhide B1⟩
    · have y2 : ¬ (e.keep.length : Int) ≤ 100 := by omega
      have E := hide (show e.short = false by simp [De.short, hk])
      go_enter Try.func14, Try.ntmps14
      go_wp2
      go_ret
      exact ⟨by rw [unhide E]; rfl, unhide B1⟩
  · have y1 : ¬ (e.bs.length : Int) ≤ 4000 := by omega
    have E := hide (show e.short = false by simp [De.short, hb])
    go_enter Try.func14, Try.ntmps14
    go_wp2
    go_ret
    exact ⟨by rw [unhide E]; rfl, unhide B1⟩
end Go.Proofs.Ytghdiemihceaoaa
