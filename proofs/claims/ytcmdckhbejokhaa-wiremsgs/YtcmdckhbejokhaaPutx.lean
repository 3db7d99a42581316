/- The contract of wire.PutMsg of a message that may not be put, by the document's error; a message that came in, with its sizes. -/
import Derived.Test.YtcmdckhbejokhaaRgt
import Derived.Test.YtcmdckhbejokhaaMarg
namespace Go.Proofs.Ytcmdckhbejokhaa
open Go.ChangeShapes Go.WideShapes Go.ChangeAt Go.RowKit

set_option maxRecDepth 20000 in
set_option maxHeartbeats 2000000 in
theorem putMsg_badX (kd fr to t ix lt cm hi ro : Int) (bo : Bool) (ep : Option Addr) (en ec : Nat) (dp : Option Addr) (dm dc : Nat) (es : List EntI) (w : World) (hn : es.length = en) (hmax : en ≤ 9223372036854775807) (hE : EntsAt w ep es) (h : ¬ (MayM kd fr to t ix lt cm hi ro es ∧ FitsM es dm)) :
    Calls Try.prog 7 #[.agg #[.int .i64 kd, .int .i64 fr, .int .i64 to, .int .i64 t, .int .i64 ix, .int .i64 lt, .int .i64 cm, .int .i64 hi, .int .i64 ro, .bool bo, .slice ep en ec, .slice dp dm dc]] w fun e w' => (∃ x : Int, e = .returned (.tuple #[.slice none 0 0, .int .i64 x]) ∧ RightX kd fr to t ix lt cm hi ro es dm x) ∧ Below w.heap.size w w' := by
  have x0 := heap_new w (.cells #[.int .i64 kd, .int .i64 fr, .int .i64 to, .int .i64 t, .int .i64 ix, .int .i64 lt, .int .i64 cm, .int .i64 hi, .int .i64 ro, .bool bo, .slice ep en ec, .slice dp dm dc] 26)
  obtain ⟨c0, c1, c2, c3, c4, c5, c6, c7, c8, c9, c10, c11⟩ := twelve_cells x0
  have X0 := hide x0
  have bA : Below w.heap.size w (w.alloc (.cells #[.int .i64 kd, .int .i64 fr, .int .i64 to, .int .i64 t, .int .i64 ix, .int .i64 lt, .int .i64 cm, .int .i64 hi, .int .i64 ro, .bool bo, .slice ep en ec, .slice dp dm dc] 26)) := (Below.refl _ _).alloc (Nat.le_refl _) _
  have BA := hide bA
  have HE := hide (hE.later bA)
  have HN := hide hn
  have HH := hide h
  clear x0 hE hn bA h
  go_enter Try.func7, Try.ntmps7
  go_wp2_with fail
  generalize w.alloc (.cells #[.int .i64 kd, .int .i64 fr, .int .i64 to, .int .i64 t, .int .i64 ix, .int .i64 lt, .int .i64 cm, .int .i64 hi, .int .i64 ro, .bool bo, .slice ep en ec, .slice dp dm dc] 26) = W at *
  refine (msgMayBe_any kd fr to t ix lt cm hi ro bo ep en ec dp dm dc es _ (unhide HN) hmax (unhide HE)).mono ?_
  rintro e W1 ⟨⟨b, rfl, hbm⟩, b1⟩
  have F1 := hide ((unhide BA).trans (b1.mono (unhide BA).size))
  cases b with
  | false =>
    have HX := hide (show RightX kd fr to t ix lt cm hi ro es dm 2 from .inl ⟨fun hm => (by have := hbm.2 hm; cases this), rfl⟩)
    clear hbm b1
    go_wp2
    go_ret2
    exact ⟨⟨2, rfl, unhide HX⟩, unhide F1⟩
  | true =>
    have hmay := hide (hbm.1 rfl)
    obtain ⟨e0, e1, e2, e3, e4, e5, e6, e7, e8, e9, e10, e11⟩ := twelve_cells ((b1.block _ (Array.getElem?_eq_some_iff.1 (unhide X0)).1).trans (unhide X0))
    have E1 := hide ((unhide HE).later b1)
    clear hbm b1 c0 c1 c2 c3 c4 c5 c6 c7 c8 c9 c10 c11 BA
    go_wp2_with fail
    refine (msgFits_any kd fr to t ix lt cm hi ro bo ep en ec dp dm dc es _ (unhide HN) (unhide E1)).mono ?_
    rintro e W2 ⟨⟨b, rfl, hbf⟩, b2⟩
    have F2 := hide ((unhide F1).trans (b2.mono (unhide F1).size))
    cases b with
    | false =>
      have HX := hide (show RightX kd fr to t ix lt cm hi ro es dm 6 from .inr (.inl ⟨unhide hmay, fun hf => (by have := hbf.2 hf; cases this), rfl⟩))
      clear hbf b2
      go_wp2
      go_ret2
      exact ⟨⟨6, rfl, unhide HX⟩, unhide F2⟩
    | true => exact absurd ⟨unhide hmay, hbf.1 rfl⟩ (unhide HH)
theorem RightX.same {kd fr to t ix lt cm hi ro : Int} {es : List EntI} {dm : Nat} {x y : Int} (h : RightX kd fr to t ix lt cm hi ro es dm x) (k : RightX kd fr to t ix lt cm hi ro es dm y) : x = y := by
  rcases h with ⟨h1, rfl⟩ | ⟨h1, h2, rfl⟩ | ⟨h1, h2, rfl⟩ <;> rcases k with ⟨k1, rfl⟩ | ⟨k1, k2, rfl⟩ | ⟨k1, k2, rfl⟩ <;> first | rfl | exact absurd k1 h1 | exact absurd h1 k1 | exact absurd k2 h2 | exact absurd h2 k2
theorem weights_all {H : Type} {P : Program} {e : TypeId} {d : DataW H} {n : Nat} (hn : n ∈ d.weights P e) : ∀ {l : List (DataW H)}, d ∈ l → n ∈ DataW.weightsAll P e l
  | [], h => by cases h
  | x :: r, h => by
    simp only [DataW.weightsAll, List.mem_append]
    rcases List.mem_cons.1 h with h | h
    · subst h; exact .inl hn
    · exact .inr (weights_all hn h)
theorem bytesE : Try.prog.bytesOf 38 = 48 := by kernel_rfl
theorem row8_w {H : Type} {d : DataW H} {cap : Nat} (hr : (d = .nil ∧ cap = 0) ∨ ∃ es sp, d = .slice es sp ∧ es.length + sp.length = cap) (hw : ∀ n ∈ d.weights Try.prog 24, n ≤ reachBytes) : cap ≤ 140737488355328 := by
  rcases hr with ⟨_, rfl⟩ | ⟨es, sp, rfl, rfl⟩
  · omega
  · have := hw ((es.length + sp.length) * Try.prog.bytesOf 5) (by simp [DataW.weights, Try.underlying24])
    rw [bytes8] at this
    have := reachBytes_lt
    omega
theorem ents_argS {H : Type} {enc : TypeId × Value → H} {W : World} {a : Option Addr} {len cap : Nat} {d : DataW H} {p : List MemPlace}
    (h : DataW.Trod enc Try.prog W 0 (fun _ => true) true 23 (.slice a len cap) d p)
    (hw : ∀ n ∈ d.weights Try.prog 23, n ≤ reachBytes) :
    ∃ es : List EntI, es.length = len ∧ len * 48 ≤ 140737488355328 ∧ EntsAt W a es ∧ ∀ e ∈ es, e.2.2.2.length ≤ 140737488355328 := by
  obtain ⟨fuel, hf⟩ := h
  have c4 : Try.prog.cellsOf 38 = 4 := by kernel_rfl
  rcases Deep.open_slice Try.underlying23 hf with ⟨hcs, _⟩ | ⟨x, l, c, m, n, D, Pl, hcs, _, hl, hm, hm', hxd, hel⟩
  · simp [Value.cells] at hcs
    obtain ⟨rfl, rfl, rfl⟩ := hcs
    exact ⟨[], rfl, by omega, ⟨by simp⟩, by simp⟩
  · simp [Value.cells] at hcs
    obtain ⟨rfl, rfl, rfl⟩ := hcs
    have hmm : m = cap := by simpa using hm'
    rw [c4] at hel
    have hd : d = .slice ((List.range len).map D) ((List.range (m - len)).map fun j => D (len + j)) := (Prod.mk.inj hxd).1
    have hlen48 : len * 48 ≤ 140737488355328 := by
      have := hw (((List.range len).map D).length * 1 * 48 + ((List.range (m - len)).map fun j => D (len + j)).length * 48) (by rw [hd]; simp [DataW.weights, Try.underlying23, bytesE, Nat.add_mul])
      have := reachBytes_lt
      simp only [List.length_map, List.length_range] at *
      omega
    have hone : ∀ i, i < len → ∃ (e : EntI) (dp : Option Addr) (dc : Nat), W.cell? ((x.add (i * 4)).add 0) = some (.int .i64 e.1) ∧ W.cell? ((x.add (i * 4)).add 1) = some (.int .i64 e.2.1) ∧ W.cell? ((x.add (i * 4)).add 2) = some (.int .i64 e.2.2.1) ∧ W.cell? ((x.add (i * 4)).add 3) = some (.slice dp e.2.2.2.length dc) ∧ BytesAt W dp e.2.2.2 ∧ (dp = none → dc = 0) ∧ e.2.2.2.length ≤ 140737488355328 := by
      intro i hi
      obtain ⟨cs', h1, h2⟩ := hel i (by omega)
      obtain ⟨v0, v1, v2, v3, rfl, g0, g1, g2, g3⟩ := cells4 h1
      obtain ⟨y0, y1, y2, y3, n', hDi, hDj, t0, t1, t2, t3⟩ := Joins.trod_struct4 Try.underlying38 h2
      obtain ⟨k, e0, _, w0⟩ := DataW.trod_int Try.underlying36 (show DataW.trod enc Try.prog W 0 (fun _ => true) true n' 36 [v0] = some y0 from t0)
      obtain ⟨t, e1, _, w1⟩ := DataW.trod_int Try.underlying3 (show DataW.trod enc Try.prog W 0 (fun _ => true) true n' 3 [v1] = some y1 from t1)
      obtain ⟨j, e2, _, w2⟩ := DataW.trod_int Try.underlying3 (show DataW.trod enc Try.prog W 0 (fun _ => true) true n' 3 [v2] = some y2 from t2)
      have t3' : DataW.trod enc Try.prog W 0 (fun _ => true) true n' 24 [v3] = some y3 := t3
      obtain ⟨a', l', c', e3⟩ := Joins.slice_form Try.underlying24 t3'
      simp only [List.cons.injEq, and_true] at e0 e1 e2 e3
      subst e0 e1 e2 e3
      have hs : DataW.Trod enc Try.prog W 0 (fun _ => true) true 24 (.slice a' l' c') y3.1 y3.2 := ⟨n', t3'⟩
      obtain ⟨bs, rfl, hc, hx, hb, hz, hr⟩ := row8 hs
      have hcap : c' ≤ 140737488355328 := row8_w hr (fun n hn => hw n (by
        have hDi' : D i = .agg [y0.1, y1.1, y2.1, y3.1] := (Prod.mk.inj hDi).1
        have h1 : n ∈ (D i).weights Try.prog 38 := by rw [hDi']; simp [DataW.weights, DataW.weightsEach, Try.underlying38, hn]
        have h2 := weights_all h1 (List.mem_map.2 ⟨i, List.mem_range.2 hi, rfl⟩ : D i ∈ (List.range len).map D)
        rw [hd]
        simp [DataW.weights, Try.underlying23, h2]))
      exact ⟨(k, t, j, bs), a', c', g0, g1, g2, g3, hb, hz, by simp only; omega⟩
    obtain ⟨f, hfp⟩ := Deep.choose_lt (n := len) (p := fun i (e : EntI) => ∃ (dp : Option Addr) (dc : Nat), W.cell? ((x.add (i * 4)).add 0) = some (.int .i64 e.1) ∧ W.cell? ((x.add (i * 4)).add 1) = some (.int .i64 e.2.1) ∧ W.cell? ((x.add (i * 4)).add 2) = some (.int .i64 e.2.2.1) ∧ W.cell? ((x.add (i * 4)).add 3) = some (.slice dp e.2.2.2.length dc) ∧ BytesAt W dp e.2.2.2 ∧ (dp = none → dc = 0) ∧ e.2.2.2.length ≤ 140737488355328) (fun i hi => hone i hi)
    refine ⟨(List.range len).map f, by simp, hlen48, ⟨fun i hi => ?_⟩, ?_⟩
    · simp only [List.length_map, List.length_range] at hi
      obtain ⟨dp, dc, h0, h1, h2, h3, h4, h5, _⟩ := hfp i hi
      have e : ((List.range len).map f)[i]'(by simpa using hi) = f i := by simp
      rw [e]
      obtain ⟨b, off, spot⟩ := x
      obtain ⟨_, _, h00, _⟩ := hfp 0 (by omega)
      have hspot : spot = none := by simpa [Addr.add] using World.cell?_spot h00
      subst hspot
      simp only [Addr.add_lit] at h0 h1 h2 h3
      exact ⟨b, off, dp, dc, rfl, h0, h1, h2, h3, h4, h5⟩
    · intro e he
      obtain ⟨i, hi, rfl⟩ := List.mem_map.1 he
      obtain ⟨dp, dc, _, _, _, _, _, _, h6⟩ := hfp i (List.mem_range.1 hi)
      exact h6
theorem open_msgS {H : Type} {enc : TypeId × Value → H} {W : World} {r : Reach} {b0 : Nat} {v : Value} {d : DataW H} {p : List MemPlace} (hv : Value.okWide Try.prog W r b0 26 v)
    (h : DataW.Trod enc Try.prog W 0 (fun _ => true) true 26 v d p) (hw : ∀ n ∈ d.weights Try.prog 26, n ≤ reachBytes) : ∃ (kd fr to t ix lt cm hi ro : Int) (bo : Bool) (ep : Option Addr) (ec : Nat) (es : List EntI) (dp : Option Addr) (dc : Nat) (dl : List Nat),
      v = .agg #[.int .i64 kd, .int .i64 fr, .int .i64 to, .int .i64 t, .int .i64 ix, .int .i64 lt, .int .i64 cm, .int .i64 hi, .int .i64 ro, .bool bo, .slice ep es.length ec, .slice dp dl.length dc] ∧ es.length * 48 ≤ 140737488355328 ∧ EntsAt W ep es ∧ (∀ e ∈ es, e.2.2.2.length ≤ 140737488355328) ∧ dl.length ≤ dc ∧ dc ≤ 140737488355328 ∧ BytesAt W dp dl ∧ (dp = none → dc = 0) := by
  obtain ⟨cs, rfl, hsz⟩ := okWide_struct Try.underlying26 hv
  have c12 : Try.prog.cellsOf 26 = 12 := by kernel_rfl
  obtain ⟨v0, v1, v2, v3, v4, v5, v6, v7, v8, v9, v10, v11, rfl⟩ := array12 (hsz.trans c12)
  obtain ⟨fuel, hf⟩ := h
  obtain ⟨xs, n, _, hxd, _, hx, hfs⟩ := DataW.trod_struct Try.underlying26 hf
  obtain ⟨y0, y1, y2, y3, y4, y5, y6, y7, y8, y9, y10, y11, rfl⟩ := list12 (show xs.length = 12 from hx)
  obtain ⟨kd, e0, _, _⟩ := DataW.trod_int Try.underlying22 (show DataW.trod enc Try.prog W 0 (fun _ => true) true n 22 [v0] = some y0 from hfs 0 _ rfl)
  obtain ⟨fr, e1, _, _⟩ := DataW.trod_int Try.underlying3 (show DataW.trod enc Try.prog W 0 (fun _ => true) true n 3 [v1] = some y1 from hfs 1 _ rfl)
  obtain ⟨to, e2, _, _⟩ := DataW.trod_int Try.underlying3 (show DataW.trod enc Try.prog W 0 (fun _ => true) true n 3 [v2] = some y2 from hfs 2 _ rfl)
  obtain ⟨t, e3, _, _⟩ := DataW.trod_int Try.underlying3 (show DataW.trod enc Try.prog W 0 (fun _ => true) true n 3 [v3] = some y3 from hfs 3 _ rfl)
  obtain ⟨ix, e4, _, _⟩ := DataW.trod_int Try.underlying3 (show DataW.trod enc Try.prog W 0 (fun _ => true) true n 3 [v4] = some y4 from hfs 4 _ rfl)
  obtain ⟨lt, e5, _, _⟩ := DataW.trod_int Try.underlying3 (show DataW.trod enc Try.prog W 0 (fun _ => true) true n 3 [v5] = some y5 from hfs 5 _ rfl)
  obtain ⟨cm, e6, _, _⟩ := DataW.trod_int Try.underlying3 (show DataW.trod enc Try.prog W 0 (fun _ => true) true n 3 [v6] = some y6 from hfs 6 _ rfl)
  obtain ⟨hi, e7, _, _⟩ := DataW.trod_int Try.underlying3 (show DataW.trod enc Try.prog W 0 (fun _ => true) true n 3 [v7] = some y7 from hfs 7 _ rfl)
  obtain ⟨ro, e8, _, _⟩ := DataW.trod_int Try.underlying3 (show DataW.trod enc Try.prog W 0 (fun _ => true) true n 3 [v8] = some y8 from hfs 8 _ rfl)
  have u9 : DataW.trod enc Try.prog W 0 (fun _ => true) true n 4 [v9] = some y9 := hfs 9 _ rfl
  have u10 : DataW.trod enc Try.prog W 0 (fun _ => true) true n 23 [v10] = some y10 := hfs 10 _ rfl
  have u11 : DataW.trod enc Try.prog W 0 (fun _ => true) true n 24 [v11] = some y11 := hfs 11 _ rfl
  obtain ⟨bo, e9, _⟩ := DataW.trod_bool Try.underlying4 u9
  obtain ⟨ea, el, ec, e10⟩ := Joins.slice_form Try.underlying23 u10
  obtain ⟨da, dl, dc, e11⟩ := Joins.slice_form Try.underlying24 u11
  simp only [List.cons.injEq, and_true] at e0 e1 e2 e3 e4 e5 e6 e7 e8 e9 e10 e11
  subst e0 e1 e2 e3 e4 e5 e6 e7 e8 e9 e10 e11
  have hdd : d = .agg [y0.1, y1.1, y2.1, y3.1, y4.1, y5.1, y6.1, y7.1, y8.1, y9.1, y10.1, y11.1] := (Prod.mk.inj hxd).1
  have hwE : ∀ n ∈ y10.1.weights Try.prog 23, n ≤ reachBytes := fun n hn => hw n (by rw [hdd]; simp [DataW.weights, DataW.weightsEach, Try.underlying26, hn])
  have hwD : ∀ n ∈ y11.1.weights Try.prog 24, n ≤ reachBytes := fun n hn => hw n (by rw [hdd]; simp [DataW.weights, DataW.weightsEach, Try.underlying26, hn])
  obtain ⟨es, rfl, h1, h2, h3⟩ := ents_argS (show DataW.Trod enc Try.prog W 0 (fun _ => true) true 23 (.slice ea el ec) y10.1 y10.2 from ⟨n, u10⟩) hwE
  obtain ⟨bs, rfl, hc, hx', hb, hz, hr⟩ := row8 (show DataW.Trod enc Try.prog W 0 (fun _ => true) true 24 (.slice da dl dc) y11.1 y11.2 from ⟨n, u11⟩)
  exact ⟨kd, fr, to, t, ix, lt, cm, hi, ro, bo, ea, ec, es, da, dc, bs, rfl, h1, h2, h3, hc, row8_w hr hwD, hb, hz⟩
end Go.Proofs.Ytcmdckhbejokhaa
