/- Plane: slices.Clone of routes and of targets. -/
import Derived.Test.YtcmiappiocfbiaaGreatDoorPlj
namespace Go.Proofs.YtcmiappiocfbiaaGreatDoor
open Go.ChangeShapes Go.WideShapes Go.ChangeAt Go.RowKit
set_option linter.unusedVariables false

theorem wpList_cloneG {w : World} {ops : Array Oper} {o : Oper} {rest : List Oper} {a : Act} {Q : Exit → Act → World → Prop} (hgd : o.guard = none) (s x : Operand) (t e : TypeId)
    (ho : o.op = .call { callee := .builtin .append, args := #[s, x], argTypes := #[t, t] })
    (i : TypeInfo) (z : Value) (size bytes : Nat) (ht : Tryz.prog.underlying t = some (.slice e)) (hi : Tryz.prog.info? e = some i) (hz : i.zero = some z) (hsize : i.size = size) (hby : i.bytes = bytes) (hzs : z.cells.size = size) (hsz : 0 < size)
    (E : Nat) (hs : a.eval s = .slice (some ⟨E, 0, none⟩) 0 0) (hE : w.heap[E]? = some (.cells #[] e (0, 0))) (ad : Option Addr) (m c : Nat) (hx : a.eval x = .slice ad m c) (hn : ad = none → m = 0 ∧ c = 0) (news : List Value) (hl : news.length = m * size)
    (hnews : ∀ b, ad = some b → ∀ j u, news[j]? = some u → w.cell? (b.add j) = some u) (h1 : ∀ u ∈ news, u.oneCell' = true) (hm : m ≤ 1000) (hbytes : m * bytes ≤ 140737488355328)
    (hk : ∀ g c' w', w'.ownsRow E e size (.slice (some ⟨g, 0, none⟩) m c') m news → w.grownBy w' (some E) → (g = E ∨ g = w.heap.size) → wpList Tryz.prog ops Q rest (a.put o.dst (.slice (some ⟨g, 0, none⟩) m c')) w') :
    wpList Tryz.prog ops Q (o :: rest) a w := by
  refine wpList_plain hgd fun K hK => ?_
  obtain ⟨g, c', w', hrun, h2, h3, h4⟩ := run_cloneG t o.type e i z size bytes ht hi hz hsize hby hzs hsz E hE ad m c hn news hl hnews h1 hm hbytes
  unfold Oper.wp
  simp [execOp, ho, resolve, invoke, builtin, hs, hx, hrun, Result.andThen]
  exact hK _ _ (hk g c' w' h2 h3 h4)
theorem eqNilR_some (ad : Addr) (n c : Nat) (w : World) : (binOp .eql 25 (.slice (some ad) n c) (.slice none 0 0)).run Tryz.prog w = .ok (.bool false) w := by kernel_rfl
theorem eqNilR_none (n c : Nat) (w : World) : (binOp .eql 25 (.slice none n c) (.slice none 0 0)).run Tryz.prog w = .ok (.bool true) w := by kernel_rfl
theorem eqNilT_some (ad : Addr) (n c : Nat) (w : World) : (binOp .eql 37 (.slice (some ad) n c) (.slice none 0 0)).run Tryz.prog w = .ok (.bool false) w := by kernel_rfl
theorem eqNilT_none (n c : Nat) (w : World) : (binOp .eql 37 (.slice none n c) (.slice none 0 0)).run Tryz.prog w = .ok (.bool true) w := by kernel_rfl
set_option maxRecDepth 20000 in
set_option maxHeartbeats 4000000 in
theorem cloneR_calls (w : World) (a : Option Addr) (c : Nat) (l : List Rt) (h : RtsAt w a l) (hm : l.length ≤ 1000) :
    Calls Tryz.prog 27 #[.slice a l.length c] w fun e w' => ∃ a' c', e = .returned (.slice a' l.length c') ∧ RtsAt w' a' l ∧ l.length ≤ c' ∧ (a' = none → c' = 0) ∧ (∀ g o s, a' = some ⟨g, o, s⟩ → w.heap.size ≤ g) ∧ Below w.heap.size w w' := by
  cases a with
  | none =>
    have h0 := h.nil
    obtain rfl := List.eq_nil_of_length_eq_zero h0
    have hq := eqNilR_none 0 c w
    have H := hide h
    clear h h0 hm
    simp only [List.length_nil]
    go_enter Tryz.func27, Tryz.ntmps27
    go_wp2
    go_ret
    exact ⟨none, 0, rfl, unhide H, by simp, fun _ => rfl, (fun g o s e => by cases e), Below.refl _ _⟩
  | some ad =>
    have hq := eqNilR_some ad l.length c w
    have b1 := hide (show Below w.heap.size w (w.alloc (.cells #[] 65)) from (Below.refl _ _).alloc (Nat.le_refl _) _)
    have H1 := hide (h.later (unhide b1))
    have HL := hide hm
    have HI := infoRt
    obtain ⟨i0, hi, hio⟩ := Option.map_eq_some_iff.1 HI
    simp only [Prod.mk.injEq] at hio
    obtain ⟨i1, i2, i3⟩ := hio
    have I0 := hide hi
    have I1 := hide i1
    have I2 := hide i2
    have I3 := hide i3
    clear h hm HI hi i1 i2 i3
    go_enter Tryz.func27, Tryz.ntmps27
    go_wp2_with (at_builtin; refine unhide ?_)
    refine hide ?_
    refine wpList_cloneG rfl (.tmp 5) (.tmp 6) 25 65 rfl i0 _ 3 48 Tryz.underlying25 (unhide I0) (unhide I1) (unhide I2) (unhide I3) rfl (by omega) w.heap.size rfl (heap_new w _) (some ad) l.length c rfl (fun e => by cases e) (rowsR l) (rowsR_length l) (unhide H1).news (rt_oneCell l) (unhide HL) (by have := unhide HL; omega) ?_
    intro g c' W2 ho hg hge
    have B2 := hide ((unhide b1).grown hg (unhide b1).size (fun g hg => by have := Option.some.inj hg; omega))
    have O2 := hide (own_routes ho (unhide H1).sz)
    have GE := hide (show w.heap.size ≤ g by rcases hge with e | e <;> have := (unhide b1).size <;> omega)
    clear ho hg hge
    go_wp2
    go_ret
    exact ⟨some ⟨g, 0, none⟩, c', rfl, (unhide O2).1, (unhide O2).2, (fun e => by cases e), fun g' o s e => (by cases e; exact unhide GE), unhide B2⟩
set_option maxRecDepth 20000 in
set_option maxHeartbeats 4000000 in
theorem cloneT_calls (w : World) (a : Option Addr) (c : Nat) (l : List Tg) (h : TgsAt w a l) (hm : l.length ≤ 1000) :
    Calls Tryz.prog 29 #[.slice a l.length c] w fun e w' => ∃ a' c', e = .returned (.slice a' l.length c') ∧ OwnT w.heap.size w' a' c' l ∧ Below w.heap.size w w' := by
  cases a with
  | none =>
    have h0 := h.nil
    obtain rfl := List.eq_nil_of_length_eq_zero h0
    have hq := eqNilT_none 0 c w
    have H := hide h
    clear h h0 hm
    simp only [List.length_nil]
    go_enter Tryz.func29, Tryz.ntmps29
    go_wp2
    go_ret
    exact ⟨none, 0, rfl, OwnT.ofNil _ _, Below.refl _ _⟩
  | some ad =>
    have hq := eqNilT_some ad l.length c w
    have b1 := hide (show Below w.heap.size w (w.alloc (.cells #[] 41)) from (Below.refl _ _).alloc (Nat.le_refl _) _)
    have H1 := hide (h.later (unhide b1))
    have HL := hide hm
    have HI := infoT
    obtain ⟨i0, hi, hio⟩ := Option.map_eq_some_iff.1 HI
    simp only [Prod.mk.injEq] at hio
    obtain ⟨i1, i2, i3⟩ := hio
    have I0 := hide hi
    have I1 := hide i1
    have I2 := hide i2
    have I3 := hide i3
    clear h hm HI hi i1 i2 i3
    go_enter Tryz.func29, Tryz.ntmps29
    go_wp2_with (at_builtin; refine unhide ?_)
    refine hide ?_
    refine wpList_cloneG rfl (.tmp 5) (.tmp 6) 37 41 rfl i0 _ 2 24 Tryz.underlying37 (unhide I0) (unhide I1) (unhide I2) (unhide I3) rfl (by omega) w.heap.size rfl (heap_new w _) (some ad) l.length c rfl (fun e => by cases e) (rowsT l) (rowsT_length l) (unhide H1).news (tg_oneCell l) (unhide HL) (by have := unhide HL; omega) ?_
    intro g c' W2 ho hg hge
    have B2 := hide ((unhide b1).grown hg (unhide b1).size (fun g hg => by have := Option.some.inj hg; omega))
    have O2 := hide (show OwnT w.heap.size W2 (some ⟨g, 0, none⟩) c' l from ho)
    have GE := hide (show w.heap.size ≤ g by rcases hge with e | e <;> have := (unhide b1).size <;> omega)
    clear ho hg hge
    go_wp2
    go_ret
    exact ⟨some ⟨g, 0, none⟩, c', rfl, unhide O2, unhide B2⟩
/-- A pool's row: its name, and where its targets lie. -/
structure Pr where
  nm : ByteArray
  ta : Option Addr
  tn : Nat
  tc : Nat
def prRow (x : Pr) : List Value := [.string x.nm, .slice x.ta x.tn x.tc]
def rowsPr (l : List Pr) : List Value := l.flatMap prRow
theorem rowsPr_length (l : List Pr) : (rowsPr l).length = l.length * 2 := by
  induction l with
  | nil => rfl
  | cons x xs ih =>
    simp only [rowsPr, List.flatMap_cons, List.length_append, List.length_cons] at ih ⊢
    rw [ih, show (prRow x).length = 2 from rfl]
    omega
theorem rowsPr_get : ∀ (xs : List Pr) (i f : Nat) (hi : i < xs.length) (_ : f < 2), (rowsPr xs)[i * 2 + f]? = (prRow xs[i])[f]?
  | [], i, _, hi, _ => by simp at hi
  | x :: xs, 0, f, _, hf => by
    simp only [rowsPr, List.flatMap_cons, Nat.zero_mul, Nat.zero_add, List.getElem_cons_zero]
    rw [List.getElem?_append_left (show f < (prRow x).length from hf)]
  | x :: xs, i + 1, f, hi, hf => by
    have ih := rowsPr_get xs i f (by simpa using hi) hf
    simp only [rowsPr, List.flatMap_cons, List.getElem_cons_succ] at ih ⊢
    rw [List.getElem?_append_right (by rw [show (prRow x).length = 2 from rfl]; omega)]
    have e4 : (i + 1) * 2 + f - (prRow x).length = i * 2 + f := by rw [show (prRow x).length = 2 from rfl]; omega
    rw [e4]
    exact ih
theorem pr_oneCell (l : List Pr) : ∀ u ∈ rowsPr l, u.oneCell' = true := by
  intro u hu
  obtain ⟨x, _, hx⟩ := List.mem_flatMap.1 hu
  simp only [prRow, List.mem_cons, List.not_mem_nil, or_false] at hx
  rcases hx with rfl | rfl <;> rfl
structure PrsAt (w : World) (a : Option Addr) (l : List Pr) : Prop where
  cell : ∀ i (hi : i < l.length), ∃ b off, a = some ⟨b, off, none⟩ ∧ w.cell? ⟨b, off + i * 2, none⟩ = some (.string l[i].nm) ∧ w.cell? ⟨b, off + i * 2 + 1, none⟩ = some (.slice l[i].ta l[i].tn l[i].tc)
theorem PrsAt.later {w w' : World} {a : Option Addr} {l : List Pr} (h : PrsAt w a l) (hb : Below w.heap.size w w') : PrsAt w' a l :=
  ⟨fun i hi => by obtain ⟨b, off, e, h1, h2⟩ := h.cell i hi; exact ⟨b, off, e, cell_later hb h1, cell_later hb h2⟩⟩
theorem PrsAt.nil {w : World} {l : List Pr} (h : PrsAt w none l) : l.length = 0 := by
  rcases Nat.eq_zero_or_pos l.length with h0 | h0
  · exact h0
  · obtain ⟨b, off, e, _⟩ := h.cell 0 h0
    cases e
theorem PrsAt.news {w : World} {a : Option Addr} {l : List Pr} (h : PrsAt w a l) (b : Addr) (hb : a = some b) : ∀ j u, (rowsPr l)[j]? = some u → w.cell? (b.add j) = some u := by
  intro j u hu
  have hj : j < l.length * 2 := by rw [← rowsPr_length]; exact (List.getElem?_eq_some_iff.1 hu).1
  obtain ⟨i, f, hi, hf, rfl⟩ := divmod (by omega) hj
  rw [rowsPr_get l i f hi hf] at hu
  obtain ⟨b', off, e, h0, h1⟩ := h.cell i hi
  rw [hb] at e
  cases e
  have hf' : f = 0 ∨ f = 1 := by omega
  rw [Addr.add_lit, ← Nat.add_assoc]
  rcases hf' with rfl | rfl
  · rw [show u = .string l[i].nm from by simpa [prRow] using hu.symm]; exact h0
  · rw [show u = .slice l[i].ta l[i].tn l[i].tc from by simpa [prRow] using hu.symm]; exact h1
/-- Pools of one's own, their targets wherever they lie. -/
def OwnPr (base : Nat) (w : World) (sp : Option Addr) (c : Nat) (l : List Pr) : Prop := w.ownsRow base 39 2 (.slice sp l.length c) l.length (rowsPr l)
theorem OwnPr.ofNil (base : Nat) (w : World) : OwnPr base w none 0 [] := w.ownsRow_nil base 39 2
theorem eqNilP_some (ad : Addr) (n c : Nat) (w : World) : (binOp .eql 26 (.slice (some ad) n c) (.slice none 0 0)).run Tryz.prog w = .ok (.bool false) w := by kernel_rfl
theorem eqNilP_none (n c : Nat) (w : World) : (binOp .eql 26 (.slice none n c) (.slice none 0 0)).run Tryz.prog w = .ok (.bool true) w := by kernel_rfl
set_option maxRecDepth 20000 in
set_option maxHeartbeats 4000000 in
theorem cloneP_calls (w : World) (a : Option Addr) (c : Nat) (l : List Pr) (h : PrsAt w a l) (hm : l.length ≤ 1000) :
    Calls Tryz.prog 28 #[.slice a l.length c] w fun e w' => ∃ a' c', e = .returned (.slice a' l.length c') ∧ OwnPr w.heap.size w' a' c' l ∧ Below w.heap.size w w' := by
  cases a with
  | none =>
    have h0 := h.nil
    obtain rfl := List.eq_nil_of_length_eq_zero h0
    have hq := eqNilP_none 0 c w
    have H := hide h
    clear h h0 hm
    simp only [List.length_nil]
    go_enter Tryz.func28, Tryz.ntmps28
    go_wp2
    go_ret
    exact ⟨none, 0, rfl, OwnPr.ofNil _ _, Below.refl _ _⟩
  | some ad =>
    have hq := eqNilP_some ad l.length c w
    have b1 := hide (show Below w.heap.size w (w.alloc (.cells #[] 39)) from (Below.refl _ _).alloc (Nat.le_refl _) _)
    have H1 := hide (h.later (unhide b1))
    have HL := hide hm
    have HI := infoPo
    obtain ⟨i0, hi, hio⟩ := Option.map_eq_some_iff.1 HI
    simp only [Prod.mk.injEq] at hio
    obtain ⟨i1, i2, i3⟩ := hio
    have I0 := hide hi
    have I1 := hide i1
    have I2 := hide i2
    have I3 := hide i3
    clear h hm HI hi i1 i2 i3
    go_enter Tryz.func28, Tryz.ntmps28
    go_wp2_with (at_builtin; refine unhide ?_)
    refine hide ?_
    refine wpList_cloneG rfl (.tmp 5) (.tmp 6) 26 39 rfl i0 _ 2 40 Tryz.underlying26 (unhide I0) (unhide I1) (unhide I2) (unhide I3) rfl (by omega) w.heap.size rfl (heap_new w _) (some ad) l.length c rfl (fun e => by cases e) (rowsPr l) (rowsPr_length l) (unhide H1).news (pr_oneCell l) (unhide HL) (by have := unhide HL; omega) ?_
    intro g c' W2 ho hg hge
    have B2 := hide ((unhide b1).grown hg (unhide b1).size (fun g hg => by have := Option.some.inj hg; omega))
    have O2 := hide (show OwnPr w.heap.size W2 (some ⟨g, 0, none⟩) c' l from ho)
    have GE := hide (show w.heap.size ≤ g by rcases hge with e | e <;> have := (unhide b1).size <;> omega)
    clear ho hg hge
    go_wp2
    go_ret
    exact ⟨some ⟨g, 0, none⟩, c', rfl, unhide O2, unhide B2⟩
end Go.Proofs.YtcmiappiocfbiaaGreatDoor
