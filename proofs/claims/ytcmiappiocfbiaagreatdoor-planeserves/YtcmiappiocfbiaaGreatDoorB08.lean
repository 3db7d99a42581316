/- Plane: slices.Clone of routes and of targets. -/
import Derived.Test.YtcmiappiocfbiaaGreatDoorB07
import Derived.Test.YtcmiappiocfbiaaGreatDoorB02
section
namespace Go.Proofs.YtcmiappiocfbiaaGreatDoor
open Go.ChangeShapes Go.WideShapes Go.ChangeAt Go.RowKit
set_option linter.unusedVariables false

theorem wpList_cloneG {w : World} {ops : Array Oper} {o : Oper} {rest : List Oper} {a : Act} {Q : Exit → Act → World → Prop} (hgd : o.guard = none) (s x : Operand) (t e : TypeId)
    (ho : o.op = .call { callee := .builtin .append, args := #[s, x], argTypes := #[t, t] })
    (i : TypeInfo) (z : Value) (size bytes : Nat) (ht : Tryz.prog.underlying t = some (.slice e)) (hi : Tryz.prog.info? e = some i) (hz : i.zero = some z) (hsize : i.size = size) (hby : i.bytes = bytes) (hzs : z.cells.size = size) (hsz : 0 < size)
    (E : Nat) (hs : a.eval s = .slice (some ⟨E, 0, none⟩) 0 0) (hE : w.heap[E]? = some (.cells #[] e (0, 0))) (ad : Option Addr) (m c : Nat) (hx : a.eval x = .slice ad m c) (hn : ad = none → m = 0 ∧ c = 0) (news : List Value) (hl : news.length = m * size)
    (hnews : ∀ b, ad = some b → ∀ j u, news[j]? = some u → w.cell? (b.add j) = some u) (h1 : ∀ u ∈ news, u.oneCell' = true) (hm : m ≤ 1000) (hbytes : m * bytes ≤ 140737488355328)
    (hk : ∀ g c' w', w'.ownsRow E e size (.slice (some ⟨g, 0, none⟩) m c') m news → w.grownBy w' (some E) → (g = E ∨ g = w.heap.size) → wpList Tryz.prog ops Q rest (a.put o.dst (.slice (some ⟨g, 0, none⟩) m c')) w') :
    wpList Tryz.prog ops Q (o :: rest) a w := by
  refine wpList_plain hgd fun K hK => ?_
  obtain ⟨g, c', w', hrun, h2, h3, h4⟩ := run_cloneG t o.type e i z size bytes ht hi hz hsize hby hzs hsz E hE ad m c hn news hl hnews h1 hm hbytes
  unfold Oper.wp
  simp [execOp, ho, resolve, invoke, builtin, hs, hx, hrun, Result.andThen]
  exact hK _ _ (hk g c' w' h2 h3 h4)
theorem eqNilR_some (ad : Addr) (n c : Nat) (w : World) : (binOp .eql 25 (.slice (some ad) n c) (.slice none 0 0)).run Tryz.prog w = .ok (.bool false) w := by kernel_rfl
theorem eqNilR_none (n c : Nat) (w : World) : (binOp .eql 25 (.slice none n c) (.slice none 0 0)).run Tryz.prog w = .ok (.bool true) w := by kernel_rfl
theorem eqNilT_some (ad : Addr) (n c : Nat) (w : World) : (binOp .eql 37 (.slice (some ad) n c) (.slice none 0 0)).run Tryz.prog w = .ok (.bool false) w := by kernel_rfl
theorem eqNilT_none (n c : Nat) (w : World) : (binOp .eql 37 (.slice none n c) (.slice none 0 0)).run Tryz.prog w = .ok (.bool true) w := by kernel_rfl
set_option maxRecDepth 20000 in
set_option maxHeartbeats 4000000 in
theorem cloneR_calls (w : World) (a : Option Addr) (c : Nat) (l : List Rt) (h : RtsAt w a l) (hm : l.length ≤ 1000) :
    Calls Tryz.prog 27 #[.slice a l.length c] w fun e w' => ∃ a' c', e = .returned (.slice a' l.length c') ∧ RtsAt w' a' l ∧ l.length ≤ c' ∧ (a' = none → c' = 0) ∧ (∀ g o s, a' = some ⟨g, o, s⟩ → w.heap.size ≤ g) ∧ Below w.heap.size w w' := by
  cases a with
  | none =>
    have h0 := h.nil
    obtain rfl := List.eq_nil_of_length_eq_zero h0
    have hq := eqNilR_none 0 c w
    have H := hide h
    clear h h0 hm
    simp only [List.length_nil]
    go_enter Tryz.func27, Tryz.ntmps27
    go_wp2
    go_ret
    exact ⟨none, 0, rfl, unhide H, by simp, fun _ => rfl, (fun g o s e => by cases e), Below.refl _ _⟩
  | some ad =>
    have hq := eqNilR_some ad l.length c w
    have b1 := hide (show Below w.heap.size w (w.alloc (.cells #[] 65)) from (Below.refl _ _).alloc (Nat.le_refl _) _)
    have H1 := hide (h.later (unhide b1))
    have HL := hide hm
    have HI := infoRt
    obtain ⟨i0, hi, hio⟩ := Option.map_eq_some_iff.1 HI
    simp only [Prod.mk.injEq] at hio
    obtain ⟨i1, i2, i3⟩ := hio
    have I0 := hide hi
    have I1 := hide i1
    have I2 := hide i2
    have I3 := hide i3
    clear h hm HI hi i1 i2 i3
    go_enter Tryz.func27, Tryz.ntmps27
    go_wp2_with (at_builtin; refine unhide ?_)
    refine hide ?_
    refine wpList_cloneG rfl (.tmp 5) (.tmp 6) 25 65 rfl i0 _ 3 48 Tryz.underlying25 (unhide I0) (unhide I1) (unhide I2) (unhide I3) rfl (by omega) w.heap.size rfl (heap_new w _) (some ad) l.length c rfl (fun e => by cases e) (rowsR l) (rowsR_length l) (unhide H1).news (rt_oneCell l) (unhide HL) (by have := unhide HL; omega) ?_
    intro g c' W2 ho hg hge
    have B2 := hide ((unhide b1).grown hg (unhide b1).size (fun g hg => by have := Option.some.inj hg; omega))
    have O2 := hide (own_routes ho (unhide H1).sz)
    have GE := hide (show w.heap.size ≤ g by rcases hge with e | e <;> have := (unhide b1).size <;> omega)
    clear ho hg hge
    go_wp2
    go_ret
    exact ⟨some ⟨g, 0, none⟩, c', rfl, (unhide O2).1, (unhide O2).2, (fun e => by cases e), fun g' o s e => (by cases e; exact unhide GE), unhide B2⟩
set_option maxRecDepth 20000 in
set_option maxHeartbeats 4000000 in
theorem cloneT_calls (w : World) (a : Option Addr) (c : Nat) (l : List Tg) (h : TgsAt w a l) (hm : l.length ≤ 1000) :
    Calls Tryz.prog 29 #[.slice a l.length c] w fun e w' => ∃ a' c', e = .returned (.slice a' l.length c') ∧ OwnT w.heap.size w' a' c' l ∧ Below w.heap.size w w' := by
  cases a with
  | none =>
    have h0 := h.nil
    obtain rfl := List.eq_nil_of_length_eq_zero h0
    have hq := eqNilT_none 0 c w
    have H := hide h
    clear h h0 hm
    simp only [List.length_nil]
    go_enter Tryz.func29, Tryz.ntmps29
    go_wp2
    go_ret
    exact ⟨none, 0, rfl, OwnT.ofNil _ _, Below.refl _ _⟩
  | some ad =>
    have hq := eqNilT_some ad l.length c w
    have b1 := hide (show Below w.heap.size w (w.alloc (.cells #[] 41)) from (Below.refl _ _).alloc (Nat.le_refl _) _)
    have H1 := hide (h.later (unhide b1))
    have HL := hide hm
    have HI := infoT
    obtain ⟨i0, hi, hio⟩ := Option.map_eq_some_iff.1 HI
    simp only [Prod.mk.injEq] at hio
    obtain ⟨i1, i2, i3⟩ := hio
    have I0 := hide hi
    have I1 := hide i1
    have I2 := hide i2
    have I3 := hide i3
    clear h hm HI hi i1 i2 i3
    go_enter Tryz.func29, Tryz.ntmps29
    go_wp2_with (at_builtin; refine unhide ?_)
    refine hide ?_
    refine wpList_cloneG rfl (.tmp 5) (.tmp 6) 37 41 rfl i0 _ 2 24 Tryz.underlying37 (unhide I0) (unhide I1) (unhide I2) (unhide I3) rfl (by omega) w.heap.size rfl (heap_new w _) (some ad) l.length c rfl (fun e => by cases e) (rowsT l) (rowsT_length l) (unhide H1).news (tg_oneCell l) (unhide HL) (by have := unhide HL; omega) ?_
    intro g c' W2 ho hg hge
    have B2 := hide ((unhide b1).grown hg (unhide b1).size (fun g hg => by have := Option.some.inj hg; omega))
    have O2 := hide (show OwnT w.heap.size W2 (some ⟨g, 0, none⟩) c' l from ho)
    have GE := hide (show w.heap.size ≤ g by rcases hge with e | e <;> have := (unhide b1).size <;> omega)
    clear ho hg hge
    go_wp2
    go_ret
    exact ⟨some ⟨g, 0, none⟩, c', rfl, unhide O2, unhide B2⟩
/-- A pool's row: its name, and where its targets lie. -/
structure Pr where
  nm : ByteArray
  ta : Option Addr
  tn : Nat
  tc : Nat
def prRow (x : Pr) : List Value := [.string x.nm, .slice x.ta x.tn x.tc]
def rowsPr (l : List Pr) : List Value := l.flatMap prRow
theorem rowsPr_length (l : List Pr) : (rowsPr l).length = l.length * 2 := by
  induction l with
  | nil => rfl
  | cons x xs ih =>
    simp only [rowsPr, List.flatMap_cons, List.length_append, List.length_cons] at ih ⊢
    rw [ih, show (prRow x).length = 2 from rfl]
    omega
theorem rowsPr_get : ∀ (xs : List Pr) (i f : Nat) (hi : i < xs.length) (_ : f < 2), (rowsPr xs)[i * 2 + f]? = (prRow xs[i])[f]?
  | [], i, _, hi, _ => by simp at hi
  | x :: xs, 0, f, _, hf => by
    simp only [rowsPr, List.flatMap_cons, Nat.zero_mul, Nat.zero_add, List.getElem_cons_zero]
    rw [List.getElem?_append_left (show f < (prRow x).length from hf)]
  | x :: xs, i + 1, f, hi, hf => by
    have ih := rowsPr_get xs i f (by simpa using hi) hf
    simp only [rowsPr, List.flatMap_cons, List.getElem_cons_succ] at ih ⊢
    rw [List.getElem?_append_right (by rw [show (prRow x).length = 2 from rfl]; omega)]
    have e4 : (i + 1) * 2 + f - (prRow x).length = i * 2 + f := by rw [show (prRow x).length = 2 from rfl]; omega
    rw [e4]
    exact ih
theorem pr_oneCell (l : List Pr) : ∀ u ∈ rowsPr l, u.oneCell' = true := by
  intro u hu
  obtain ⟨x, _, hx⟩ := List.mem_flatMap.1 hu
  simp only [prRow, List.mem_cons, List.not_mem_nil, or_false] at hx
  rcases hx with rfl | rfl <;> rfl
structure PrsAt (w : World) (a : Option Addr) (l : List Pr) : Prop where
  cell : ∀ i (hi : i < l.length), ∃ b off, a = some ⟨b, off, none⟩ ∧ w.cell? ⟨b, off + i * 2, none⟩ = some (.string l[i].nm) ∧ w.cell? ⟨b, off + i * 2 + 1, none⟩ = some (.slice l[i].ta l[i].tn l[i].tc)
theorem PrsAt.later {w w' : World} {a : Option Addr} {l : List Pr} (h : PrsAt w a l) (hb : Below w.heap.size w w') : PrsAt w' a l :=
  ⟨fun i hi => by obtain ⟨b, off, e, h1, h2⟩ := h.cell i hi; exact ⟨b, off, e, cell_later hb h1, cell_later hb h2⟩⟩
theorem PrsAt.nil {w : World} {l : List Pr} (h : PrsAt w none l) : l.length = 0 := by
  rcases Nat.eq_zero_or_pos l.length with h0 | h0
  · exact h0
  · obtain ⟨b, off, e, _⟩ := h.cell 0 h0
    cases e
theorem PrsAt.news {w : World} {a : Option Addr} {l : List Pr} (h : PrsAt w a l) (b : Addr) (hb : a = some b) : ∀ j u, (rowsPr l)[j]? = some u → w.cell? (b.add j) = some u := by
  intro j u hu
  have hj : j < l.length * 2 := by rw [← rowsPr_length]; exact (List.getElem?_eq_some_iff.1 hu).1
  obtain ⟨i, f, hi, hf, rfl⟩ := divmod (by omega) hj
  rw [rowsPr_get l i f hi hf] at hu
  obtain ⟨b', off, e, h0, h1⟩ := h.cell i hi
  rw [hb] at e
  cases e
  have hf' : f = 0 ∨ f = 1 := by omega
  rw [Addr.add_lit, ← Nat.add_assoc]
  rcases hf' with rfl | rfl
  · rw [show u = .string l[i].nm from by simpa [prRow] using hu.symm]; exact h0
  · rw [show u = .slice l[i].ta l[i].tn l[i].tc from by simpa [prRow] using hu.symm]; exact h1
/-- Pools of one's own, their targets wherever they lie. -/
def OwnPr (base : Nat) (w : World) (sp : Option Addr) (c : Nat) (l : List Pr) : Prop := w.ownsRow base 39 2 (.slice sp l.length c) l.length (rowsPr l)
theorem OwnPr.ofNil (base : Nat) (w : World) : OwnPr base w none 0 [] := w.ownsRow_nil base 39 2
theorem eqNilP_some (ad : Addr) (n c : Nat) (w : World) : (binOp .eql 26 (.slice (some ad) n c) (.slice none 0 0)).run Tryz.prog w = .ok (.bool false) w := by kernel_rfl
theorem eqNilP_none (n c : Nat) (w : World) : (binOp .eql 26 (.slice none n c) (.slice none 0 0)).run Tryz.prog w = .ok (.bool true) w := by kernel_rfl
set_option maxRecDepth 20000 in
set_option maxHeartbeats 4000000 in
theorem cloneP_calls (w : World) (a : Option Addr) (c : Nat) (l : List Pr) (h : PrsAt w a l) (hm : l.length ≤ 1000) :
    Calls Tryz.prog 28 #[.slice a l.length c] w fun e w' => ∃ a' c', e = .returned (.slice a' l.length c') ∧ OwnPr w.heap.size w' a' c' l ∧ Below w.heap.size w w' := by
  cases a with
  | none =>
    have h0 := h.nil
    obtain rfl := List.eq_nil_of_length_eq_zero h0
    have hq := eqNilP_none 0 c w
    have H := hide h
    clear h h0 hm
    simp only [List.length_nil]
    go_enter Tryz.func28, Tryz.ntmps28
    go_wp2
    go_ret
    exact ⟨none, 0, rfl, OwnPr.ofNil _ _, Below.refl _ _⟩
  | some ad =>
    have hq := eqNilP_some ad l.length c w
    have b1 := hide (show Below w.heap.size w (w.alloc (.cells #[] 39)) from (Below.refl _ _).alloc (Nat.le_refl _) _)
    have H1 := hide (h.later (unhide b1))
    have HL := hide hm
    have HI := infoPo
    obtain ⟨i0, hi, hio⟩ := Option.map_eq_some_iff.1 HI
    simp only [Prod.mk.injEq] at hio
    obtain ⟨i1, i2, i3⟩ := hio
    have I0 := hide hi
    have I1 := hide i1
    have I2 := hide i2
    have I3 := hide i3
    clear h hm HI hi i1 i2 i3
    go_enter Tryz.func28, Tryz.ntmps28
    go_wp2_with (at_builtin; refine unhide ?_)
    refine hide ?_
    refine wpList_cloneG rfl (.tmp 5) (.tmp 6) 26 39 rfl i0 _ 2 40 Tryz.underlying26 (unhide I0) (unhide I1) (unhide I2) (unhide I3) rfl (by omega) w.heap.size rfl (heap_new w _) (some ad) l.length c rfl (fun e => by cases e) (rowsPr l) (rowsPr_length l) (unhide H1).news (pr_oneCell l) (unhide HL) (by have := unhide HL; omega) ?_
    intro g c' W2 ho hg hge
    have B2 := hide ((unhide b1).grown hg (unhide b1).size (fun g hg => by have := Option.some.inj hg; omega))
    have O2 := hide (show OwnPr w.heap.size W2 (some ⟨g, 0, none⟩) c' l from ho)
    have GE := hide (show w.heap.size ≤ g by rcases hge with e | e <;> have := (unhide b1).size <;> omega)
    clear ho hg hge
    go_wp2
    go_ret
    exact ⟨some ⟨g, 0, none⟩, c', rfl, unhide O2, unhide B2⟩
end Go.Proofs.YtcmiappiocfbiaaGreatDoor
end
/- Heads: what a letter may stand in; whether all letters of a text are such. -/
section
namespace Go.Proofs.YtcmiappiocfbiaaGreatDoor
open Go.ChangeShapes Go.WideShapes Go.ChangeAt Go.RowKit
set_option linter.unusedVariables false

def ks1 : ByteArray := ⟨#[35, 37, 94, 96, 124]⟩
def ks2 : ByteArray := ⟨#[33, 36, 38, 39, 42, 43, 46, 95, 126]⟩
def ks3 : ByteArray := ⟨#[47, 40, 41, 44, 59, 61, 58, 64]⟩
theorem ks1_is (c : Int) : inS ks1.data.toList c = decide (c = 35 ∨ c = 37 ∨ c = 94 ∨ c = 96 ∨ c = 124) := by
  rw [Bool.eq_iff_iff]; simp [inS, ks1]; omega
theorem ks2_is (c : Int) : inS ks2.data.toList c = decide (c = 33 ∨ c = 36 ∨ c = 38 ∨ c = 39 ∨ c = 42 ∨ c = 43 ∨ c = 46 ∨ c = 95 ∨ c = 126) := by
  rw [Bool.eq_iff_iff]; simp [inS, ks2]; omega
theorem ks3_is (c : Int) : inS ks3.data.toList c = decide (c = 47 ∨ c = 40 ∨ c = 41 ∨ c = 44 ∨ c = 59 ∨ c = 61 ∨ c = 58 ∨ c = 64) := by
  rw [Bool.eq_iff_iff]; simp [inS, ks3]; omega
theorem between_yes (c lo hi : Int) (w : World) (h : lo ≤ c ∧ c ≤ hi) : Calls Tryz.prog 131 #[.int .i32 c, .int .i32 lo, .int .i32 hi] w fun e w' => e = .returned (.bool true) ∧ w' = w := by
  have := between_calls c lo hi w
  rwa [decide_eq_true h] at this
theorem between_no (c lo hi : Int) (w : World) (h : ¬ (lo ≤ c ∧ c ≤ hi)) : Calls Tryz.prog 131 #[.int .i32 c, .int .i32 lo, .int .i32 hi] w fun e w' => e = .returned (.bool false) ∧ w' = w := by
  have := between_calls c lo hi w
  rwa [decide_eq_false h] at this
set_option maxRecDepth 20000 in
set_option maxHeartbeats 4000000 in
theorem kinds_0a (c : Nat) (hc : c < 128) (w : World) (h0 : c = 35 ∨ c = 37 ∨ c = 94 ∨ c = 96 ∨ c = 124) : Calls Tryz.prog 120 #[.int .i32 (c : Int)] w fun e w' => e = .returned (.int .i64 72) ∧ w' = w := by
  have R1 := hide (hasRune_lo ks1 c w (by omega) (by omega))
  have R2 := hide (hasRune_lo ks2 c w (by omega) (by omega))
  have R3 := hide (hasRune_lo ks3 c w (by omega) (by omega))
  rw [ks1_is, decide_eq_true (by omega)] at R1
  rw [ks2_is, decide_eq_false (by omega)] at R2
  rw [ks3_is, decide_eq_false (by omega)] at R3
  have n45 : ((c : Int) == 45) = false := by simp; omega
  have n63 : ((c : Int) == 63) = false := by simp; omega
  have n9 : ((c : Int) == 9) = false := by simp; omega
  have n127 : ¬ (127 : Int) < (c : Int) := by omega
  go_enter Tryz.func120, Tryz.ntmps120
  go_wp2_with (first
    | (go_at_call 131; refine (between_yes _ _ _ _ (by omega)).mono ?_; rintro e w' ⟨rfl, rfl⟩)
    | (go_at_call 131; refine (between_no _ _ _ _ (by omega)).mono ?_; rintro e w' ⟨rfl, rfl⟩)
    | (go_at_call_of 112 (Value.string { data := #[35, 37, 94, 96, 124] }); refine (unhide R1).mono ?_; rintro e w' ⟨rfl, rfl⟩)
    | (go_at_call_of 112 (Value.string { data := #[33, 36, 38, 39, 42, 43, 46, 95, 126] }); refine (unhide R2).mono ?_; rintro e w' ⟨rfl, rfl⟩)
    | (go_at_call_of 112 (Value.string { data := #[47, 40, 41, 44, 59, 61, 58, 64] }); refine (unhide R3).mono ?_; rintro e w' ⟨rfl, rfl⟩))
  go_ret
  exact ⟨rfl, rfl⟩
set_option maxRecDepth 20000 in
set_option maxHeartbeats 4000000 in
theorem kinds_1a (c : Nat) (hc : c < 128) (w : World) (h0 : ¬ (c = 35 ∨ c = 37 ∨ c = 94 ∨ c = 96 ∨ c = 124))  (h1 : 48 ≤ c ∧ c ≤ 57) : Calls Tryz.prog 120 #[.int .i32 (c : Int)] w fun e w' => e = .returned (.int .i64 127) ∧ w' = w := by
  have R1 := hide (hasRune_lo ks1 c w (by omega) (by omega))
  have R2 := hide (hasRune_lo ks2 c w (by omega) (by omega))
  have R3 := hide (hasRune_lo ks3 c w (by omega) (by omega))
  rw [ks1_is, decide_eq_false (by omega)] at R1
  rw [ks2_is, decide_eq_false (by omega)] at R2
  rw [ks3_is, decide_eq_false (by omega)] at R3
  have n45 : ((c : Int) == 45) = false := by simp; omega
  have n63 : ((c : Int) == 63) = false := by simp; omega
  have n9 : ((c : Int) == 9) = false := by simp; omega
  have n127 : ¬ (127 : Int) < (c : Int) := by omega
  go_enter Tryz.func120, Tryz.ntmps120
  go_wp2_with (first
    | (go_at_call 131; refine (between_yes _ _ _ _ (by omega)).mono ?_; rintro e w' ⟨rfl, rfl⟩)
    | (go_at_call 131; refine (between_no _ _ _ _ (by omega)).mono ?_; rintro e w' ⟨rfl, rfl⟩)
    | (go_at_call_of 112 (Value.string { data := #[35, 37, 94, 96, 124] }); refine (unhide R1).mono ?_; rintro e w' ⟨rfl, rfl⟩)
    | (go_at_call_of 112 (Value.string { data := #[33, 36, 38, 39, 42, 43, 46, 95, 126] }); refine (unhide R2).mono ?_; rintro e w' ⟨rfl, rfl⟩)
    | (go_at_call_of 112 (Value.string { data := #[47, 40, 41, 44, 59, 61, 58, 64] }); refine (unhide R3).mono ?_; rintro e w' ⟨rfl, rfl⟩))
  go_ret
  exact ⟨rfl, rfl⟩
set_option maxRecDepth 20000 in
set_option maxHeartbeats 4000000 in
theorem kinds_2a (c : Nat) (hc : c < 128) (w : World) (h0 : ¬ (c = 35 ∨ c = 37 ∨ c = 94 ∨ c = 96 ∨ c = 124))  (h1 : ¬ (48 ≤ c ∧ c ≤ 57))  (h2 : 97 ≤ c ∧ c ≤ 102) : Calls Tryz.prog 120 #[.int .i32 (c : Int)] w fun e w' => e = .returned (.int .i64 126) ∧ w' = w := by
  have R1 := hide (hasRune_lo ks1 c w (by omega) (by omega))
  have R2 := hide (hasRune_lo ks2 c w (by omega) (by omega))
  have R3 := hide (hasRune_lo ks3 c w (by omega) (by omega))
  rw [ks1_is, decide_eq_false (by omega)] at R1
  rw [ks2_is, decide_eq_false (by omega)] at R2
  rw [ks3_is, decide_eq_false (by omega)] at R3
  have n45 : ((c : Int) == 45) = false := by simp; omega
  have n63 : ((c : Int) == 63) = false := by simp; omega
  have n9 : ((c : Int) == 9) = false := by simp; omega
  have n127 : ¬ (127 : Int) < (c : Int) := by omega
  go_enter Tryz.func120, Tryz.ntmps120
  go_wp2_with (first
    | (go_at_call 131; refine (between_yes _ _ _ _ (by omega)).mono ?_; rintro e w' ⟨rfl, rfl⟩)
    | (go_at_call 131; refine (between_no _ _ _ _ (by omega)).mono ?_; rintro e w' ⟨rfl, rfl⟩)
    | (go_at_call_of 112 (Value.string { data := #[35, 37, 94, 96, 124] }); refine (unhide R1).mono ?_; rintro e w' ⟨rfl, rfl⟩)
    | (go_at_call_of 112 (Value.string { data := #[33, 36, 38, 39, 42, 43, 46, 95, 126] }); refine (unhide R2).mono ?_; rintro e w' ⟨rfl, rfl⟩)
    | (go_at_call_of 112 (Value.string { data := #[47, 40, 41, 44, 59, 61, 58, 64] }); refine (unhide R3).mono ?_; rintro e w' ⟨rfl, rfl⟩))
  go_ret
  exact ⟨rfl, rfl⟩
set_option maxRecDepth 20000 in
set_option maxHeartbeats 4000000 in
theorem kinds_2b (c : Nat) (hc : c < 128) (w : World) (h0 : ¬ (c = 35 ∨ c = 37 ∨ c = 94 ∨ c = 96 ∨ c = 124))  (h1 : ¬ (48 ≤ c ∧ c ≤ 57))  (h2 : ¬ (97 ≤ c ∧ c ≤ 102))  (h3 : 65 ≤ c ∧ c ≤ 70) : Calls Tryz.prog 120 #[.int .i32 (c : Int)] w fun e w' => e = .returned (.int .i64 126) ∧ w' = w := by
  have R1 := hide (hasRune_lo ks1 c w (by omega) (by omega))
  have R2 := hide (hasRune_lo ks2 c w (by omega) (by omega))
  have R3 := hide (hasRune_lo ks3 c w (by omega) (by omega))
  rw [ks1_is, decide_eq_false (by omega)] at R1
  rw [ks2_is, decide_eq_false (by omega)] at R2
  rw [ks3_is, decide_eq_false (by omega)] at R3
  have n45 : ((c : Int) == 45) = false := by simp; omega
  have n63 : ((c : Int) == 63) = false := by simp; omega
  have n9 : ((c : Int) == 9) = false := by simp; omega
  have n127 : ¬ (127 : Int) < (c : Int) := by omega
  go_enter Tryz.func120, Tryz.ntmps120
  go_wp2_with (first
    | (go_at_call 131; refine (between_yes _ _ _ _ (by omega)).mono ?_; rintro e w' ⟨rfl, rfl⟩)
    | (go_at_call 131; refine (between_no _ _ _ _ (by omega)).mono ?_; rintro e w' ⟨rfl, rfl⟩)
    | (go_at_call_of 112 (Value.string { data := #[35, 37, 94, 96, 124] }); refine (unhide R1).mono ?_; rintro e w' ⟨rfl, rfl⟩)
    | (go_at_call_of 112 (Value.string { data := #[33, 36, 38, 39, 42, 43, 46, 95, 126] }); refine (unhide R2).mono ?_; rintro e w' ⟨rfl, rfl⟩)
    | (go_at_call_of 112 (Value.string { data := #[47, 40, 41, 44, 59, 61, 58, 64] }); refine (unhide R3).mono ?_; rintro e w' ⟨rfl, rfl⟩))
  go_ret
  exact ⟨rfl, rfl⟩
set_option maxRecDepth 20000 in
set_option maxHeartbeats 4000000 in
theorem kinds_3a (c : Nat) (hc : c < 128) (w : World) (h0 : ¬ (c = 35 ∨ c = 37 ∨ c = 94 ∨ c = 96 ∨ c = 124))  (h1 : ¬ (48 ≤ c ∧ c ≤ 57))  (h2 : ¬ ((97 ≤ c ∧ c ≤ 102) ∨ (65 ≤ c ∧ c ≤ 70)))  (h3 : 97 ≤ c ∧ c ≤ 122) : Calls Tryz.prog 120 #[.int .i32 (c : Int)] w fun e w' => e = .returned (.int .i64 124) ∧ w' = w := by
  have R1 := hide (hasRune_lo ks1 c w (by omega) (by omega))
  have R2 := hide (hasRune_lo ks2 c w (by omega) (by omega))
  have R3 := hide (hasRune_lo ks3 c w (by omega) (by omega))
  rw [ks1_is, decide_eq_false (by omega)] at R1
  rw [ks2_is, decide_eq_false (by omega)] at R2
  rw [ks3_is, decide_eq_false (by omega)] at R3
  have n45 : ((c : Int) == 45) = false := by simp; omega
  have n63 : ((c : Int) == 63) = false := by simp; omega
  have n9 : ((c : Int) == 9) = false := by simp; omega
  have n127 : ¬ (127 : Int) < (c : Int) := by omega
  go_enter Tryz.func120, Tryz.ntmps120
  go_wp2_with (first
    | (go_at_call 131; refine (between_yes _ _ _ _ (by omega)).mono ?_; rintro e w' ⟨rfl, rfl⟩)
    | (go_at_call 131; refine (between_no _ _ _ _ (by omega)).mono ?_; rintro e w' ⟨rfl, rfl⟩)
    | (go_at_call_of 112 (Value.string { data := #[35, 37, 94, 96, 124] }); refine (unhide R1).mono ?_; rintro e w' ⟨rfl, rfl⟩)
    | (go_at_call_of 112 (Value.string { data := #[33, 36, 38, 39, 42, 43, 46, 95, 126] }); refine (unhide R2).mono ?_; rintro e w' ⟨rfl, rfl⟩)
    | (go_at_call_of 112 (Value.string { data := #[47, 40, 41, 44, 59, 61, 58, 64] }); refine (unhide R3).mono ?_; rintro e w' ⟨rfl, rfl⟩))
  go_ret
  exact ⟨rfl, rfl⟩
set_option maxRecDepth 20000 in
set_option maxHeartbeats 4000000 in
theorem kinds_3b (c : Nat) (hc : c < 128) (w : World) (h0 : ¬ (c = 35 ∨ c = 37 ∨ c = 94 ∨ c = 96 ∨ c = 124))  (h1 : ¬ (48 ≤ c ∧ c ≤ 57))  (h2 : ¬ ((97 ≤ c ∧ c ≤ 102) ∨ (65 ≤ c ∧ c ≤ 70)))  (h3 : ¬ (97 ≤ c ∧ c ≤ 122))  (h4 : 65 ≤ c ∧ c ≤ 90) : Calls Tryz.prog 120 #[.int .i32 (c : Int)] w fun e w' => e = .returned (.int .i64 124) ∧ w' = w := by
  have R1 := hide (hasRune_lo ks1 c w (by omega) (by omega))
  have R2 := hide (hasRune_lo ks2 c w (by omega) (by omega))
  have R3 := hide (hasRune_lo ks3 c w (by omega) (by omega))
  rw [ks1_is, decide_eq_false (by omega)] at R1
  rw [ks2_is, decide_eq_false (by omega)] at R2
  rw [ks3_is, decide_eq_false (by omega)] at R3
  have n45 : ((c : Int) == 45) = false := by simp; omega
  have n63 : ((c : Int) == 63) = false := by simp; omega
  have n9 : ((c : Int) == 9) = false := by simp; omega
  have n127 : ¬ (127 : Int) < (c : Int) := by omega
  go_enter Tryz.func120, Tryz.ntmps120
  go_wp2_with (first
    | (go_at_call 131; refine (between_yes _ _ _ _ (by omega)).mono ?_; rintro e w' ⟨rfl, rfl⟩)
    | (go_at_call 131; refine (between_no _ _ _ _ (by omega)).mono ?_; rintro e w' ⟨rfl, rfl⟩)
    | (go_at_call_of 112 (Value.string { data := #[35, 37, 94, 96, 124] }); refine (unhide R1).mono ?_; rintro e w' ⟨rfl, rfl⟩)
    | (go_at_call_of 112 (Value.string { data := #[33, 36, 38, 39, 42, 43, 46, 95, 126] }); refine (unhide R2).mono ?_; rintro e w' ⟨rfl, rfl⟩)
    | (go_at_call_of 112 (Value.string { data := #[47, 40, 41, 44, 59, 61, 58, 64] }); refine (unhide R3).mono ?_; rintro e w' ⟨rfl, rfl⟩))
  go_ret
  exact ⟨rfl, rfl⟩
set_option maxRecDepth 20000 in
set_option maxHeartbeats 4000000 in
theorem kinds_3c (c : Nat) (hc : c < 128) (w : World) (h0 : ¬ (c = 35 ∨ c = 37 ∨ c = 94 ∨ c = 96 ∨ c = 124))  (h1 : ¬ (48 ≤ c ∧ c ≤ 57))  (h2 : ¬ ((97 ≤ c ∧ c ≤ 102) ∨ (65 ≤ c ∧ c ≤ 70)))  (h3 : ¬ (97 ≤ c ∧ c ≤ 122))  (h4 : ¬ (65 ≤ c ∧ c ≤ 90))  (h5 : 44 < c) (h5b : c < 46) : Calls Tryz.prog 120 #[.int .i32 (c : Int)] w fun e w' => e = .returned (.int .i64 124) ∧ w' = w := by
  have R1 := hide (hasRune_lo ks1 c w (by omega) (by omega))
  have R2 := hide (hasRune_lo ks2 c w (by omega) (by omega))
  have R3 := hide (hasRune_lo ks3 c w (by omega) (by omega))
  rw [ks1_is, decide_eq_false (by omega)] at R1
  rw [ks2_is, decide_eq_false (by omega)] at R2
  rw [ks3_is, decide_eq_false (by omega)] at R3
  have n45 : ((c : Int) == 45) = true := by simp; omega
  have n63 : ((c : Int) == 63) = false := by simp; omega
  have n9 : ((c : Int) == 9) = false := by simp; omega
  have n127 : ¬ (127 : Int) < (c : Int) := by omega
  go_enter Tryz.func120, Tryz.ntmps120
  go_wp2_with (first
    | (go_at_call 131; refine (between_yes _ _ _ _ (by omega)).mono ?_; rintro e w' ⟨rfl, rfl⟩)
    | (go_at_call 131; refine (between_no _ _ _ _ (by omega)).mono ?_; rintro e w' ⟨rfl, rfl⟩)
    | (go_at_call_of 112 (Value.string { data := #[35, 37, 94, 96, 124] }); refine (unhide R1).mono ?_; rintro e w' ⟨rfl, rfl⟩)
    | (go_at_call_of 112 (Value.string { data := #[33, 36, 38, 39, 42, 43, 46, 95, 126] }); refine (unhide R2).mono ?_; rintro e w' ⟨rfl, rfl⟩)
    | (go_at_call_of 112 (Value.string { data := #[47, 40, 41, 44, 59, 61, 58, 64] }); refine (unhide R3).mono ?_; rintro e w' ⟨rfl, rfl⟩))
  go_ret
  exact ⟨rfl, rfl⟩
set_option maxRecDepth 20000 in
set_option maxHeartbeats 4000000 in
theorem kinds_4a (c : Nat) (hc : c < 128) (w : World) (h0 : ¬ (c = 35 ∨ c = 37 ∨ c = 94 ∨ c = 96 ∨ c = 124))  (h1 : ¬ (48 ≤ c ∧ c ≤ 57))  (h2 : ¬ ((97 ≤ c ∧ c ≤ 102) ∨ (65 ≤ c ∧ c ≤ 70)))  (h3 : ¬ ((97 ≤ c ∧ c ≤ 122) ∨ (65 ≤ c ∧ c ≤ 90) ∨ c = 45))  (h4 : c = 33 ∨ c = 36 ∨ c = 38 ∨ c = 39 ∨ c = 42 ∨ c = 43 ∨ c = 46 ∨ c = 95 ∨ c = 126) : Calls Tryz.prog 120 #[.int .i32 (c : Int)] w fun e w' => e = .returned (.int .i64 120) ∧ w' = w := by
  have R1 := hide (hasRune_lo ks1 c w (by omega) (by omega))
  have R2 := hide (hasRune_lo ks2 c w (by omega) (by omega))
  have R3 := hide (hasRune_lo ks3 c w (by omega) (by omega))
  rw [ks1_is, decide_eq_false (by omega)] at R1
  rw [ks2_is, decide_eq_true (by omega)] at R2
  rw [ks3_is, decide_eq_false (by omega)] at R3
  have n45 : ((c : Int) == 45) = false := by simp; omega
  have n63 : ((c : Int) == 63) = false := by simp; omega
  have n9 : ((c : Int) == 9) = false := by simp; omega
  have n127 : ¬ (127 : Int) < (c : Int) := by omega
  go_enter Tryz.func120, Tryz.ntmps120
  go_wp2_with (first
    | (go_at_call 131; refine (between_yes _ _ _ _ (by omega)).mono ?_; rintro e w' ⟨rfl, rfl⟩)
    | (go_at_call 131; refine (between_no _ _ _ _ (by omega)).mono ?_; rintro e w' ⟨rfl, rfl⟩)
    | (go_at_call_of 112 (Value.string { data := #[35, 37, 94, 96, 124] }); refine (unhide R1).mono ?_; rintro e w' ⟨rfl, rfl⟩)
    | (go_at_call_of 112 (Value.string { data := #[33, 36, 38, 39, 42, 43, 46, 95, 126] }); refine (unhide R2).mono ?_; rintro e w' ⟨rfl, rfl⟩)
    | (go_at_call_of 112 (Value.string { data := #[47, 40, 41, 44, 59, 61, 58, 64] }); refine (unhide R3).mono ?_; rintro e w' ⟨rfl, rfl⟩))
  go_ret
  exact ⟨rfl, rfl⟩
set_option maxRecDepth 20000 in
set_option maxHeartbeats 4000000 in
theorem kinds_5a (c : Nat) (hc : c < 128) (w : World) (h0 : ¬ (c = 35 ∨ c = 37 ∨ c = 94 ∨ c = 96 ∨ c = 124))  (h1 : ¬ (48 ≤ c ∧ c ≤ 57))  (h2 : ¬ ((97 ≤ c ∧ c ≤ 102) ∨ (65 ≤ c ∧ c ≤ 70)))  (h3 : ¬ ((97 ≤ c ∧ c ≤ 122) ∨ (65 ≤ c ∧ c ≤ 90) ∨ c = 45))  (h4 : ¬ (c = 33 ∨ c = 36 ∨ c = 38 ∨ c = 39 ∨ c = 42 ∨ c = 43 ∨ c = 46 ∨ c = 95 ∨ c = 126))  (h5 : c = 47 ∨ c = 40 ∨ c = 41 ∨ c = 44 ∨ c = 59 ∨ c = 61 ∨ c = 58 ∨ c = 64) : Calls Tryz.prog 120 #[.int .i32 (c : Int)] w fun e w' => e = .returned (.int .i64 112) ∧ w' = w := by
  have R1 := hide (hasRune_lo ks1 c w (by omega) (by omega))
  have R2 := hide (hasRune_lo ks2 c w (by omega) (by omega))
  have R3 := hide (hasRune_lo ks3 c w (by omega) (by omega))
  rw [ks1_is, decide_eq_false (by omega)] at R1
  rw [ks2_is, decide_eq_false (by omega)] at R2
  rw [ks3_is, decide_eq_true (by omega)] at R3
  have n45 : ((c : Int) == 45) = false := by simp; omega
  have n63 : ((c : Int) == 63) = false := by simp; omega
  have n9 : ((c : Int) == 9) = false := by simp; omega
  have n127 : ¬ (127 : Int) < (c : Int) := by omega
  go_enter Tryz.func120, Tryz.ntmps120
  go_wp2_with (first
    | (go_at_call 131; refine (between_yes _ _ _ _ (by omega)).mono ?_; rintro e w' ⟨rfl, rfl⟩)
    | (go_at_call 131; refine (between_no _ _ _ _ (by omega)).mono ?_; rintro e w' ⟨rfl, rfl⟩)
    | (go_at_call_of 112 (Value.string { data := #[35, 37, 94, 96, 124] }); refine (unhide R1).mono ?_; rintro e w' ⟨rfl, rfl⟩)
    | (go_at_call_of 112 (Value.string { data := #[33, 36, 38, 39, 42, 43, 46, 95, 126] }); refine (unhide R2).mono ?_; rintro e w' ⟨rfl, rfl⟩)
    | (go_at_call_of 112 (Value.string { data := #[47, 40, 41, 44, 59, 61, 58, 64] }); refine (unhide R3).mono ?_; rintro e w' ⟨rfl, rfl⟩))
  go_ret
  exact ⟨rfl, rfl⟩
set_option maxRecDepth 20000 in
set_option maxHeartbeats 4000000 in
theorem kinds_6a (c : Nat) (hc : c < 128) (w : World) (h0 : ¬ (c = 35 ∨ c = 37 ∨ c = 94 ∨ c = 96 ∨ c = 124))  (h1 : ¬ (48 ≤ c ∧ c ≤ 57))  (h2 : ¬ ((97 ≤ c ∧ c ≤ 102) ∨ (65 ≤ c ∧ c ≤ 70)))  (h3 : ¬ ((97 ≤ c ∧ c ≤ 122) ∨ (65 ≤ c ∧ c ≤ 90) ∨ c = 45))  (h4 : ¬ (c = 33 ∨ c = 36 ∨ c = 38 ∨ c = 39 ∨ c = 42 ∨ c = 43 ∨ c = 46 ∨ c = 95 ∨ c = 126))  (h5 : ¬ (c = 47 ∨ c = 40 ∨ c = 41 ∨ c = 44 ∨ c = 59 ∨ c = 61 ∨ c = 58 ∨ c = 64))  (h6 : 62 < c) (h6b : c < 64) : Calls Tryz.prog 120 #[.int .i32 (c : Int)] w fun e w' => e = .returned (.int .i64 96) ∧ w' = w := by
  have R1 := hide (hasRune_lo ks1 c w (by omega) (by omega))
  have R2 := hide (hasRune_lo ks2 c w (by omega) (by omega))
  have R3 := hide (hasRune_lo ks3 c w (by omega) (by omega))
  rw [ks1_is, decide_eq_false (by omega)] at R1
  rw [ks2_is, decide_eq_false (by omega)] at R2
  rw [ks3_is, decide_eq_false (by omega)] at R3
  have n45 : ((c : Int) == 45) = false := by simp; omega
  have n63 : ((c : Int) == 63) = true := by simp; omega
  have n9 : ((c : Int) == 9) = false := by simp; omega
  have n127 : ¬ (127 : Int) < (c : Int) := by omega
  go_enter Tryz.func120, Tryz.ntmps120
  go_wp2_with (first
    | (go_at_call 131; refine (between_yes _ _ _ _ (by omega)).mono ?_; rintro e w' ⟨rfl, rfl⟩)
    | (go_at_call 131; refine (between_no _ _ _ _ (by omega)).mono ?_; rintro e w' ⟨rfl, rfl⟩)
    | (go_at_call_of 112 (Value.string { data := #[35, 37, 94, 96, 124] }); refine (unhide R1).mono ?_; rintro e w' ⟨rfl, rfl⟩)
    | (go_at_call_of 112 (Value.string { data := #[33, 36, 38, 39, 42, 43, 46, 95, 126] }); refine (unhide R2).mono ?_; rintro e w' ⟨rfl, rfl⟩)
    | (go_at_call_of 112 (Value.string { data := #[47, 40, 41, 44, 59, 61, 58, 64] }); refine (unhide R3).mono ?_; rintro e w' ⟨rfl, rfl⟩))
  go_ret
  exact ⟨rfl, rfl⟩
set_option maxRecDepth 20000 in
set_option maxHeartbeats 4000000 in
theorem kinds_7a (c : Nat) (hc : c < 128) (w : World) (h0 : ¬ (c = 35 ∨ c = 37 ∨ c = 94 ∨ c = 96 ∨ c = 124))  (h1 : ¬ (48 ≤ c ∧ c ≤ 57))  (h2 : ¬ ((97 ≤ c ∧ c ≤ 102) ∨ (65 ≤ c ∧ c ≤ 70)))  (h3 : ¬ ((97 ≤ c ∧ c ≤ 122) ∨ (65 ≤ c ∧ c ≤ 90) ∨ c = 45))  (h4 : ¬ (c = 33 ∨ c = 36 ∨ c = 38 ∨ c = 39 ∨ c = 42 ∨ c = 43 ∨ c = 46 ∨ c = 95 ∨ c = 126))  (h5 : ¬ (c = 47 ∨ c = 40 ∨ c = 41 ∨ c = 44 ∨ c = 59 ∨ c = 61 ∨ c = 58 ∨ c = 64))  (h6 : ¬ (c = 63))  (h7 : 8 < c) (h7b : c < 10) : Calls Tryz.prog 120 #[.int .i32 (c : Int)] w fun e w' => e = .returned (.int .i64 64) ∧ w' = w := by
  have R1 := hide (hasRune_lo ks1 c w (by omega) (by omega))
  have R2 := hide (hasRune_lo ks2 c w (by omega) (by omega))
  have R3 := hide (hasRune_lo ks3 c w (by omega) (by omega))
  rw [ks1_is, decide_eq_false (by omega)] at R1
  rw [ks2_is, decide_eq_false (by omega)] at R2
  rw [ks3_is, decide_eq_false (by omega)] at R3
  have n45 : ((c : Int) == 45) = false := by simp; omega
  have n63 : ((c : Int) == 63) = false := by simp; omega
  have n9 : ((c : Int) == 9) = true := by simp; omega
  have n127 : ¬ (127 : Int) < (c : Int) := by omega
  go_enter Tryz.func120, Tryz.ntmps120
  go_wp2_with (first
    | (go_at_call 131; refine (between_yes _ _ _ _ (by omega)).mono ?_; rintro e w' ⟨rfl, rfl⟩)
    | (go_at_call 131; refine (between_no _ _ _ _ (by omega)).mono ?_; rintro e w' ⟨rfl, rfl⟩)
    | (go_at_call_of 112 (Value.string { data := #[35, 37, 94, 96, 124] }); refine (unhide R1).mono ?_; rintro e w' ⟨rfl, rfl⟩)
    | (go_at_call_of 112 (Value.string { data := #[33, 36, 38, 39, 42, 43, 46, 95, 126] }); refine (unhide R2).mono ?_; rintro e w' ⟨rfl, rfl⟩)
    | (go_at_call_of 112 (Value.string { data := #[47, 40, 41, 44, 59, 61, 58, 64] }); refine (unhide R3).mono ?_; rintro e w' ⟨rfl, rfl⟩))
  go_ret
  exact ⟨rfl, rfl⟩
set_option maxRecDepth 20000 in
set_option maxHeartbeats 4000000 in
theorem kinds_7b (c : Nat) (hc : c < 128) (w : World) (h0 : ¬ (c = 35 ∨ c = 37 ∨ c = 94 ∨ c = 96 ∨ c = 124))  (h1 : ¬ (48 ≤ c ∧ c ≤ 57))  (h2 : ¬ ((97 ≤ c ∧ c ≤ 102) ∨ (65 ≤ c ∧ c ≤ 70)))  (h3 : ¬ ((97 ≤ c ∧ c ≤ 122) ∨ (65 ≤ c ∧ c ≤ 90) ∨ c = 45))  (h4 : ¬ (c = 33 ∨ c = 36 ∨ c = 38 ∨ c = 39 ∨ c = 42 ∨ c = 43 ∨ c = 46 ∨ c = 95 ∨ c = 126))  (h5 : ¬ (c = 47 ∨ c = 40 ∨ c = 41 ∨ c = 44 ∨ c = 59 ∨ c = 61 ∨ c = 58 ∨ c = 64))  (h6 : ¬ (c = 63))  (h7 : ¬ (c = 9))  (h8 : 32 ≤ c ∧ c ≤ 126) : Calls Tryz.prog 120 #[.int .i32 (c : Int)] w fun e w' => e = .returned (.int .i64 64) ∧ w' = w := by
  have R1 := hide (hasRune_lo ks1 c w (by omega) (by omega))
  have R2 := hide (hasRune_lo ks2 c w (by omega) (by omega))
  have R3 := hide (hasRune_lo ks3 c w (by omega) (by omega))
  rw [ks1_is, decide_eq_false (by omega)] at R1
  rw [ks2_is, decide_eq_false (by omega)] at R2
  rw [ks3_is, decide_eq_false (by omega)] at R3
  have n45 : ((c : Int) == 45) = false := by simp; omega
  have n63 : ((c : Int) == 63) = false := by simp; omega
  have n9 : ((c : Int) == 9) = false := by simp; omega
  have n127 : ¬ (127 : Int) < (c : Int) := by omega
  go_enter Tryz.func120, Tryz.ntmps120
  go_wp2_with (first
    | (go_at_call 131; refine (between_yes _ _ _ _ (by omega)).mono ?_; rintro e w' ⟨rfl, rfl⟩)
    | (go_at_call 131; refine (between_no _ _ _ _ (by omega)).mono ?_; rintro e w' ⟨rfl, rfl⟩)
    | (go_at_call_of 112 (Value.string { data := #[35, 37, 94, 96, 124] }); refine (unhide R1).mono ?_; rintro e w' ⟨rfl, rfl⟩)
    | (go_at_call_of 112 (Value.string { data := #[33, 36, 38, 39, 42, 43, 46, 95, 126] }); refine (unhide R2).mono ?_; rintro e w' ⟨rfl, rfl⟩)
    | (go_at_call_of 112 (Value.string { data := #[47, 40, 41, 44, 59, 61, 58, 64] }); refine (unhide R3).mono ?_; rintro e w' ⟨rfl, rfl⟩))
  go_ret
  exact ⟨rfl, rfl⟩
set_option maxRecDepth 20000 in
set_option maxHeartbeats 4000000 in
theorem kinds_8 (c : Nat) (hc : c < 128) (w : World) (h0 : ¬ (c = 35 ∨ c = 37 ∨ c = 94 ∨ c = 96 ∨ c = 124))  (h1 : ¬ (48 ≤ c ∧ c ≤ 57))  (h2 : ¬ ((97 ≤ c ∧ c ≤ 102) ∨ (65 ≤ c ∧ c ≤ 70)))  (h3 : ¬ ((97 ≤ c ∧ c ≤ 122) ∨ (65 ≤ c ∧ c ≤ 90) ∨ c = 45))  (h4 : ¬ (c = 33 ∨ c = 36 ∨ c = 38 ∨ c = 39 ∨ c = 42 ∨ c = 43 ∨ c = 46 ∨ c = 95 ∨ c = 126))  (h5 : ¬ (c = 47 ∨ c = 40 ∨ c = 41 ∨ c = 44 ∨ c = 59 ∨ c = 61 ∨ c = 58 ∨ c = 64))  (h6 : ¬ (c = 63))  (h7 : ¬ (c = 9 ∨ (32 ≤ c ∧ c ≤ 126) ∨ 127 < c)) : Calls Tryz.prog 120 #[.int .i32 (c : Int)] w fun e w' => e = .returned (.int .i64 0) ∧ w' = w := by
  have R1 := hide (hasRune_lo ks1 c w (by omega) (by omega))
  have R2 := hide (hasRune_lo ks2 c w (by omega) (by omega))
  have R3 := hide (hasRune_lo ks3 c w (by omega) (by omega))
  rw [ks1_is, decide_eq_false (by omega)] at R1
  rw [ks2_is, decide_eq_false (by omega)] at R2
  rw [ks3_is, decide_eq_false (by omega)] at R3
  have n45 : ((c : Int) == 45) = false := by simp; omega
  have n63 : ((c : Int) == 63) = false := by simp; omega
  have n9 : ((c : Int) == 9) = false := by simp; omega
  have n127 : ¬ (127 : Int) < (c : Int) := by omega
  go_enter Tryz.func120, Tryz.ntmps120
  go_wp2_with (first
    | (go_at_call 131; refine (between_yes _ _ _ _ (by omega)).mono ?_; rintro e w' ⟨rfl, rfl⟩)
    | (go_at_call 131; refine (between_no _ _ _ _ (by omega)).mono ?_; rintro e w' ⟨rfl, rfl⟩)
    | (go_at_call_of 112 (Value.string { data := #[35, 37, 94, 96, 124] }); refine (unhide R1).mono ?_; rintro e w' ⟨rfl, rfl⟩)
    | (go_at_call_of 112 (Value.string { data := #[33, 36, 38, 39, 42, 43, 46, 95, 126] }); refine (unhide R2).mono ?_; rintro e w' ⟨rfl, rfl⟩)
    | (go_at_call_of 112 (Value.string { data := #[47, 40, 41, 44, 59, 61, 58, 64] }); refine (unhide R3).mono ?_; rintro e w' ⟨rfl, rfl⟩))
  go_ret
  exact ⟨rfl, rfl⟩
set_option maxRecDepth 20000 in
set_option maxHeartbeats 4000000 in
theorem kindsOf_lo (c : Nat) (hc : c < 128) (w : World) : Calls Tryz.prog 120 #[.int .i32 (c : Int)] w fun e w' => e = .returned (.int .i64 (kindsN c : Int)) ∧ w' = w := by
  unfold kindsN
  by_cases g0 : c = 35 ∨ c = 37 ∨ c = 94 ∨ c = 96 ∨ c = 124
  · rw [if_pos g0]
    exact kinds_0a c hc w  g0
  rw [if_neg g0]
  by_cases g1 : 48 ≤ c ∧ c ≤ 57
  · rw [if_pos g1]
    exact kinds_1a c hc w g0 g1
  rw [if_neg g1]
  by_cases g2 : (97 ≤ c ∧ c ≤ 102) ∨ (65 ≤ c ∧ c ≤ 70)
  · rw [if_pos g2]
    by_cases q0 : 97 ≤ c ∧ c ≤ 102
    · exact kinds_2a c hc w g0 g1  q0
    · exact kinds_2b c hc w g0 g1 q0 (by omega)
  rw [if_neg g2]
  by_cases g3 : (97 ≤ c ∧ c ≤ 122) ∨ (65 ≤ c ∧ c ≤ 90) ∨ c = 45
  · rw [if_pos g3]
    by_cases q0 : 97 ≤ c ∧ c ≤ 122
    · exact kinds_3a c hc w g0 g1 g2  q0
    by_cases q1 : 65 ≤ c ∧ c ≤ 90
    · exact kinds_3b c hc w g0 g1 g2 q0 q1
    · exact kinds_3c c hc w g0 g1 g2 q0 q1 (by omega) (by omega)
  rw [if_neg g3]
  by_cases g4 : c = 33 ∨ c = 36 ∨ c = 38 ∨ c = 39 ∨ c = 42 ∨ c = 43 ∨ c = 46 ∨ c = 95 ∨ c = 126
  · rw [if_pos g4]
    exact kinds_4a c hc w g0 g1 g2 g3 g4
  rw [if_neg g4]
  by_cases g5 : c = 47 ∨ c = 40 ∨ c = 41 ∨ c = 44 ∨ c = 59 ∨ c = 61 ∨ c = 58 ∨ c = 64
  · rw [if_pos g5]
    exact kinds_5a c hc w g0 g1 g2 g3 g4 g5
  rw [if_neg g5]
  by_cases g6 : c = 63
  · rw [if_pos g6]
    exact kinds_6a c hc w g0 g1 g2 g3 g4 g5 (by omega) (by omega)
  rw [if_neg g6]
  by_cases g7 : c = 9 ∨ (32 ≤ c ∧ c ≤ 126) ∨ 127 < c
  · rw [if_pos g7]
    by_cases q0 : c = 9
    · exact kinds_7a c hc w g0 g1 g2 g3 g4 g5 g6 (by omega) (by omega)
    · exact kinds_7b c hc w g0 g1 g2 g3 g4 g5 g6 q0 (by omega)
  rw [if_neg g7]
  exact kinds_8 c hc w g0 g1 g2 g3 g4 g5 g6 g7
end Go.Proofs.YtcmiappiocfbiaaGreatDoor
end
/- Heads: texts all of whose letters are of a kind, tokens, paths, queries. -/
section
namespace Go.Proofs.YtcmiappiocfbiaaGreatDoor
open Go.ChangeShapes Go.WideShapes Go.ChangeAt Go.RowKit
set_option linter.unusedVariables false

set_option maxRecDepth 20000 in
set_option maxHeartbeats 4000000 in
theorem kindsOf_hi (c : Nat) (hc : 128 ≤ c) (hm : c ≤ 2147483647) (w : World) : Calls Tryz.prog 120 #[.int .i32 (c : Int)] w fun e w' => e = .returned (.int .i64 64) ∧ Below w.heap.size w w' := by
  have R1 := hide (fun W => hasRune_hi ks1 c W (by decide) (by decide) (by decide) (by omega) (by omega))
  have R2 := hide (fun W => hasRune_hi ks2 c W (by decide) (by decide) (by decide) (by omega) (by omega))
  have R3 := hide (fun W => hasRune_hi ks3 c W (by decide) (by decide) (by decide) (by omega) (by omega))
  have b1 : ∀ lo hi W, hi < 128 → Calls Tryz.prog 131 #[.int .i32 (c : Int), .int .i32 lo, .int .i32 hi] W fun e w' => e = .returned (.bool false) ∧ w' = W := fun lo hi W h => by
    have := between_calls c lo hi W
    rwa [decide_eq_false (by omega)] at this
  have B := hide b1
  have n1 : ((c : Int) == 45) = false := by simp; omega
  have n2 : ((c : Int) == 63) = false := by simp; omega
  have n3 : ((c : Int) == 9) = false := by simp; omega
  have n4 : (127 : Int) < (c : Int) := by omega
  clear b1
  go_enter Tryz.func120, Tryz.ntmps120
  go_wp2_with (first
    | (go_at_call 131; refine (unhide B _ _ _ (by decide)).mono ?_; rintro e w' ⟨rfl, hw⟩; rw [hw]; clear hw)
    | (have hV : W2 = W2 := rfl
       clear hV
       go_at_call 112; refine (unhide R3 _).mono ?_; rintro e W3 ⟨rfl, hb3⟩
       have H3 := hide ((unhide H2).trans (hb3.mono (unhide H2).size))
       clear hb3)
    | (have hV : W1 = W1 := rfl
       clear hV
       go_at_call 112; refine (unhide R2 _).mono ?_; rintro e W2 ⟨rfl, hb2⟩
       have H2 := hide ((unhide H1).trans (hb2.mono (unhide H1).size))
       clear hb2)
    | (go_at_call 112; refine (unhide R1 _).mono ?_; rintro e W1 ⟨rfl, hb1⟩
       have H1 := hide hb1
       clear hb1))
  go_ret
  exact ⟨rfl, unhide H3⟩
theorem kindsOf_any (c : Nat) (hm : c ≤ 2147483647) (w : World) : Calls Tryz.prog 120 #[.int .i32 (c : Int)] w fun e w' => e = .returned (.int .i64 (kindsN c : Int)) ∧ Below w.heap.size w w' := by
  by_cases h : c < 128
  · refine (kindsOf_lo c h w).mono ?_
    rintro e w' ⟨rfl, rfl⟩
    exact ⟨rfl, Below.refl _ _⟩
  · rw [kindsN_high c (by omega)]
    exact kindsOf_hi c (by omega) hm w
theorem and_is (a k : Nat) (ha : a < 128) (hk : k < 128) : bits .and .i64 (a : Int) (k : Int) = ((a &&& k : Nat) : Int) := by
  have hl : a &&& k ≤ a := Nat.and_le_left
  show IntKind.i64.wrap ((BitVec.ofInt 64 (a : Int) &&& BitVec.ofInt 64 (k : Int)).toNat : Int) = _
  rw [BitVec.toNat_and, ofInt_u64 a (by omega), ofInt_u64 k (by omega), IntKind.wrap_i64]
  omega
set_option maxHeartbeats 1000000 in
theorem is_calls (x : UInt8) (k : Nat) (hk : k < 128) (w : World) : Calls Tryz.prog 109 #[.int .u8 (x.toNat : Int), .int .i64 (k : Int)] w fun e w' => e = .returned (.bool (isK k x)) ∧ Below w.heap.size w w' := by
  have K := hide (fun W => kindsOf_any x.toNat (by have := x.toNat_lt; omega) W)
  have hx := x.toNat_lt
  have hw : IntKind.i32.wrap (x.toNat : Int) = (x.toNat : Int) := by rw [IntKind.wrap_i32]; omega
  have ha := and_is (kindsN x.toNat) k (kindsN_lt _) hk
  have hb : ((((kindsN x.toNat &&& k : Nat) : Int)) != 0) = isK k x := by
    unfold isK
    rw [Bool.eq_iff_iff]; simp
  generalize kindsN x.toNat = n at *
  go_enter Tryz.func109, Tryz.ntmps109
  go_wp2_with (go_at_call 120; refine (unhide K _).mono ?_; rintro e w' ⟨rfl, hb1⟩)
  go_ret
  exact ⟨by rw [← hb]; rfl, hb1⟩
end Go.Proofs.YtcmiappiocfbiaaGreatDoor
end
