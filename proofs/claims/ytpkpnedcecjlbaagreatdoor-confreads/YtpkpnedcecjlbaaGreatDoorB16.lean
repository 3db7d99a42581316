/- Plane: rows copied into one's own. -/
import Derived.Test.YtpkpnedcecjlbaaGreatDoorB10
import Derived.Test.YtpkpnedcecjlbaaGreatDoorB15
import Derived.Laws.OwnMore
section
namespace Go.Proofs.YtpkpnedcecjlbaaGreatDoor
open Go.ChangeShapes Go.WideShapes Go.ChangeAt Go.RowKit

theorem grownSet (w : World) (j k : Nat) (v : Value) : w.grownBy (w.setCell ⟨j, k, none⟩ v) (some j) :=
  ⟨rfl, rfl, rfl, by simp [World.setCell], fun i _ hne => heap_setCell_other w ⟨j, k, none⟩ i v (fun e => hne (by rw [e]))⟩
/-- append(T{}, l...). -/
theorem run_cloneG {w : World} (t ty e : TypeId) (i : TypeInfo) (z : Value) (size bytes : Nat) (ht : Tryz.prog.underlying t = some (.slice e)) (hi : Tryz.prog.info? e = some i) (hz : i.zero = some z) (hsize : i.size = size) (hby : i.bytes = bytes) (hzs : z.cells.size = size) (hsz : 0 < size)
    (E : Nat) (hE : w.heap[E]? = some (.cells #[] e (0, 0))) (ad : Option Addr) (m c : Nat) (hn : ad = none → m = 0 ∧ c = 0) (news : List Value) (hl : news.length = m * size)
    (hnews : ∀ b, ad = some b → ∀ j u, news[j]? = some u → w.cell? (b.add j) = some u) (h1 : ∀ u ∈ news, u.oneCell' = true) (hm : m ≤ 1000) (hbytes : m * bytes ≤ 140737488355328) :
    ∃ g c' w', (Builtin.append_ #[t, t] ty #[.slice (some ⟨E, 0, none⟩) 0 0, .slice ad m c]).run Tryz.prog w = .ok (.slice (some ⟨g, 0, none⟩) m c') w' ∧ w'.ownsRow E e size (.slice (some ⟨g, 0, none⟩) m c') m news ∧ w.grownBy w' (some E) ∧ (g = E ∨ g = w.heap.size) := by
  have he : w.ownsRow E e size (.slice (some ⟨E, 0, none⟩) 0 0) 0 [] := ⟨by simp, .inr ⟨E, 0, #[], rfl, Nat.le_refl _, hE, Nat.le_refl _, by simp [maxLen], by simp, by simp⟩⟩
  have hEl : E < w.heap.size := (Array.getElem?_eq_some_iff.1 hE).1
  cases ad with
  | none =>
    obtain ⟨rfl, rfl⟩ := hn rfl
    have hz : news = [] := List.eq_nil_of_length_eq_zero (by simpa using hl)
    subst hz
    have hrun := run_append_owned_none (P := Tryz.prog) (w := w) E t ty e i size ht hi _ _ _ he
    exact ⟨E, 0, w, hrun, he, grown_refl _ _, .inl rfl⟩
  | some b =>
    obtain ⟨v', w', hrun, h2, h3, h4, h5⟩ := run_append_own_at (P := Tryz.prog) w E t ty e i z size bytes ht hi hz hsize hby hzs hsz _ _ _ he b m c news hl (hnews b rfl) h1 (by simp only [maxLen]; omega) (by rw [Nat.zero_add]; exact hbytes) (by omega)
    rcases h2.2 with ⟨hv, h0⟩ | ⟨g, cap, cur, hv, r⟩
    · have := (h4.1 hv).1
      cases this
    · subst hv
      rw [Nat.zero_add, List.nil_append] at h2
      exact ⟨g, cap, w', by rw [hrun, Nat.zero_add], h2, h3, h5.imp (fun e => Option.some.inj e) (fun e => Option.some.inj e)⟩
theorem step_cloneG {w : World} {ops : Array Oper} {o : Oper} {a : Act} {K : Act → World → Prop} {Q : Exit → Act → World → Prop} {E0 : Prop} (hgd : o.guard = none) (s x : Operand) (t e : TypeId)
    (ho : o.op = .call { callee := .builtin .append, args := #[s, x], argTypes := #[t, t] })
    (i : TypeInfo) (z : Value) (size bytes : Nat) (ht : Tryz.prog.underlying t = some (.slice e)) (hi : Tryz.prog.info? e = some i) (hz : i.zero = some z) (hsize : i.size = size) (hby : i.bytes = bytes) (hzs : z.cells.size = size) (hsz : 0 < size)
    (E : Nat) (hs : a.eval s = .slice (some ⟨E, 0, none⟩) 0 0) (hE : w.heap[E]? = some (.cells #[] e (0, 0))) (ad : Option Addr) (m c : Nat) (hx : a.eval x = .slice ad m c) (hn : ad = none → m = 0 ∧ c = 0) (news : List Value) (hl : news.length = m * size)
    (hnews : ∀ b, ad = some b → ∀ j u, news[j]? = some u → w.cell? (b.add j) = some u) (h1 : ∀ u ∈ news, u.oneCell' = true) (hm : m ≤ 1000) (hbytes : m * bytes ≤ 140737488355328)
    (hk : ∀ g c' w', w'.ownsRow E e size (.slice (some ⟨g, 0, none⟩) m c') m news → w.grownBy w' (some E) → (g = E ∨ g = w.heap.size) → K (a.put o.dst (.slice (some ⟨g, 0, none⟩) m c')) w') :
    if Region.wanted o (yielded ops a.tmps) = true then Oper.wp Tryz.prog o a w K Q else E0 := by
  have hw : Region.wanted o (yielded ops a.tmps) = true := by simp [Region.wanted, hgd]
  rw [if_pos hw]
  obtain ⟨g, c', w', hrun, h2, h3, h4⟩ := run_cloneG t o.type e i z size bytes ht hi hz hsize hby hzs hsz E hE ad m c hn news hl hnews h1 hm hbytes
  unfold Oper.wp
  simp [execOp, ho, resolve, invoke, builtin, hs, hx, hrun, Result.andThen]
  exact hk g c' w' h2 h3 h4
/-! New blocks, by name. -/
theorem step_newR {w : World} {ops : Array Oper} {o : Oper} {a : Act} {K : Act → World → Prop} {Q : Exit → Act → World → Prop} {E0 : Prop} (hgd : o.guard = none) (ho : o.op = .buildSlice 50 0 #[])
    (h : ∀ E w', w.heap.size = E → w'.heap[E]? = some (.cells #[] 67 (0, 0)) → Below w.heap.size w w' → K (a.put o.dst (.slice (some ⟨E, 0, none⟩) 0 0)) w') :
    if Region.wanted o (yielded ops a.tmps) = true then Oper.wp Tryz.prog o a w K Q else E0 := by
  have hw : Region.wanted o (yielded ops a.tmps) = true := by simp [Region.wanted, hgd]
  rw [if_pos hw]
  have h1 := h w.heap.size (w.alloc (.cells #[] 67)) rfl (heap_new w _) ((Below.refl _ _).alloc (Nat.le_refl _) _)
  unfold Oper.wp
  simp [execOp, ho, go_sem]
  exact h1
theorem step_newT {w : World} {ops : Array Oper} {o : Oper} {a : Act} {K : Act → World → Prop} {Q : Exit → Act → World → Prop} {E0 : Prop} (hgd : o.guard = none) (ho : o.op = .buildSlice 23 0 #[])
    (h : ∀ E w', w.heap.size = E → w'.heap[E]? = some (.cells #[] 43 (0, 0)) → Below w.heap.size w w' → K (a.put o.dst (.slice (some ⟨E, 0, none⟩) 0 0)) w') :
    if Region.wanted o (yielded ops a.tmps) = true then Oper.wp Tryz.prog o a w K Q else E0 := by
  have hw : Region.wanted o (yielded ops a.tmps) = true := by simp [Region.wanted, hgd]
  rw [if_pos hw]
  have h1 := h w.heap.size (w.alloc (.cells #[] 43)) rfl (heap_new w _) ((Below.refl _ _).alloc (Nat.le_refl _) _)
  unfold Oper.wp
  simp [execOp, ho, go_sem]
  exact h1
theorem step_newC {w : World} {ops : Array Oper} {o : Oper} {a : Act} {K : Act → World → Prop} {Q : Exit → Act → World → Prop} {E0 : Prop} (hgd : o.guard = none) (ho : o.op = .alloc 53)
    (h : ∀ C w', w.heap.size = C → w'.heap[C]? = some (.cells #[.int .i64 0, .slice none 0 0, .slice none 0 0] 53 (0, 0)) → Below w.heap.size w w' → K (a.put o.dst (.pointer (some ⟨C, 0, none⟩))) w') :
    if Region.wanted o (yielded ops a.tmps) = true then Oper.wp Tryz.prog o a w K Q else E0 := by
  have hw : Region.wanted o (yielded ops a.tmps) = true := by simp [Region.wanted, hgd]
  rw [if_pos hw]
  have h1 := h w.heap.size (w.alloc (.cells #[.int .i64 0, .slice none 0 0, .slice none 0 0] 53)) rfl (heap_new w _) ((Below.refl _ _).alloc (Nat.le_refl _) _)
  unfold Oper.wp
  simp [execOp, ho, go_sem]
  exact h1
theorem step_newP {w : World} {ops : Array Oper} {o : Oper} {a : Act} {K : Act → World → Prop} {Q : Exit → Act → World → Prop} {E0 : Prop} (hgd : o.guard = none) (k : Nat) (ho : o.op = .buildSlice 51 1 #[(0, .tmp k)]) (nm : ByteArray) (sp : Option Addr) (n c : Nat) (hs : a.eval (.tmp k) = .agg #[.string nm, .slice sp n c])
    (h : ∀ B w', w.heap.size = B → w'.heap[B]? = some (.cells #[.string nm, .slice sp n c] 93 (0, 0)) → Below w.heap.size w w' → K (a.put o.dst (.slice (some ⟨B, 0, none⟩) 1 1)) w') :
    if Region.wanted o (yielded ops a.tmps) = true then Oper.wp Tryz.prog o a w K Q else E0 := by
  have hw : Region.wanted o (yielded ops a.tmps) = true := by simp [Region.wanted, hgd]
  rw [if_pos hw]
  have h1 := h w.heap.size (w.alloc (.cells #[.string nm, .slice sp n c] 93)) rfl (heap_new w _) ((Below.refl _ _).alloc (Nat.le_refl _) _)
  have hs' : a.tmps[k]?.getD undef = .agg #[.string nm, .slice sp n c] := by simpa [go_sem] using hs
  unfold Oper.wp
  simp [execOp, ho, go_sem, hs']
  exact h1
/-! Routes. -/
def rtRow (r : Rt) : List Value := [.string r.h, .string r.p, .string r.l]
def rowsR (l : List Rt) : List Value := l.flatMap rtRow
theorem rowsR_length (l : List Rt) : (rowsR l).length = l.length * 3 := by
  induction l with
  | nil => rfl
  | cons x xs ih =>
    simp only [rowsR, List.flatMap_cons, List.length_append, List.length_cons] at ih ⊢
    rw [ih, show (rtRow x).length = 3 from rfl]
    omega
theorem rowsR_get : ∀ (xs : List Rt) (i f : Nat) (hi : i < xs.length) (_ : f < 3), (rowsR xs)[i * 3 + f]? = (rtRow xs[i])[f]?
  | [], i, _, hi, _ => by simp at hi
  | x :: xs, 0, f, _, hf => by
    simp only [rowsR, List.flatMap_cons, Nat.zero_mul, Nat.zero_add, List.getElem_cons_zero]
    rw [List.getElem?_append_left (show f < (rtRow x).length from hf)]
  | x :: xs, i + 1, f, hi, hf => by
    have ih := rowsR_get xs i f (by simpa using hi) hf
    simp only [rowsR, List.flatMap_cons, List.getElem_cons_succ] at ih ⊢
    rw [List.getElem?_append_right (by rw [show (rtRow x).length = 3 from rfl]; omega)]
    have e4 : (i + 1) * 3 + f - (rtRow x).length = i * 3 + f := by rw [show (rtRow x).length = 3 from rfl]; omega
    rw [e4]
    exact ih
theorem rt_oneCell (l : List Rt) : ∀ u ∈ rowsR l, u.oneCell' = true := by
  intro u hu
  obtain ⟨t, _, ht⟩ := List.mem_flatMap.1 hu
  simp only [rtRow, List.mem_cons, List.not_mem_nil, or_false] at ht
  rcases ht with rfl | rfl | rfl <;> rfl
theorem infoRt : (Tryz.prog.info? 67).map (fun i => (i.zero, i.size, i.bytes)) = some (some (.agg #[.string ByteArray.empty, .string ByteArray.empty, .string ByteArray.empty]), 3, 48) := by kernel_rfl
theorem divmod {j k n : Nat} (hk : 0 < k) (h : j < n * k) : ∃ i f, i < n ∧ f < k ∧ j = i * k + f :=
  ⟨j / k, j % k, (Nat.div_lt_iff_lt_mul hk).2 h, Nat.mod_lt _ hk, by rw [Nat.mul_comm]; exact (Nat.div_add_mod j k).symm⟩
theorem RtsAt.news {w : World} {a : Option Addr} {l : List Rt} (h : RtsAt w a l) (b : Addr) (hb : a = some b) : ∀ j u, (rowsR l)[j]? = some u → w.cell? (b.add j) = some u := by
  intro j u hu
  have hj : j < l.length * 3 := by rw [← rowsR_length]; exact (List.getElem?_eq_some_iff.1 hu).1
  obtain ⟨i, f, hi, hf, rfl⟩ := divmod (by omega) hj
  rw [rowsR_get l i f hi hf] at hu
  obtain ⟨b', off, e, h0, h1, h2⟩ := h.cell i hi
  rw [hb] at e
  cases e
  have hf' : f = 0 ∨ f = 1 ∨ f = 2 := by omega
  rw [Addr.add_lit, ← Nat.add_assoc]
  rcases hf' with rfl | rfl | rfl
  · rw [show u = .string l[i].h from by simpa [rtRow] using hu.symm]; exact h0
  · rw [show u = .string l[i].p from by simpa [rtRow] using hu.symm]; exact h1
  · rw [show u = .string l[i].l from by simpa [rtRow] using hu.symm]; exact h2
theorem RtsAt.nil {w : World} {l : List Rt} (h : RtsAt w none l) : l.length = 0 := by
  rcases Nat.eq_zero_or_pos l.length with h0 | h0
  · exact h0
  · obtain ⟨b, off, e, _⟩ := h.cell 0 h0
    cases e
theorem own_routes {E : Nat} {w : World} {g c : Nat} {l : List Rt} (h : w.ownsRow E 67 3 (.slice (some ⟨g, 0, none⟩) l.length c) l.length (rowsR l)) (hs : ∀ r ∈ l, r.h.size ≤ maxLen ∧ r.p.size ≤ maxLen ∧ r.l.size ≤ maxLen) : RtsAt w (some ⟨g, 0, none⟩) l ∧ l.length ≤ c := by
  rcases h.2 with ⟨hv, h0⟩ | ⟨g', cap, cur, hv, hb, hg, hle, hmx, hsz, ht⟩
  · cases hv
  · simp only [Value.slice.injEq, Option.some.injEq, Addr.mk.injEq, and_true, true_and] at hv
    obtain ⟨rfl, rfl⟩ := hv
    have one : ∀ i (hi : i < l.length) f, f < 3 → w.cell? ⟨g, 0 + i * 3 + f, none⟩ = (rtRow l[i])[f]? := fun i hi f hf => by
      have hk := rowsR_get l i f hi hf
      rw [Nat.zero_add, cell_of_row w g _ cur _ _ hg, ← Array.getElem?_toList]
      have hj : i * 3 + f < l.length * 3 := by omega
      rw [← ht, List.getElem?_take, if_pos hj] at hk
      exact hk
    exact ⟨⟨hs, fun i hi => ⟨g, 0, rfl, one i hi 0 (by omega), one i hi 1 (by omega), one i hi 2 (by omega)⟩⟩, hle⟩
/-! Targets. -/
theorem TgsAt.news {w : World} {a : Option Addr} {l : List Tg} (h : TgsAt w a l) (b : Addr) (hb : a = some b) : ∀ j u, (rowsT l)[j]? = some u → w.cell? (b.add j) = some u := by
  intro j u hu
  have hj : j < l.length * 2 := by rw [← rowsT_length]; exact (List.getElem?_eq_some_iff.1 hu).1
  obtain ⟨i, f, hi, hf, rfl⟩ := divmod (by omega) hj
  rw [rowsT_get l i f hi hf] at hu
  obtain ⟨b', off, e, h0, h1⟩ := h.cell i hi
  rw [hb] at e
  cases e
  have hf' : f = 0 ∨ f = 1 := by omega
  rw [Addr.add_lit, ← Nat.add_assoc]
  rcases hf' with rfl | rfl
  · rw [show u = .string l[i].1 from by simpa [tgRow] using hu.symm]; exact h0
  · rw [show u = .float .f64 l[i].2 from by simpa [tgRow] using hu.symm]; exact h1
theorem TgsAt.nil {w : World} {l : List Tg} (h : TgsAt w none l) : l.length = 0 := by
  rcases Nat.eq_zero_or_pos l.length with h0 | h0
  · exact h0
  · obtain ⟨b, off, e, _⟩ := h.cell 0 h0
    cases e
theorem OwnT.same {base : Nat} {w w' : World} {g c : Nat} {l : List Tg} (h : OwnT base w (some ⟨g, 0, none⟩) c l) (hb : w'.heap[g]? = w.heap[g]?) : OwnT base w' (some ⟨g, 0, none⟩) c l := by
  refine ⟨h.1, ?_⟩
  rcases h.2 with ⟨hv, h0⟩ | ⟨g', cap, cur, hv, hbg, hg, r⟩
  · cases hv
  · simp only [Value.slice.injEq, Option.some.injEq, Addr.mk.injEq, and_true, true_and] at hv
    obtain ⟨rfl, rfl⟩ := hv
    exact .inr ⟨g, c, cur, rfl, hbg, hb.trans hg, r⟩
theorem OwnT.is {base : Nat} {w : World} {g c : Nat} {l : List Tg} (h : OwnT base w (some ⟨g, 0, none⟩) c l) : base ≤ g ∧ g < w.heap.size ∧ l.length ≤ c := by
  rcases h.2 with ⟨hv, h0⟩ | ⟨g', cap, cur, hv, hbg, hg, hle, r⟩
  · cases hv
  · simp only [Value.slice.injEq, Option.some.injEq, Addr.mk.injEq, and_true, true_and] at hv
    obtain ⟨rfl, rfl⟩ := hv
    exact ⟨hbg, (Array.getElem?_eq_some_iff.1 hg).1, hle⟩
theorem OwnT.low {base base' : Nat} {w : World} {sp : Option Addr} {c : Nat} {l : List Tg} (h : OwnT base w sp c l) (hb : base' ≤ base) : OwnT base' w sp c l := ⟨h.1, h.2.imp id (fun ⟨g, cap, cur, h1, h2, h3⟩ => ⟨g, cap, cur, h1, Nat.le_trans hb h2, h3⟩)⟩
/-! Pools. -/
/-- A pool and where its targets lie. -/
structure Pw where
  po : Po
  g : Nat
  c : Nat
def pwRow (x : Pw) : List Value := [.string x.po.nm, .slice (some ⟨x.g, 0, none⟩) x.po.ts.length x.c]
def rowsP (l : List Pw) : List Value := l.flatMap pwRow
theorem rowsP_length (l : List Pw) : (rowsP l).length = l.length * 2 := by
  induction l with
  | nil => rfl
  | cons x xs ih =>
    simp only [rowsP, List.flatMap_cons, List.length_append, List.length_cons] at ih ⊢
    rw [ih, show (pwRow x).length = 2 from rfl]
    omega
theorem rowsP_get : ∀ (xs : List Pw) (i f : Nat) (hi : i < xs.length) (_ : f < 2), (rowsP xs)[i * 2 + f]? = (pwRow xs[i])[f]?
  | [], i, _, hi, _ => by simp at hi
  | x :: xs, 0, f, _, hf => by
    simp only [rowsP, List.flatMap_cons, Nat.zero_mul, Nat.zero_add, List.getElem_cons_zero]
    rw [List.getElem?_append_left (show f < (pwRow x).length from hf)]
  | x :: xs, i + 1, f, hi, hf => by
    have ih := rowsP_get xs i f (by simpa using hi) hf
    simp only [rowsP, List.flatMap_cons, List.getElem_cons_succ] at ih ⊢
    rw [List.getElem?_append_right (by rw [show (pwRow x).length = 2 from rfl]; omega)]
    have e4 : (i + 1) * 2 + f - (pwRow x).length = i * 2 + f := by rw [show (pwRow x).length = 2 from rfl]; omega
    rw [e4]
    exact ih
theorem pw_oneCell (x : Pw) : ∀ u ∈ pwRow x, u.oneCell' = true := by
  intro u hu
  simp only [pwRow, List.mem_cons, List.not_mem_nil, or_false] at hu
  rcases hu with rfl | rfl <;> rfl
theorem infoPo : (Tryz.prog.info? 93).map (fun i => (i.zero, i.size, i.bytes)) = some (some (.agg #[.string ByteArray.empty, .slice none 0 0]), 2, 40) := by kernel_rfl
/-- Pools of one's own, and their targets. -/
structure OwnW (base : Nat) (w : World) (sp : Option Addr) (c : Nat) (l : List Pw) : Prop where
  row : w.ownsRow base 93 2 (.slice sp l.length c) l.length (rowsP l)
  dat : ∀ x ∈ l, OwnT base w (some ⟨x.g, 0, none⟩) x.c x.po.ts ∧ sp.map (·.block) ≠ some x.g
theorem OwnW.ofNil (base : Nat) (w : World) : OwnW base w none 0 [] := ⟨w.ownsRow_nil base 93 2, by simp⟩
theorem OwnW.at_ {base : Nat} {w : World} {sp : Option Addr} {c : Nat} {l : List Pw} (h : OwnW base w sp c l) (hl : ∀ x ∈ l, (∀ t ∈ x.po.ts, t.2 < 18446744073709551616) ∧ x.po.ts.length ≤ maxLen) : PosAt w sp (l.map (·.po)) ∧ l.length ≤ c := by
  rcases h.row.2 with ⟨hv, h0⟩ | ⟨g, cap, cur, hv, hb, hg, hle, hmx, hsz, ht⟩
  · refine ⟨⟨fun i hi => ?_⟩, by omega⟩
    simp only [List.length_map] at hi
    omega
  · simp only [Value.slice.injEq] at hv
    obtain ⟨rfl, _, rfl⟩ := hv
    have one : ∀ i (hi : i < l.length) f, f < 2 → w.cell? ⟨g, 0 + i * 2 + f, none⟩ = (pwRow l[i])[f]? := fun i hi f hf => by
      have hk := rowsP_get l i f hi hf
      rw [Nat.zero_add, cell_of_row w g _ cur _ _ hg, ← Array.getElem?_toList]
      have hj : i * 2 + f < l.length * 2 := by omega
      rw [← ht, List.getElem?_take, if_pos hj] at hk
      exact hk
    refine ⟨⟨fun i hi => ?_⟩, hle⟩
    have hi' : i < l.length := by simpa using hi
    have e : (l.map (·.po))[i] = l[i].po := by simp
    rw [e]
    have hm := List.getElem_mem hi'
    obtain ⟨ho, _⟩ := h.dat _ hm
    exact ⟨g, 0, some ⟨l[i].g, 0, none⟩, l[i].c, rfl, one i hi' 0 (by omega), one i hi' 1 (by omega), ho.at_ (hl _ hm).1, ⟨(hl _ hm).2, ho.is.2.2⟩, fun h => by cases h⟩
theorem OwnW.same {base : Nat} {w w' : World} {sp : Option Addr} {c : Nat} {l : List Pw} (h : OwnW base w sp c l) (hb : ∀ g, base ≤ g → g < w.heap.size → w'.heap[g]? = w.heap[g]?) : OwnW base w' sp c l := by
  refine ⟨⟨h.row.1, ?_⟩, fun x hx => ⟨(h.dat x hx).1.same (hb _ (h.dat x hx).1.is.1 (h.dat x hx).1.is.2.1), (h.dat x hx).2⟩⟩
  rcases h.row.2 with hv | ⟨g, cap, cur, hv, hbg, hg, r⟩
  · exact .inl hv
  · exact .inr ⟨g, cap, cur, hv, hbg, (hb g hbg (Array.getElem?_eq_some_iff.1 hg).1).trans hg, r⟩
theorem run_appendW {base : Nat} {w : World} {sp : Option Addr} {c : Nat} {l : List Pw} (hown : OwnW base w sp c l) (B : Nat) (x : Pw) (hB : w.heap[B]? = some (.cells (pwRow x).toArray 93 (0, 0))) (hd : OwnT base w (some ⟨x.g, 0, none⟩) x.c x.po.ts) (hne : sp.map (·.block) ≠ some x.g) (hn : l.length ≤ 1000) (hbase : base ≤ w.heap.size) (ty : TypeId) :
    ∃ sp' c' w', (Builtin.append_ #[51, 51] ty #[.slice sp l.length c, .slice (some ⟨B, 0, none⟩) 1 1]).run Tryz.prog w = .ok (.slice sp' (l.length + 1) c') w' ∧ OwnW base w' sp' c' (l ++ [x]) ∧ Below base w w' := by
  obtain ⟨i0, hi, hz0, hz1, hz2⟩ := info_parts infoPo
  obtain ⟨v', w', hrun, h1, h2, _, h5⟩ := run_append_own_at (P := Tryz.prog) w base 51 ty 93 i0 _ 2 40 Tryz.underlying51 hi hz0 hz1 hz2 rfl (by omega) _ _ _ hown.row ⟨B, 0, none⟩ 1 1 (pwRow x) rfl
    (fun j u hu => by have := World.news_of_block hB j u; simp only at this; exact this hu) (pw_oneCell x) (by simp only [maxLen]; omega) (by omega) hbase
  have hob : ∀ (s : Option Addr) (n c : Nat), (Value.slice s n c).ownBlock = s.map (·.block) := fun s n c => by cases s <;> rfl
  have hv : ∃ sp' c', v' = .slice sp' (l.length + 1) c' := by
    rcases h1.2 with ⟨hv, h0⟩ | ⟨g, cap, cur, hv, _⟩
    · omega
    · exact ⟨_, _, hv⟩
  obtain ⟨sp', c', rfl⟩ := hv
  rw [hob] at h2
  rw [hob, hob] at h5
  have hlow : ∀ g, sp.map (·.block) = some g → base ≤ g := fun g hg => by
    rcases hown.row.2 with ⟨hv, h0⟩ | ⟨g', cap, cur, hv, hbg, _⟩
    · simp only [Value.slice.injEq] at hv
      rw [hv.1] at hg
      cases hg
    · simp only [Value.slice.injEq] at hv
      rw [hv.1] at hg
      cases hg
      exact hbg
  have one : ∀ y : Pw, OwnT base w (some ⟨y.g, 0, none⟩) y.c y.po.ts → sp.map (·.block) ≠ some y.g → OwnT base w' (some ⟨y.g, 0, none⟩) y.c y.po.ts ∧ sp'.map (·.block) ≠ some y.g := fun y ho hy => by
    have hi := ho.is
    refine ⟨ho.same (h2.block _ hi.2.1 (fun e => hy e.symm)), fun e => ?_⟩
    rcases h5 with h5 | h5
    · exact hy (h5.symm.trans e)
    · rw [h5] at e
      have := Option.some.inj e
      omega
  refine ⟨sp', c', w', hrun, ⟨?_, fun y hy => ?_⟩, (Below.refl base w).grown h2 hbase hlow⟩
  · rw [List.length_append, show rowsP (l ++ [x]) = rowsP l ++ pwRow x from by simp [rowsP]]
    exact h1
  · rcases List.mem_append.1 hy with hy | hy
    · exact one y (hown.dat y hy).1 (hown.dat y hy).2
    · obtain rfl : y = x := by simpa using hy
      exact one y hd hne
theorem step_appendW {w : World} {ops : Array Oper} {o : Oper} {a : Act} {K : Act → World → Prop} {Q : Exit → Act → World → Prop} {E0 : Prop} (hgd : o.guard = none) (s x : Operand)
    (ho : o.op = .call { callee := .builtin .append, args := #[s, x], argTypes := #[51, 51] })
    (base : Nat) (sp : Option Addr) (n c : Nat) (l : List Pw) (hs : a.eval s = .slice sp n c) (hn : l.length = n) (hown : OwnW base w sp c l) (B : Nat) (y : Pw) (hx : a.eval x = .slice (some ⟨B, 0, none⟩) 1 1)
    (hB : w.heap[B]? = some (.cells (pwRow y).toArray 93 (0, 0))) (hd : OwnT base w (some ⟨y.g, 0, none⟩) y.c y.po.ts) (hne : sp.map (·.block) ≠ some y.g) (hsz : n ≤ 1000) (hbase : base ≤ w.heap.size)
    (hk : ∀ sp' c' w', OwnW base w' sp' c' (l ++ [y]) → Below base w w' → K (a.put o.dst (.slice sp' (n + 1) c')) w') :
    if Region.wanted o (yielded ops a.tmps) = true then Oper.wp Tryz.prog o a w K Q else E0 := by
  subst hn
  have hw : Region.wanted o (yielded ops a.tmps) = true := by simp [Region.wanted, hgd]
  rw [if_pos hw]
  obtain ⟨sp', c', w', hrun, h1, h2⟩ := run_appendW hown B y hB hd hne hsz hbase o.type
  unfold Oper.wp
  simp [execOp, ho, resolve, invoke, builtin, hs, hx, hrun, Result.andThen]
  exact hk sp' c' w' h1 h2
end Go.Proofs.YtpkpnedcecjlbaaGreatDoor
end
/- Plane: a configuration copied, by the document. -/
section
namespace Go.Proofs.YtpkpnedcecjlbaaGreatDoor
open Go.ChangeShapes Go.WideShapes Go.ChangeAt Go.RowKit

theorem big_each (l : List Po) : ∀ n, n ≤ bigN l n ∧ ∀ i, i < n → min (l.getD i default).ts.length 1000 ≤ bigN l n
  | 0 => ⟨Nat.zero_le _, fun i hi => by omega⟩
  | n + 1 => by
    obtain ⟨h1, h2⟩ := big_each l n
    have e : bigN l (n + 1) = bigN l n + (1 + min (l.getD n default).ts.length 1000) := rfl
    refine ⟨by omega, fun i hi => ?_⟩
    by_cases hin : i < n
    · have := h2 i hin
      omega
    · obtain rfl : i = n := by omega
      omega
theorem short_each {e : Cf} (h : shortC e = true) : e.rs.length ≤ 200 ∧ e.ps.length ≤ 200 ∧ ∀ p ∈ e.ps, p.ts.length ≤ 200 := by
  simp only [shortC, Bool.and_eq_true, decide_eq_true_eq] at h
  obtain ⟨h1, h2⟩ := big_each e.ps e.ps.length
  refine ⟨h.2, by omega, fun p hp => ?_⟩
  obtain ⟨i, hi, rfl⟩ := List.getElem_of_mem hp
  have h3 := h2 i hi
  rw [po_at _ _ hi] at h3
  omega
/-- No more routes, pools and targets than may be copied. -/
def SmallC (e : Cf) : Prop := e.rs.length ≤ 1000 ∧ e.ps.length ≤ 1000 ∧ ∀ p ∈ e.ps, p.ts.length ≤ 1000
theorem short_small {e : Cf} (h : shortC e = true) : SmallC e := by
  obtain ⟨h1, h2, h3⟩ := short_each h
  exact ⟨by omega, by omega, fun p hp => by have := h3 p hp; omega⟩
theorem own_stays {base : Nat} {w w' : World} {T : TypeId} {k n g c : Nat} {xs : List Value} (h : w.ownsRow base T k (.slice (some ⟨g, 0, none⟩) n c) n xs) (hb : base ≤ g → g < w.heap.size → w'.heap[g]? = w.heap[g]?) : w'.ownsRow base T k (.slice (some ⟨g, 0, none⟩) n c) n xs := by
  refine ⟨h.1, ?_⟩
  rcases h.2 with ⟨hv, h0⟩ | ⟨g', cap, cur, hv, hbg, hg, r⟩
  · cases hv
  · simp only [Value.slice.injEq, Option.some.injEq, Addr.mk.injEq, and_true, true_and] at hv
    obtain ⟨rfl, rfl⟩ := hv
    exact .inr ⟨g, c, cur, rfl, hbg, (hb hbg (Array.getElem?_eq_some_iff.1 hg).1).trans hg, r⟩
theorem OwnW.blk_lt {base : Nat} {w : World} {sp : Option Addr} {c : Nat} {l : List Pw} (h : OwnW base w sp c l) : ∀ g, sp.map (·.block) = some g → g < w.heap.size := fun g hg => by
  rcases h.row.2 with ⟨hv, h0⟩ | ⟨g', cap, cur, hv, hbg, hh, _⟩
  · simp only [Value.slice.injEq] at hv
    rw [hv.1] at hg
    cases hg
  · simp only [Value.slice.injEq] at hv
    rw [hv.1] at hg
    cases hg
    exact (Array.getElem?_eq_some_iff.1 hh).1
theorem grown_low {V W U : World} {C : Nat} (h : V.grownBy W (some C)) (hb : Below V.heap.size W U) : V.grownBy U (some C) :=
  ⟨hb.os.trans h.os, hb.tape.trans h.tape, hb.output.trans h.output, Nat.le_trans h.size hb.size, fun k hk hne => (hb.block k hk).trans (h.block k hk hne)⟩
theorem grown_same {V W U : World} {C : Nat} (h : V.grownBy W (some C)) (k : W.grownBy U (some C)) : V.grownBy U (some C) :=
  ⟨k.os.trans h.os, k.tape.trans h.tape, k.output.trans h.output, Nat.le_trans h.size k.size, fun i hi hne => (k.block i (Nat.lt_of_lt_of_le hi h.size) hne).trans (h.block i hi hne)⟩
theorem OwnW.low {base base' : Nat} {w : World} {sp : Option Addr} {c : Nat} {l : List Pw} (h : OwnW base w sp c l) (hb : base' ≤ base) : OwnW base' w sp c l := ⟨⟨h.row.1, h.row.2.imp id (fun ⟨g, cap, cur, h1, h2, h3⟩ => ⟨g, cap, cur, h1, Nat.le_trans hb h2, h3⟩)⟩, fun x hx => ⟨(h.dat x hx).1.low hb, (h.dat x hx).2⟩⟩
/-- How far the copy is. -/
def CpI (ver : Int) (C g n c3 : Nat) (ps : List Po) (V : World) (j : Nat) (wr : World) : Prop :=
  ∃ sp c l, List.map Pw.po l = ps.take j ∧ l.length = j ∧ OwnW V.heap.size wr sp c l ∧ wr.heap[C]? = some (.cells #[.int .i64 ver, .slice (some ⟨g, 0, none⟩) n c3, .slice sp j c] 53 (0, 0)) ∧ V.grownBy wr (some C)
end Go.Proofs.YtpkpnedcecjlbaaGreatDoor
end
/- Plane: slices.Clone of routes and of targets. -/
section
namespace Go.Proofs.YtpkpnedcecjlbaaGreatDoor
open Go.ChangeShapes Go.WideShapes Go.ChangeAt Go.RowKit
set_option linter.unusedVariables false

theorem wpList_cloneG {w : World} {ops : Array Oper} {o : Oper} {rest : List Oper} {a : Act} {Q : Exit → Act → World → Prop} (hgd : o.guard = none) (s x : Operand) (t e : TypeId)
    (ho : o.op = .call { callee := .builtin .append, args := #[s, x], argTypes := #[t, t] })
    (i : TypeInfo) (z : Value) (size bytes : Nat) (ht : Tryz.prog.underlying t = some (.slice e)) (hi : Tryz.prog.info? e = some i) (hz : i.zero = some z) (hsize : i.size = size) (hby : i.bytes = bytes) (hzs : z.cells.size = size) (hsz : 0 < size)
    (E : Nat) (hs : a.eval s = .slice (some ⟨E, 0, none⟩) 0 0) (hE : w.heap[E]? = some (.cells #[] e (0, 0))) (ad : Option Addr) (m c : Nat) (hx : a.eval x = .slice ad m c) (hn : ad = none → m = 0 ∧ c = 0) (news : List Value) (hl : news.length = m * size)
    (hnews : ∀ b, ad = some b → ∀ j u, news[j]? = some u → w.cell? (b.add j) = some u) (h1 : ∀ u ∈ news, u.oneCell' = true) (hm : m ≤ 1000) (hbytes : m * bytes ≤ 140737488355328)
    (hk : ∀ g c' w', w'.ownsRow E e size (.slice (some ⟨g, 0, none⟩) m c') m news → w.grownBy w' (some E) → (g = E ∨ g = w.heap.size) → wpList Tryz.prog ops Q rest (a.put o.dst (.slice (some ⟨g, 0, none⟩) m c')) w') :
    wpList Tryz.prog ops Q (o :: rest) a w := by
  refine wpList_plain hgd fun K hK => ?_
  obtain ⟨g, c', w', hrun, h2, h3, h4⟩ := run_cloneG t o.type e i z size bytes ht hi hz hsize hby hzs hsz E hE ad m c hn news hl hnews h1 hm hbytes
  unfold Oper.wp
  simp [execOp, ho, resolve, invoke, builtin, hs, hx, hrun, Result.andThen]
  exact hK _ _ (hk g c' w' h2 h3 h4)
theorem eqNilT_some (ad : Addr) (n c : Nat) (w : World) : (binOp .eql 23 (.slice (some ad) n c) (.slice none 0 0)).run Tryz.prog w = .ok (.bool false) w := by kernel_rfl
theorem eqNilT_none (n c : Nat) (w : World) : (binOp .eql 23 (.slice none n c) (.slice none 0 0)).run Tryz.prog w = .ok (.bool true) w := by kernel_rfl
set_option maxRecDepth 20000 in
set_option maxHeartbeats 4000000 in
theorem cloneT_calls (w : World) (a : Option Addr) (c : Nat) (l : List Tg) (h : TgsAt w a l) (hm : l.length ≤ 1000) :
    Calls Tryz.prog 78 #[.slice a l.length c] w fun e w' => ∃ a' c', e = .returned (.slice a' l.length c') ∧ OwnT w.heap.size w' a' c' l ∧ Below w.heap.size w w' := by
  cases a with
  | none =>
    have h0 := h.nil
    obtain rfl := List.eq_nil_of_length_eq_zero h0
    have hq := eqNilT_none 0 c w
    have H := hide h
    clear h h0 hm
    simp only [List.length_nil]
    go_enter Tryz.func78, Tryz.ntmps78
    go_wp2
    go_ret
    exact ⟨none, 0, rfl, OwnT.ofNil _ _, Below.refl _ _⟩
  | some ad =>
    have hq := eqNilT_some ad l.length c w
    have b1 := hide (show Below w.heap.size w (w.alloc (.cells #[] 43)) from (Below.refl _ _).alloc (Nat.le_refl _) _)
    have H1 := hide (h.later (unhide b1))
    have HL := hide hm
    have HI := infoT
    obtain ⟨i0, hi, hio⟩ := Option.map_eq_some_iff.1 HI
    simp only [Prod.mk.injEq] at hio
    obtain ⟨i1, i2, i3⟩ := hio
    have I0 := hide hi
    have I1 := hide i1
    have I2 := hide i2
    have I3 := hide i3
    clear h hm HI hi i1 i2 i3
    go_enter Tryz.func78, Tryz.ntmps78
    go_wp2_with (at_builtin; refine unhide ?_)
    refine hide ?_
    refine wpList_cloneG rfl (.tmp 5) (.tmp 6) 23 43 rfl i0 _ 2 24 Tryz.underlying23 (unhide I0) (unhide I1) (unhide I2) (unhide I3) rfl (by omega) w.heap.size rfl (heap_new w _) (some ad) l.length c rfl (fun e => by cases e) (rowsT l) (rowsT_length l) (unhide H1).news (tg_oneCell l) (unhide HL) (by have := unhide HL; omega) ?_
    intro g c' W2 ho hg hge
    have B2 := hide ((unhide b1).grown hg (unhide b1).size (fun g hg => by have := Option.some.inj hg; omega))
    have O2 := hide (show OwnT w.heap.size W2 (some ⟨g, 0, none⟩) c' l from ho)
    have GE := hide (show w.heap.size ≤ g by rcases hge with e | e <;> have := (unhide b1).size <;> omega)
    clear ho hg hge
    go_wp2
    go_ret
    exact ⟨some ⟨g, 0, none⟩, c', rfl, unhide O2, unhide B2⟩
/-- A pool's row: its name, and where its targets lie. -/
structure Pr where
  nm : ByteArray
  ta : Option Addr
  tn : Nat
  tc : Nat
def prRow (x : Pr) : List Value := [.string x.nm, .slice x.ta x.tn x.tc]
def rowsPr (l : List Pr) : List Value := l.flatMap prRow
theorem rowsPr_length (l : List Pr) : (rowsPr l).length = l.length * 2 := by
  induction l with
  | nil => rfl
  | cons x xs ih =>
    simp only [rowsPr, List.flatMap_cons, List.length_append, List.length_cons] at ih ⊢
    rw [ih, show (prRow x).length = 2 from rfl]
    omega
theorem rowsPr_get : ∀ (xs : List Pr) (i f : Nat) (hi : i < xs.length) (_ : f < 2), (rowsPr xs)[i * 2 + f]? = (prRow xs[i])[f]?
  | [], i, _, hi, _ => by simp at hi
  | x :: xs, 0, f, _, hf => by
    simp only [rowsPr, List.flatMap_cons, Nat.zero_mul, Nat.zero_add, List.getElem_cons_zero]
    rw [List.getElem?_append_left (show f < (prRow x).length from hf)]
  | x :: xs, i + 1, f, hi, hf => by
    have ih := rowsPr_get xs i f (by simpa using hi) hf
    simp only [rowsPr, List.flatMap_cons, List.getElem_cons_succ] at ih ⊢
    rw [List.getElem?_append_right (by rw [show (prRow x).length = 2 from rfl]; omega)]
    have e4 : (i + 1) * 2 + f - (prRow x).length = i * 2 + f := by rw [show (prRow x).length = 2 from rfl]; omega
    rw [e4]
    exact ih
theorem pr_oneCell (l : List Pr) : ∀ u ∈ rowsPr l, u.oneCell' = true := by
  intro u hu
  obtain ⟨x, _, hx⟩ := List.mem_flatMap.1 hu
  simp only [prRow, List.mem_cons, List.not_mem_nil, or_false] at hx
  rcases hx with rfl | rfl <;> rfl
structure PrsAt (w : World) (a : Option Addr) (l : List Pr) : Prop where
  cell : ∀ i (hi : i < l.length), ∃ b off, a = some ⟨b, off, none⟩ ∧ w.cell? ⟨b, off + i * 2, none⟩ = some (.string l[i].nm) ∧ w.cell? ⟨b, off + i * 2 + 1, none⟩ = some (.slice l[i].ta l[i].tn l[i].tc)
theorem PrsAt.later {w w' : World} {a : Option Addr} {l : List Pr} (h : PrsAt w a l) (hb : Below w.heap.size w w') : PrsAt w' a l :=
  ⟨fun i hi => by obtain ⟨b, off, e, h1, h2⟩ := h.cell i hi; exact ⟨b, off, e, cell_later hb h1, cell_later hb h2⟩⟩
theorem PrsAt.nil {w : World} {l : List Pr} (h : PrsAt w none l) : l.length = 0 := by
  rcases Nat.eq_zero_or_pos l.length with h0 | h0
  · exact h0
  · obtain ⟨b, off, e, _⟩ := h.cell 0 h0
    cases e
theorem PrsAt.news {w : World} {a : Option Addr} {l : List Pr} (h : PrsAt w a l) (b : Addr) (hb : a = some b) : ∀ j u, (rowsPr l)[j]? = some u → w.cell? (b.add j) = some u := by
  intro j u hu
  have hj : j < l.length * 2 := by rw [← rowsPr_length]; exact (List.getElem?_eq_some_iff.1 hu).1
  obtain ⟨i, f, hi, hf, rfl⟩ := divmod (by omega) hj
  rw [rowsPr_get l i f hi hf] at hu
  obtain ⟨b', off, e, h0, h1⟩ := h.cell i hi
  rw [hb] at e
  cases e
  have hf' : f = 0 ∨ f = 1 := by omega
  rw [Addr.add_lit, ← Nat.add_assoc]
  rcases hf' with rfl | rfl
  · rw [show u = .string l[i].nm from by simpa [prRow] using hu.symm]; exact h0
  · rw [show u = .slice l[i].ta l[i].tn l[i].tc from by simpa [prRow] using hu.symm]; exact h1
/-- Pools of one's own, their targets wherever they lie. -/
def OwnPr (base : Nat) (w : World) (sp : Option Addr) (c : Nat) (l : List Pr) : Prop := w.ownsRow base 93 2 (.slice sp l.length c) l.length (rowsPr l)
theorem OwnPr.ofNil (base : Nat) (w : World) : OwnPr base w none 0 [] := w.ownsRow_nil base 93 2
theorem OwnT.keep {base : Nat} {w w' : World} {sp : Option Addr} {c : Nat} {l : List Tg} (h : OwnT base w sp c l) (hb : ∀ g, sp.map (·.block) = some g → base ≤ g → g < w.heap.size → w'.heap[g]? = w.heap[g]?) : OwnT base w' sp c l := by
  refine ⟨h.1, ?_⟩
  rcases h.2 with hv | ⟨g', cap, cur, hv, hbg, hg, r⟩
  · exact .inl hv
  · have hv' := hv
    simp only [Value.slice.injEq] at hv'
    obtain ⟨rfl, _⟩ := hv'
    exact .inr ⟨g', cap, cur, hv, hbg, (hb g' rfl hbg (Array.getElem?_eq_some_iff.1 hg).1).trans hg, r⟩
theorem OwnT.lt {base : Nat} {w : World} {sp : Option Addr} {c : Nat} {l : List Tg} (h : OwnT base w sp c l) (g : Nat) (hg : sp.map (·.block) = some g) : base ≤ g ∧ g < w.heap.size := by
  rcases h.2 with ⟨hv, _⟩ | ⟨g', cap, cur, hv, hbg, hg', r⟩
  · simp only [Value.slice.injEq] at hv
    obtain ⟨rfl, _⟩ := hv
    cases hg
  · simp only [Value.slice.injEq] at hv
    obtain ⟨rfl, _⟩ := hv
    cases hg
    exact ⟨hbg, (Array.getElem?_eq_some_iff.1 hg').1⟩
theorem OwnT.cap {base : Nat} {w : World} {sp : Option Addr} {c : Nat} {l : List Tg} (h : OwnT base w sp c l) : l.length ≤ c ∧ (sp = none → c = 0) := by
  rcases h.2 with ⟨hv, h0⟩ | ⟨g', cap, cur, hv, hbg, hg', hle, r⟩
  · simp only [Value.slice.injEq] at hv
    exact ⟨by omega, fun _ => hv.2.2⟩
  · simp only [Value.slice.injEq] at hv
    obtain ⟨rfl, _, rfl⟩ := hv
    exact ⟨hle, fun e => by cases e⟩
end Go.Proofs.YtpkpnedcecjlbaaGreatDoor
end
