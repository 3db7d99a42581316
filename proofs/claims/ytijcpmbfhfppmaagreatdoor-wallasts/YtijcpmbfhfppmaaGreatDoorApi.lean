/- Slices of numbers that the call itself makes by append: laws for the walk. -/
import Derived.Test.YtijcpmbfhfppmaaGreatDoorApp
import Derived.Test.YtijcpmbfhfppmaaGreatDoorArgi
namespace Go.Proofs.YtijcpmbfhfppmaaGreatDoor
open Go.ChangeShapes Go.WideShapes Go.ChangeAt Go.RowKit

theorem info64 : (Tryz.prog.info? 3).map (fun i => (i.zero, i.size, i.bytes)) = some (some (.int .i64 0), 1, 8) := by kernel_rfl
abbrev iV : Int → Value := Value.int .i64
/-- A slice of numbers in memory of the call's own, from block 'base' on. -/
structure OwnI (base : Nat) (w : World) (sp : Option Addr) (c : Nat) (l : List Int) : Prop where
  owns : w.ownsRow base 3 1 (.slice sp l.length c) l.length (l.map iV)
  bd : ∀ n ∈ l, -9223372036854775808 ≤ n ∧ n ≤ 9223372036854775807
theorem OwnI.ints {base : Nat} {w : World} {sp : Option Addr} {c : Nat} {l : List Int} (h : OwnI base w sp c l) : IntsAt w sp l := by
  refine ⟨h.bd, fun i hi => ?_⟩
  rcases h.owns.2 with ⟨hv, h0⟩ | ⟨g, cap, cur, hv, _, hg, _, _, _, ht⟩
  · omega
  · cases hv
    refine ⟨g, 0, rfl, ?_⟩
    rw [cell_of_row w g (0 + i) cur _ _ hg, Nat.zero_add]
    have e : (l.map iV)[i]? = some (iV l[i]) := by
      rw [List.getElem?_map, List.getElem?_eq_getElem hi]; rfl
    rw [← ht, List.getElem?_take, if_pos (by omega)] at e
    rw [← Array.getElem?_toList]
    exact e
theorem OwnI.cap {base : Nat} {w : World} {sp : Option Addr} {c : Nat} {l : List Int} (h : OwnI base w sp c l) : l.length ≤ c ∧ c ≤ maxLen := by
  rcases h.owns.2 with ⟨hv, h0⟩ | ⟨g, cap, cur, hv, _, hg, h1, h2, _, ht⟩
  · simp only [Value.slice.injEq] at hv
    obtain ⟨_, _, rfl⟩ := hv
    exact ⟨by omega, by simp [maxLen]⟩
  · simp only [Value.slice.injEq] at hv
    obtain ⟨_, _, rfl⟩ := hv
    exact ⟨h1, h2⟩
theorem OwnI.nil0 {base : Nat} {w : World} {sp : Option Addr} {c : Nat} {l : List Int} (h : OwnI base w sp c l) : sp = none → c = 0 := by
  rcases h.owns.2 with ⟨hv, h0⟩ | ⟨g, cap, cur, hv, _⟩
  · simp only [Value.slice.injEq] at hv
    exact fun _ => hv.2.2
  · simp only [Value.slice.injEq] at hv
    intro e
    rw [e] at hv
    cases hv.1
theorem OwnI.empty (w : World) (base : Nat) (hb : base ≤ w.heap.size) : OwnI base (w.alloc (.cells #[] 3)) (some ⟨w.heap.size, 0, none⟩) 0 [] :=
  ⟨⟨rfl, .inr ⟨w.heap.size, 0, #[], rfl, hb, heap_new _ _, Nat.le_refl _, by simp [maxLen], rfl, rfl⟩⟩, by simp⟩
theorem OwnI.ofNil (w : World) (base : Nat) : OwnI base w none 0 [] := ⟨w.ownsRow_nil base 3 1, by simp⟩
theorem OwnI.later {base : Nat} {w w' : World} {sp : Option Addr} {c : Nat} {l : List Int} (h : OwnI base w sp c l) (hb : Below w.heap.size w w') : OwnI base w' sp c l := by
  refine ⟨⟨h.owns.1, ?_⟩, h.bd⟩
  rcases h.owns.2 with hv | ⟨g, cap, cur, hv, hbg, hg, r⟩
  · exact .inl hv
  · exact .inr ⟨g, cap, cur, hv, hbg, (hb.block g (Array.getElem?_eq_some_iff.1 hg).1).trans hg, r⟩
theorem OwnI.mono {base base' : Nat} {w : World} {sp : Option Addr} {c : Nat} {l : List Int} (h : OwnI base w sp c l) (hb : base' ≤ base) : OwnI base' w sp c l := by
  refine ⟨⟨h.owns.1, ?_⟩, h.bd⟩
  rcases h.owns.2 with hv | ⟨g, cap, cur, hv, hbg, r⟩
  · exact .inl hv
  · exact .inr ⟨g, cap, cur, hv, by omega, r⟩
theorem OwnI.ofBlock {base g : Nat} {w : World} {l : List Int} (hg : w.heap[g]? = some (.cells (l.map iV).toArray 3 (0, 0))) (hbg : base ≤ g) (hl : ∀ n ∈ l, -9223372036854775808 ≤ n ∧ n ≤ 9223372036854775807) (hm : l.length ≤ maxLen) : OwnI base w (some ⟨g, 0, none⟩) l.length l :=
  ⟨⟨by simp, .inr ⟨g, l.length, (l.map iV).toArray, rfl, hbg, hg, Nat.le_refl _, hm, by simp, by rw [Nat.mul_one]; exact List.take_of_length_le (by simp)⟩⟩, hl⟩
theorem OwnI.kept {base : Nat} {w w' : World} {sp : Option Addr} {c : Nat} {l : List Int} {row : Option Nat} (h : OwnI base w sp c l) (hg : w.grownBy w' row) (hne : ∀ g, blk sp = some g → row ≠ some g) : OwnI base w' sp c l := by
  refine ⟨⟨h.owns.1, ?_⟩, h.bd⟩
  rcases h.owns.2 with hv | ⟨g, cap, cur, hv, hbg, hgg, r⟩
  · exact .inl hv
  · refine .inr ⟨g, cap, cur, hv, hbg, (hg.block g (Array.getElem?_eq_some_iff.1 hgg).1 (fun e => hne g ?_ e.symm)).trans hgg, r⟩
    simp only [Value.slice.injEq] at hv
    rw [hv.1]
    rfl
theorem OwnI.blk_lt {base : Nat} {w : World} {sp : Option Addr} {c : Nat} {l : List Int} (h : OwnI base w sp c l) : ∀ g, blk sp = some g → base ≤ g ∧ g < w.heap.size := by
  intro g hg
  have := h.owns.lt g (by rw [ownBlock_slice]; exact hg)
  exact this
theorem IntsAt.kept {w w' : World} {a : Option Addr} {l : List Int} {row : Option Nat} (h : IntsAt w a l) (hg : w.grownBy w' row) (hne : ∀ b off, a = some ⟨b, off, none⟩ → row ≠ some b) : IntsAt w' a l :=
  ⟨h.bd, fun i hi => by
    obtain ⟨b, off, e, hc⟩ := h.cell i hi
    refine ⟨b, off, e, ?_⟩
    have hlt : b < w.heap.size := by
      rcases Nat.lt_or_ge b w.heap.size with h1 | h1
      · exact h1
      · have : w.heap[b]? = none := Array.getElem?_eq_none h1
        simp [World.cell?, this] at hc
    have e2 := hg.block b hlt (fun e' => hne b off e e'.symm)
    simp only [World.cell?, e2] at hc ⊢
    exact hc⟩
theorem IntsAt.take {w : World} {a : Option Addr} {l : List Int} (h : IntsAt w a l) (k : Nat) : IntsAt w a (l.take k) :=
  ⟨fun n hn => h.bd n (List.mem_of_mem_take hn), fun i hi => by
    rw [List.length_take] at hi
    obtain ⟨b, off, e, hc⟩ := h.cell i (by omega)
    exact ⟨b, off, e, by rw [List.getElem_take]; exact hc⟩⟩
theorem cells_of_intsAt {w : World} {a : Option Addr} {l : List Int} (hb : IntsAt w a l) (h : 0 < (l.map iV).length) : ∃ ad, a = some ad ∧ ∀ j v, (l.map iV)[j]? = some v → w.cell? (ad.add j) = some v := by
  rw [List.length_map] at h
  obtain ⟨b, off, rfl, _⟩ := hb.cell 0 h
  refine ⟨_, rfl, fun j v hv => ?_⟩
  have hj : j < l.length := by
    rcases Nat.lt_or_ge j l.length with h1 | h1
    · exact h1
    · rw [List.getElem?_eq_none (by rw [List.length_map]; exact h1)] at hv; cases hv
  obtain ⟨b', off', e, hc⟩ := hb.cell j hj
  cases e
  rw [List.getElem?_map, List.getElem?_eq_getElem hj] at hv
  cases hv
  rw [Addr.add_lit]
  exact hc
theorem oneCell_ints (l : List Int) : ∀ v ∈ l.map iV, v.oneCell' = true := by
  intro v hv
  obtain ⟨x, _, rfl⟩ := List.mem_map.1 hv
  rfl
/-- What an append of numbers leaves. -/
theorem run_appendI {w : World} (base : Nat) (sp : Option Addr) (c : Nat) (l : List Int) (hown : OwnI base w sp c l) (xp : Option Addr) (m xc : Nat) (k : List Int) (hk : k.length = m) (hB : IntsAt w xp k) (hx0 : xp = none → xc = 0)
    (hsz : (l.length + m) * 8 ≤ 140737488355328) (hbase : base ≤ w.heap.size) (ty : TypeId) :
    ∃ sp' c' w', (Builtin.append_ #[32, 32] ty #[.slice sp l.length c, .slice xp m xc]).run Tryz.prog w = .ok (.slice sp' (l ++ k).length c') w' ∧ OwnI base w' sp' c' (l ++ k) ∧ w.grownBy w' (blk sp) ∧ ∀ g, blk sp' = some g → blk sp = some g ∨ w.heap.size ≤ g := by
  subst hk
  obtain ⟨i0, hi, hz0, hz1, hz2⟩ := info_parts info64
  have hbd : ∀ n ∈ l ++ k, -9223372036854775808 ≤ n ∧ n ≤ 9223372036854775807 := fun c hc => (List.mem_append.1 hc).elim (hown.bd c) (hB.bd c)
  cases xp with
  | none =>
    have hk0 : k = [] := by
      cases k with
      | nil => rfl
      | cons x r => obtain ⟨b, off, h, _⟩ := hB.cell 0 (by simp); cases h
    subst hk0
    rw [hx0 rfl]
    have hrun := run_append_owned_none (P := Tryz.prog) (w := w) base 32 ty 3 i0 1 Tryz.underlying32 hi _ _ _ hown.owns
    refine ⟨sp, c, w, ?_, ?_, ⟨rfl, rfl, rfl, Nat.le_refl _, fun _ _ _ => rfl⟩, fun g hg => .inl hg⟩
    · rw [List.append_nil]; exact hrun
    · rw [List.append_nil]; exact hown
  | some x =>
    obtain ⟨v', w', hrun, h1, h2, _, h5⟩ := run_append_own_at (P := Tryz.prog) w base 32 ty 3 i0 (.int .i64 0) 1 8 Tryz.underlying32 hi hz0 hz1 hz2 rfl (by omega) _ _ _ hown.owns x k.length xc (k.map iV) (by simp)
      (fun j u hu => by
        have h0 : 0 < (k.map iV).length := by
          rcases Nat.eq_zero_or_pos (k.map iV).length with h | h
          · rw [List.getElem?_eq_none (by omega)] at hu; cases hu
          · exact h
        obtain ⟨ad, had, hc⟩ := cells_of_intsAt hB h0
        cases had
        exact hc j u hu) (oneCell_ints k) (by simp only [maxLen]; omega) (by omega) hbase
    rw [← List.map_append, ← List.length_append] at h1
    have hv : ∃ sp' c', v' = .slice sp' (l ++ k).length c' := by
      rcases h1.2 with ⟨hv, h0⟩ | ⟨g, cap, cur, hv, _⟩
      · exact ⟨none, 0, by rw [hv, h0]⟩
      · exact ⟨_, _, hv⟩
    obtain ⟨sp', c', rfl⟩ := hv
    rw [ownBlock_slice, ownBlock_slice] at h5
    rw [ownBlock_slice] at h2
    refine ⟨sp', c', w', hrun, ⟨h1, hbd⟩, h2, fun g hg => ?_⟩
    rcases h5 with h5 | h5
    · exact .inl (h5.symm.trans hg)
    · rw [h5] at hg
      exact .inr (Nat.le_of_eq (Option.some.inj hg))
theorem wpList_appendI {w : World} {ops : Array Oper} {rest : List Oper} {o : Oper} {a : Act} {Q : Exit → Act → World → Prop} (hgd : o.guard = none) (s x : Operand)
    (ho : o.op = .call { callee := .builtin .append, args := #[s, x], argTypes := #[32, 32] })
    (base : Nat) (sp : Option Addr) (n c : Nat) (l : List Int) (hs : a.eval s = .slice sp n c) (hn : l.length = n) (hown : OwnI base w sp c l)
    (xp : Option Addr) (m xc : Nat) (hx : a.eval x = .slice xp m xc) (k : List Int) (hk : k.length = m) (hB : IntsAt w xp k) (hx0 : xp = none → xc = 0)
    (hsz : (l.length + m) * 8 ≤ 140737488355328) (hbase : base ≤ w.heap.size)
    (h : ∀ sp' n' c' w', Hid ((l ++ k).length = n') → OwnI base w' sp' c' (l ++ k) → Grew w sp w' sp' → wpList Tryz.prog ops Q rest (a.put o.dst (.slice sp' n' c')) w') :
    wpList Tryz.prog ops Q (o :: rest) a w := by
  subst hn
  refine wpList_plain hgd fun K hK => ?_
  obtain ⟨sp', c', w', hrun, h1, h2, h3⟩ := run_appendI (w := w) base sp c l hown xp m xc k hk hB hx0 hsz hbase o.type
  unfold Oper.wp
  simp [execOp, ho, resolve, invoke, builtin, hs, hx, hrun, Result.andThen]
  have := hK _ _ (h sp' (l ++ k).length c' w' rfl h1 ⟨h2, h3⟩)
  rw [List.length_append] at this
  exact this
theorem step_appendI {w : World} {ops : Array Oper} {o : Oper} {a : Act} {K : Act → World → Prop} {Q : Exit → Act → World → Prop} {E : Prop} (hgd : o.guard = none) (s x : Operand)
    (ho : o.op = .call { callee := .builtin .append, args := #[s, x], argTypes := #[32, 32] })
    (base : Nat) (sp : Option Addr) (n c : Nat) (l : List Int) (hs : a.eval s = .slice sp n c) (hn : l.length = n) (hown : OwnI base w sp c l)
    (xp : Option Addr) (m xc : Nat) (hx : a.eval x = .slice xp m xc) (k : List Int) (hk : k.length = m) (hB : IntsAt w xp k) (hx0 : xp = none → xc = 0)
    (hsz : (l.length + m) * 8 ≤ 140737488355328) (hbase : base ≤ w.heap.size)
    (h : ∀ sp' n' c' w', Hid ((l ++ k).length = n') → OwnI base w' sp' c' (l ++ k) → Grew w sp w' sp' → K (a.put o.dst (.slice sp' n' c')) w') :
    if Region.wanted o (yielded ops a.tmps) = true then Oper.wp Tryz.prog o a w K Q else E := by
  subst hn
  have hw : Region.wanted o (yielded ops a.tmps) = true := by simp [Region.wanted, hgd]
  rw [if_pos hw]
  obtain ⟨sp', c', w', hrun, h1, h2, h3⟩ := run_appendI (w := w) base sp c l hown xp m xc k hk hB hx0 hsz hbase o.type
  unfold Oper.wp
  simp [execOp, ho, resolve, invoke, builtin, hs, hx, hrun, Result.andThen]
  have := h sp' (l ++ k).length c' w' rfl h1 ⟨h2, h3⟩
  rw [List.length_append] at this
  exact this
theorem GrewI.below {base : Nat} {w w' : World} {sp sp' : Option Addr} {c : Nat} {l : List Int} (h : Grew w sp w' sp') (ho : OwnI base w sp c l) (hb : base ≤ w.heap.size) : Below base w w' :=
  (Below.refl base w).grown h.grown hb (fun j hj => (ho.blk_lt j hj).1)
/-- One number in a new block. -/
theorem ints_one {w : World} {g : Nat} {n : Int} {T : TypeId} {fr : Nat × Nat} (h : w.heap[g]? = some (.cells #[.int .i64 n] T fr)) (hn : -9223372036854775808 ≤ n ∧ n ≤ 9223372036854775807) : IntsAt w (some ⟨g, 0, none⟩) [n] :=
  ⟨by simpa using hn, fun i hi => by
    have : i = 0 := by simpa using hi
    subst this
    exact ⟨g, 0, rfl, by rw [cell_of_row _ _ _ _ _ _ h]; rfl⟩⟩
end Go.Proofs.YtijcpmbfhfppmaaGreatDoor
