/- Rows of bytes that came in, rows that the call gathers, and frames one behind the other (plain). -/
import Derived.Test.YtmjojfngdfnababFar
import Derived.Test.YtmjojfngdfnababArg
import Derived.Deep.Matrix
namespace Go.Proofs.Ytmjojfngdfnabab
open Go.ChangeShapes Go.WideShapes Go.ChangeAt Go.RowKit

/-- Rows that the call gathers: the row of slices is its own, what they hold lies where it lay in w0. -/
structure OwnW (base : Nat) (w0 w : World) (v : Value) (hs : List (List Nat)) : Prop where
  ex : ∃ cs : List Value, w.ownsRow base 22 1 v hs.length cs ∧ ∀ i, i < hs.length → ∃ p c, cs[i]? = some (.slice p (hs.getD i []).length c) ∧ BytesAt w0 p (hs.getD i [])
theorem OwnW.ofNil (base : Nat) (w0 w : World) : OwnW base w0 w (.slice none 0 0) [] := ⟨⟨[], w.ownsRow_nil base 22 1, by simp⟩⟩
theorem OwnW.form {base : Nat} {w0 w : World} {v : Value} {hs : List (List Nat)} (h : OwnW base w0 w v hs) : ∃ sp c, v = .slice sp hs.length c := by
  obtain ⟨cs, ho, _⟩ := h.ex
  rcases ho.2 with ⟨hv, h0⟩ | ⟨g, cap, cur, hv, _⟩
  · exact ⟨none, 0, by rw [hv, h0]⟩
  · exact ⟨_, _, hv⟩
theorem OwnW.later {base : Nat} {w0 w w' : World} {v : Value} {hs : List (List Nat)} (h : OwnW base w0 w v hs) (hb : Below w.heap.size w w') : OwnW base w0 w' v hs := by
  obtain ⟨cs, ho, hc⟩ := h.ex
  refine ⟨⟨cs, ⟨ho.1, ?_⟩, hc⟩⟩
  rcases ho.2 with hv | ⟨g, cap, cur, hv, hbg, hg, r⟩
  · exact .inl hv
  · exact .inr ⟨g, cap, cur, hv, hbg, (hb.block g (Array.getElem?_eq_some_iff.1 hg).1).trans hg, r⟩
/-- A row of bytes and a row of slices don't lie in one block. -/
theorem OwnB.farW {base : Nat} {w w' : World} {sp : Option Addr} {c : Nat} {l : List Nat} {v : Value} {n : Nat} {cs : List Value} (h : OwnB base w sp c l) (ho : w.ownsRow base 22 1 v n cs) (hg : w.grownBy w' v.ownBlock) : OwnB base w' sp c l := by
  refine ⟨⟨h.owns.1, ?_⟩, h.lt⟩
  rcases h.owns.2 with hv | ⟨g', cap, cur, hv, hbg, hg', r⟩
  · exact .inl hv
  · refine .inr ⟨g', cap, cur, hv, hbg, ?_, r⟩
    rw [hg.block g' (Array.getElem?_eq_some_iff.1 hg').1 ?_]
    · exact hg'
    · intro e
      rcases ho.2 with ⟨hv, _⟩ | ⟨gg, cap, cc, hv, _, hgg, _⟩
      · rw [hv] at e; simp [Value.ownBlock] at e
      · rw [hv] at e
        simp only [Value.ownBlock, Option.some.injEq] at e
        subst e
        rw [hg'] at hgg
        simp only [Option.some.injEq, Obj.cells.injEq] at hgg
        exact absurd hgg.2.1 (by decide)
theorem OwnW.farB {base : Nat} {w0 w w' : World} {v : Value} {hs : List (List Nat)} {sp : Option Addr} {c : Nat} {l : List Nat} (h : OwnW base w0 w v hs) (ho : OwnB base w sp c l) (hg : w.grownBy w' (Value.slice sp l.length c).ownBlock) : OwnW base w0 w' v hs := by
  obtain ⟨cs, hw, hc⟩ := h.ex
  refine ⟨⟨cs, ⟨hw.1, ?_⟩, hc⟩⟩
  rcases hw.2 with hv | ⟨g', cap, cur, hv, hbg, hg', r⟩
  · exact .inl hv
  · refine .inr ⟨g', cap, cur, hv, hbg, ?_, r⟩
    rw [hg.block g' (Array.getElem?_eq_some_iff.1 hg').1 ?_]
    · exact hg'
    · intro e
      rcases ho.owns.2 with ⟨hv, _⟩ | ⟨gg, cap, cc, hv, _, hgg, _⟩
      · rw [hv] at e; simp [Value.ownBlock] at e
      · rw [hv] at e
        simp only [Value.ownBlock, Option.some.injEq] at e
        subst e
        rw [hg'] at hgg
        simp only [Option.some.injEq, Obj.cells.injEq] at hgg
        exact absurd hgg.2.1 (by decide)
theorem OwnW.rows {base : Nat} {w0 w : World} {sp : Option Addr} {n c : Nat} {hs : List (List Nat)} (h : OwnW base w0 w (.slice sp n c) hs) (hb : Below w0.heap.size w0 w) : RowsAt w sp hs := by
  intro i hi
  obtain ⟨cs, ho, hc⟩ := h.ex
  obtain ⟨p, c', h1, h2⟩ := hc i hi
  rcases ho.2 with ⟨_, h0⟩ | ⟨g, cap, cur, hv, _, hg, _, _, _, ht⟩
  · omega
  · simp only [Value.slice.injEq] at hv
    obtain ⟨rfl, _, rfl⟩ := hv
    refine ⟨g, 0, p, c', rfl, ?_, h2.later hb⟩
    rw [cell_of_row w g (0 + i) cur _ _ hg, Nat.zero_add]
    rw [← ht, List.getElem?_take, if_pos (by omega)] at h1
    rw [← Array.getElem?_toList]
    exact h1
theorem wpList_appendW {w : World} {ops : Array Oper} {rest : List Oper} {o : Oper} {a : Act} {Q : Exit → Act → World → Prop} (hgd : o.guard = none) (s x : Operand)
    (ho : o.op = .call { callee := .builtin .append, args := #[s, x], argTypes := #[30, 30] })
    (base : Nat) (w0 : World) (v : Value) (hs : List (List Nat)) (he : a.eval s = v) (hown : OwnW base w0 w v hs)
    (B : Nat) (hx : a.eval x = .slice (some ⟨B, 0, none⟩) 1 1) (p : Option Addr) (pc : Nat) (h : List Nat) (hB : w.cell? ⟨B, 0, none⟩ = some (.slice p h.length pc))
    (hg : BytesAt w0 p h) (hsz : hs.length ≤ 1099511627776) (hbase : base ≤ w.heap.size)
    (K : ∀ v' w', OwnW base w0 w' v' (hs ++ [h]) → (∀ sp c l, OwnB base w sp c l → OwnB base w' sp c l) → Below base w w' → wpList Try.prog ops Q rest (a.put o.dst v') w') :
    wpList Try.prog ops Q (o :: rest) a w := by
  obtain ⟨i0, hi, hz0, hz1, hz2⟩ := info_parts infoS
  obtain ⟨cs, ho1, hc⟩ := hown.ex
  refine wpList_append_own (w := w) hgd s x 30 ho base 22 i0 (.slice none 0 0) 1 24 Try.underlying30 hi hz0 hz1 hz2 rfl (by omega) v hs.length cs he ho1 ⟨B, 0, none⟩ 1 1 [.slice p h.length pc] hx rfl ?_ ?_ ?_ ?_ hbase ?_
  · intro j u hu
    cases j with
    | zero => simp only [List.getElem?_cons_zero, Option.some.injEq] at hu; subst hu; rw [Addr.add_lit]; exact hB
    | succ j => simp at hu
  · intro u hu
    simp only [List.mem_cons, List.not_mem_nil, or_false] at hu
    subst hu
    rfl
  · simp only [maxLen]; omega
  · omega
  · intro v' w' h1 h2 _
    have hbel : Below base w w' := (Below.refl base w).grown h2 hbase (fun j hj => (ho1.lt j hj).1)
    refine K v' w' ⟨⟨cs ++ [.slice p h.length pc], by rw [List.length_append]; exact h1, fun i hi => ?_⟩⟩ (fun sp c l hB => hB.farW ho1 h2) hbel
    have hcl : cs.length = hs.length := by have := ho1.1; omega
    rw [List.length_append] at hi
    by_cases hlt' : i < hs.length
    · obtain ⟨p', c', r1, r2⟩ := hc i hlt'
      have e1 : (hs ++ [h]).getD i [] = hs.getD i [] := by rw [List.getD_eq_getElem?_getD, List.getElem?_append_left hlt', List.getD_eq_getElem?_getD]
      rw [e1, List.getElem?_append_left (by omega)]
      exact ⟨p', c', r1, r2⟩
    · have hi' : i = hs.length := by simp at hi; omega
      have e1 : (hs ++ [h]).getD i [] = h := by rw [List.getD_eq_getElem?_getD, hi', List.getElem?_append_right (Nat.le_refl _), Nat.sub_self]; rfl
      rw [e1, hi', ← hcl, List.getElem?_append_right (Nat.le_refl _), Nat.sub_self]
      exact ⟨p, pc, rfl, hg⟩

/-- Rows of bytes that came in. -/
theorem rows8 {H : Type} {enc : TypeId × Value → H} {W : World} {a : Option Addr} {len cap : Nat} {d : DataW H} {p : List MemPlace}
    (h : DataW.Trod enc Try.prog W 0 (fun _ => true) true 30 (.slice a len cap) d p) :
    ∃ hs : List (List Nat), hs.length = len ∧ len ≤ maxLen ∧ RowsAt W a hs ∧ ∀ x ∈ hs, x.length ≤ maxLen := by
  obtain ⟨fuel, hf⟩ := h
  rcases Deep.open_int_rows Try.underlying30 Try.underlying22 Try.underlying5 (by kernel_rfl) (by kernel_rfl) hf with ⟨hcs, _⟩ | ⟨x, l, c, A, L, C, Z, hcs, _, hl, hm, _, hrow⟩
  · simp [Value.cells] at hcs
    obtain ⟨rfl, rfl, rfl⟩ := hcs
    exact ⟨[], rfl, by simp [maxLen], by intro i hi; simp at hi, by simp⟩
  · simp [Value.cells] at hcs
    obtain ⟨rfl, rfl, rfl⟩ := hcs
    obtain ⟨f, hfp⟩ := Deep.choose_lt (n := len) (p := fun i (y : List Nat) => y.length = L i ∧ BytesAt W (A i) y) (fun i hi => by
      obtain ⟨_, r2, r3, r4, r5, r6, r7⟩ := hrow i (by omega)
      have hr : IsRow .u8 W (A i) (L i) (C i) (Z i) := by
        cases hA : A i with
        | none =>
          have hC := r6 hA
          exact .inl ⟨rfl, by omega, hC, List.eq_nil_of_length_eq_zero (by omega)⟩
        | some y => exact .inr ⟨y, rfl, r2, r3, r4, fun j hj => (r7 y hA).2 j (by omega), r5⟩
      obtain ⟨y, h1, _, _, _, h5⟩ := isRow_bytes hr
      exact ⟨y, h1, h5⟩)
    refine ⟨(List.range len).map f, by simp, by omega, ?_, ?_⟩
    · intro i hi
      simp only [List.length_map, List.length_range] at hi
      obtain ⟨r1, _⟩ := hrow i (by omega)
      obtain ⟨f1, f2⟩ := hfp i hi
      have e : ((List.range len).map f).getD i [] = f i := by
        rw [List.getD_eq_getElem?_getD, List.getElem?_map, List.getElem?_range hi]; rfl
      rw [e]
      obtain ⟨b, off, spot⟩ := x
      have hspot : spot = none := by simpa [Addr.add] using World.cell?_spot (hrow 0 (by omega)).1
      subst hspot
      rw [Addr.add_lit] at r1
      exact ⟨b, off, A i, C i, rfl, by rw [f1]; exact r1, f2⟩
    · intro y hy
      obtain ⟨i, hi, rfl⟩ := List.mem_map.1 hy
      have hi' := List.mem_range.1 hi
      obtain ⟨_, r2, r3, _⟩ := hrow i (by omega)
      rw [(hfp i hi').1]
      omega

/-- Frames one behind the other. -/
def cat : List (List Nat) → List Nat
  | [] => []
  | h :: r => frameB h ++ cat r
theorem cat_snoc : ∀ (hs : List (List Nat)) (h : List Nat), cat (hs ++ [h]) = cat hs ++ frameB h
  | [], h => by simp [cat]
  | x :: r, h => by simp only [List.cons_append, cat, cat_snoc r h, List.append_assoc]
theorem nextE_shift (ahead l : List Nat) (k : Nat) : nextE (ahead ++ l) (ahead.length + k) = nextE l k := by
  unfold nextE
  have d : ∀ j, (ahead ++ l).drop (ahead.length + j) = l.drop j := fun j => by rw [← List.drop_drop, List.drop_left]
  rw [Nat.add_assoc, Nat.add_assoc, d, d, d, List.length_append, show ahead.length + l.length - (ahead.length + k) = l.length - k by omega]
theorem steps_cat : ∀ (hs : List (List Nat)) (ahead behind : List Nat), (∀ h ∈ hs, h.length ≤ 65536) → Steps (ahead ++ (cat hs ++ behind)) ahead.length hs (ahead.length + (cat hs).length)
  | [], ahead, behind, _ => by simp [Steps, cat]
  | h :: r, ahead, behind, hl => by
    have hh := hl h (by simp)
    have e : ahead ++ (cat (h :: r) ++ behind) = ahead ++ (frameB h ++ (cat r ++ behind)) := by simp only [cat, List.append_assoc]
    obtain ⟨h1, h2⟩ := frame_next ahead h (cat r ++ behind) hh
    refine ⟨by rw [e]; exact h1, by rw [e]; exact h2, ?_⟩
    have ih := steps_cat r (ahead ++ frameB h) behind (fun x hx => hl x (by simp [hx]))
    have e2 : ahead ++ (cat (h :: r) ++ behind) = (ahead ++ frameB h) ++ (cat r ++ behind) := by simp only [cat, List.append_assoc]
    rw [e2]
    have e3 : (ahead ++ frameB h).length = ahead.length + 8 + h.length := by rw [List.length_append, frameB_length]; omega
    have e4 : ahead.length + (cat (h :: r)).length = (ahead ++ frameB h).length + (cat r).length := by simp only [cat, List.length_append]; omega
    rw [e4]
    rw [e3] at ih ⊢
    exact ih
theorem rows_cut (hs : List (List Nat)) (t : List Nat) (hl : ∀ h ∈ hs, h.length ≤ 65536) (ht : nextE t 0 = 3) : Steps (cat hs ++ t) 0 hs (cat hs).length ∧ 0 < nextE (cat hs ++ t) (cat hs).length := by
  have h1 := steps_cat hs [] t hl
  rw [List.nil_append, List.length_nil, Nat.zero_add] at h1
  have h2 := nextE_shift (cat hs) t 0
  rw [Nat.add_zero] at h2
  exact ⟨h1, by omega⟩
end Go.Proofs.Ytmjojfngdfnabab
