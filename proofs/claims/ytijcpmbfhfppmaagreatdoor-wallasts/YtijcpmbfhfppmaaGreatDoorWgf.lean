/- Logs: entries copied. -/
import Derived.Test.YtijcpmbfhfppmaaGreatDoorWge
import Derived.Laws.OwnMore
import Derived.Laws.AppendOwnNone
namespace Go.Proofs.YtijcpmbfhfppmaaGreatDoor
open Go.ChangeShapes Go.WideShapes Go.ChangeAt Go.RowKit
set_option linter.unusedVariables false

/-- append(T{}, l...). -/
theorem run_cloneH {w : World} (t ty e : TypeId) (i : TypeInfo) (z : Value) (size bytes : Nat) (ht : Tryz.prog.underlying t = some (.slice e)) (hi : Tryz.prog.info? e = some i) (hz : i.zero = some z) (hsize : i.size = size) (hby : i.bytes = bytes) (hzs : z.cells.size = size) (hsz : 0 < size)
    (E : Nat) (hE : w.heap[E]? = some (.cells #[] e (0, 0))) (ad : Option Addr) (m c : Nat) (hn : ad = none → m = 0 ∧ c = 0) (news : List Value) (hl : news.length = m * size)
    (hnews : ∀ b, ad = some b → ∀ j u, news[j]? = some u → w.cell? (b.add j) = some u) (h1 : ∀ u ∈ news, u.oneCell' = true) (hm : m ≤ 1000000) (hbytes : m * bytes ≤ 140737488355328) :
    ∃ g c' w', (Builtin.append_ #[t, t] ty #[.slice (some ⟨E, 0, none⟩) 0 0, .slice ad m c]).run Tryz.prog w = .ok (.slice (some ⟨g, 0, none⟩) m c') w' ∧ w'.ownsRow E e size (.slice (some ⟨g, 0, none⟩) m c') m news ∧ w.grownBy w' (some E) ∧ (g = E ∨ g = w.heap.size) := by
  have he : w.ownsRow E e size (.slice (some ⟨E, 0, none⟩) 0 0) 0 [] := ⟨by simp, .inr ⟨E, 0, #[], rfl, Nat.le_refl _, hE, Nat.le_refl _, by simp [maxLen], by simp, by simp⟩⟩
  have hEl : E < w.heap.size := (Array.getElem?_eq_some_iff.1 hE).1
  cases ad with
  | none =>
    obtain ⟨rfl, rfl⟩ := hn rfl
    have hz : news = [] := List.eq_nil_of_length_eq_zero (by simpa using hl)
    subst hz
    have hrun := run_append_owned_none (P := Tryz.prog) (w := w) E t ty e i size ht hi _ _ _ he
    exact ⟨E, 0, w, hrun, he, grown_refl _ _, .inl rfl⟩
  | some b =>
    obtain ⟨v', w', hrun, h2, h3, h4, h5⟩ := run_append_own_at (P := Tryz.prog) w E t ty e i z size bytes ht hi hz hsize hby hzs hsz _ _ _ he b m c news hl (hnews b rfl) h1 (by simp only [maxLen]; omega) (by rw [Nat.zero_add]; exact hbytes) (by omega)
    rcases h2.2 with ⟨hv, h0⟩ | ⟨g, cap, cur, hv, r⟩
    · have := (h4.1 hv).1
      cases this
    · subst hv
      rw [Nat.zero_add, List.nil_append] at h2
      exact ⟨g, cap, w', by rw [hrun, Nat.zero_add], h2, h3, h5.imp (fun e => Option.some.inj e) (fun e => Option.some.inj e)⟩
theorem eqNilE_some (ad : Addr) (n c : Nat) (w : World) : (binOp .eql 27 (.slice (some ad) n c) (.slice none 0 0)).run Tryz.prog w = .ok (.bool false) w := by kernel_rfl
theorem rowsV_drop : ∀ (es : List EntN) (hs : List (Option Addr × Nat)) (k : Nat), hs.length = es.length → rowsV (es.drop k) (hs.drop k) = (rowsV es hs).drop (k * 4)
  | es, hs, 0, _ => by simp
  | [], [], k + 1, _ => by simp [rowsV]
  | e :: es, h :: hs, k + 1, hl => by
    rw [List.drop_succ_cons, List.drop_succ_cons, rowsV_drop es hs k (by simpa using hl)]
    have hc : rowsV (e :: es) (h :: hs) = entRow e h ++ rowsV es hs := rfl
    rw [hc, show (k + 1) * 4 = 4 + k * 4 by omega, List.drop_append, List.drop_of_length_le (show (entRow e h).length ≤ 4 + k * 4 by show 4 ≤ 4 + k * 4; omega), List.nil_append, show 4 + k * 4 - (entRow e h).length = k * 4 from by show 4 + k * 4 - 4 = k * 4; omega]
  | [], _ :: _, _ + 1, h => by simp at h
  | _ :: _, [], _ + 1, h => by simp at h
theorem wpList_cloneE {w : World} {ops : Array Oper} {rest : List Oper} {o : Oper} {a : Act} {Q : Exit → Act → World → Prop} (hgd : o.guard = none) (s x : Operand)
    (ho : o.op = .call { callee := .builtin .append, args := #[s, x], argTypes := #[27, 27] })
    (E : Nat) (hs : a.eval s = .slice (some ⟨E, 0, none⟩) 0 0) (hE : w.heap[E]? = some (.cells #[] 60 (0, 0))) (b : Addr) (m c : Nat) (hx : a.eval x = .slice (some b) m c) (news : List Value) (hl : news.length = m * 4)
    (hnews : ∀ j u, news[j]? = some u → w.cell? (b.add j) = some u) (h1 : ∀ u ∈ news, u.oneCell' = true) (hm : m ≤ 1000000)
    (hk : ∀ g c' w', w'.ownsRow E 60 4 (.slice (some ⟨g, 0, none⟩) m c') m news → w.grownBy w' (some E) → (g = E ∨ g = w.heap.size) → wpList Tryz.prog ops Q rest (a.put o.dst (.slice (some ⟨g, 0, none⟩) m c')) w') :
    wpList Tryz.prog ops Q (o :: rest) a w := by
  refine wpList_plain hgd fun K hK => ?_
  obtain ⟨i0, hi, hz0, hz1, hz2⟩ := info_parts infoE
  obtain ⟨g, c', w', hrun, h2, h3, h4⟩ := run_cloneH (w := w) 27 o.type 60 i0 _ 4 48 Tryz.underlying27 hi hz0 hz1 hz2 rfl (by omega) E hE (some b) m c (fun h => by cases h) news hl (fun b' e => by cases e; exact hnews) h1 hm (by omega)
  unfold Oper.wp
  simp [execOp, ho, resolve, invoke, builtin, hs, hx, hrun, Result.andThen]
  exact hK _ _ (hk g c' w' h2 h3 h4)
theorem rowsV_one : ∀ (es : List EntN) (hs : List (Option Addr × Nat)), ∀ u ∈ rowsV es hs, u.oneCell' = true := by
  intro es hs u hu
  obtain ⟨p, _, hp⟩ := List.mem_flatMap.1 hu
  simp only [entRow, List.mem_cons, List.not_mem_nil, or_false] at hp
  rcases hp with rfl | rfl | rfl | rfl <;> rfl
set_option maxRecDepth 20000 in
set_option maxHeartbeats 8000000 in
theorem cloneE_calls {base b : Nat} {w : World} {ec : Nat} {es : List EntN} {hs : List (Option Addr × Nat)} (h : OwnL base w (some ⟨b, 0, none⟩) ec es hs) (k x m cc : Nat) (hk : k ≤ es.length) (hm : es.length - k = m) (hx : 0 < m → x = k * 4) (hl : es.length ≤ 1000000) (hbs : base ≤ w.heap.size) :
    Calls Tryz.prog 70 #[.slice (some ⟨b, x, none⟩) m cc] w fun e w' => ∃ g c', e = .returned (.slice (some ⟨g, 0, none⟩) m c') ∧ OwnL base w' (some ⟨g, 0, none⟩) c' (es.drop k) (hs.drop k) ∧ Below w.heap.size w w' ∧ w.heap.size ≤ g := by
  have hml : (es.drop k).length = m := by rw [List.length_drop]; exact hm
  have hhl : (hs.drop k).length = (es.drop k).length := by rw [List.length_drop, List.length_drop, h.len]
  have hnw : ∀ j u, (rowsV (es.drop k) (hs.drop k))[j]? = some u → w.cell? (Addr.add ⟨b, x, none⟩ j) = some u := by
    intro j u hu
    have hj : j < m * 4 := by
      have h1 := (List.getElem?_eq_some_iff.1 hu).1
      rw [rowsV_length _ _ hhl, hml] at h1
      exact h1
    rw [hx (by omega)]
    rw [rowsV_drop es hs k h.len, List.getElem?_drop] at hu
    rcases h.row.2 with ⟨hv, h0⟩ | ⟨g, cap, cur, hv, hb, hg, hle, hmx, hsz, ht⟩
    · simp at hv
    · simp only [Value.slice.injEq, Option.some.injEq, Addr.mk.injEq, and_true, true_and] at hv
      obtain ⟨rfl, _⟩ := hv
      rw [Addr.add_lit, cell_of_row w b _ cur _ _ hg, ← Array.getElem?_toList]
      rw [← ht, List.getElem?_take] at hu
      split at hu
      · exact hu
      · cases hu
  have hq := eqNilE_some ⟨b, x, none⟩ m cc w
  have U1 := hide (show Below w.heap.size w (w.alloc (.cells #[] 60)) from (Below.refl _ _).alloc (Nat.le_refl _) _)
  have X1 := hide (heap_new w (.cells #[] 60))
  have NW := hide (show ∀ j u, (rowsV (es.drop k) (hs.drop k))[j]? = some u → (w.alloc (.cells #[] 60)).cell? (Addr.add ⟨b, x, none⟩ j) = some u from fun j u hu => by
    have h1 := hnw j u hu
    rw [Addr.add_lit] at h1 ⊢
    exact cell_later (unhide U1) h1)
  have RL := hide (show (rowsV (es.drop k) (hs.drop k)).length = m * 4 by rw [rowsV_length _ _ hhl, hml])
  have FE := hide (show ∀ g c' W, World.ownsRow W w.heap.size 60 4 (.slice (some ⟨g, 0, none⟩) m c') m (rowsV (es.drop k) (hs.drop k)) → Below w.heap.size w W → (w.heap.size ≤ g) → OwnL base W (some ⟨g, 0, none⟩) c' (es.drop k) (hs.drop k) from fun g c' W hr u hg => by
    refine ⟨hhl, ?_, fun i hi hj => ?_⟩
    · rw [hml]
      refine ⟨hr.1, ?_⟩
      rcases hr.2 with q | ⟨g', cap, cur, hv, hb, r⟩
      · exact .inl q
      · exact .inr ⟨g', cap, cur, hv, Nat.le_trans hbs hb, r⟩
    · rw [List.getElem_drop, List.getElem_drop]
      exact (h.dat (k + i) (by rw [List.length_drop] at hi; omega) (by rw [List.length_drop] at hj; omega)).later u)
  have ML := hide (show m ≤ 1000000 by omega)
  clear h hnw hml hhl hx
  go_enter Tryz.func70, Tryz.ntmps70
  go_wp2_with (at_builtin; refine unhide ?_)
  refine hide ?_
  refine wpList_cloneE rfl (.tmp 5) (.tmp 6) rfl w.heap.size rfl (unhide X1) ⟨b, x, none⟩ m cc rfl (rowsV (es.drop k) (hs.drop k)) (unhide RL) (unhide NW) (rowsV_one _ _) (unhide ML) ?_
  intro g c' W hr hg hgg
  have B2 := hide ((unhide U1).grown hg (unhide U1).size (fun j e => by have := Option.some.inj e; omega))
  have hgl : w.heap.size ≤ g := by
    rcases hgg with rfl | rfl
    · exact Nat.le_refl _
    · exact (unhide U1).size
  have OO := hide (unhide FE g c' W hr (unhide B2) hgl)
  have GL := hide hgl
  clear hr hg hgg hgl
  go_wp2
  go_ret
  exact ⟨g, c', rfl, unhide OO, unhide B2, unhide GL⟩
end Go.Proofs.YtijcpmbfhfppmaaGreatDoor
