/- Entries as they come in one's own memory; the contracts of tollgateref02.CopyEntries, CopyMsg. -/
import Derived.Test.YtijcpmbfhfppmaaGreatDoorSames
namespace Go.Proofs.YtijcpmbfhfppmaaGreatDoor
open Go.ChangeShapes Go.WideShapes Go.ChangeAt Go.RowKit

/-- The four cells of an entry as it comes. -/
def entRowI (e : EntI) (h : Option Addr × Nat) : List Value := [.int .i64 e.1, .int .i64 e.2.1, .int .i64 e.2.2.1, .slice h.1 e.2.2.2.length h.2]
def rowsI (es : List EntI) (hs : List (Option Addr × Nat)) : List Value := (es.zip hs).flatMap fun p => entRowI p.1 p.2
theorem rowsI_length : ∀ (es : List EntI) (hs : List (Option Addr × Nat)), hs.length = es.length → (rowsI es hs).length = es.length * 4
  | [], [], _ => rfl
  | e :: es, h :: hs, hl => by
    have := rowsI_length es hs (by simpa using hl)
    simp only [rowsI, List.zip_cons_cons, List.flatMap_cons, List.length_append, List.length_cons] at this ⊢
    rw [this]
    simp only [entRowI, List.length_cons, List.length_nil]
    omega
theorem rowsI_snoc (es : List EntI) (hs : List (Option Addr × Nat)) (e : EntI) (h : Option Addr × Nat) (hl : hs.length = es.length) : rowsI (es ++ [e]) (hs ++ [h]) = rowsI es hs ++ entRowI e h := by
  unfold rowsI
  rw [List.zip_append hl.symm, List.flatMap_append]
  simp
/-- One's own entries as they come, with their data. -/
structure OwnEI (base : Nat) (w : World) (sp : Option Addr) (c : Nat) (es : List EntI) : Prop where
  ex : ∃ hs : List (Option Addr × Nat), hs.length = es.length ∧ w.ownsRow base 60 4 (.slice sp es.length c) es.length (rowsI es hs) ∧ ∀ i, i < es.length → OwnB base w (hs.getD i (none, 0)).1 (hs.getD i (none, 0)).2 (es.getD i default).2.2.2
theorem OwnEI.ofNil (base : Nat) (w : World) : OwnEI base w none 0 [] := ⟨[], rfl, w.ownsRow_nil base 60 4, by simp⟩
theorem OwnEI.later {base : Nat} {w w' : World} {sp : Option Addr} {c : Nat} {es : List EntI} (h : OwnEI base w sp c es) (hb : Below w.heap.size w w') : OwnEI base w' sp c es := by
  obtain ⟨hs, h1, h2, h3⟩ := h.ex
  exact ⟨hs, h1, ownsRow_later h2 hb, fun i hi => (h3 i hi).later hb⟩
theorem OwnEI.mono {base base' : Nat} {w : World} {sp : Option Addr} {c : Nat} {es : List EntI} (h : OwnEI base w sp c es) (hb : base' ≤ base) : OwnEI base' w sp c es := by
  obtain ⟨hs, h1, h2, h3⟩ := h.ex
  refine ⟨hs, h1, ⟨h2.1, ?_⟩, fun i hi => (h3 i hi).mono hb⟩
  rcases h2.2 with hv | ⟨g, cap, cur, hv, hbg, r⟩
  · exact .inl hv
  · exact .inr ⟨g, cap, cur, hv, by omega, r⟩
theorem run_appendEI {w : World} (base : Nat) (sp : Option Addr) (c : Nat) (es : List EntI) (hown : OwnEI base w sp c es) (B : Nat) (e : EntI) (h : Option Addr × Nat)
    (hB : w.heap[B]? = some (.cells (entRowI e h).toArray 60 (0, 0))) (hd : OwnB base w h.1 h.2 e.2.2.2) (hn : (es.length + 1) * 48 ≤ 140737488355328) (hbase : base ≤ w.heap.size) (ty : TypeId) :
    ∃ sp' c' w', (Builtin.append_ #[27, 27] ty #[.slice sp es.length c, .slice (some ⟨B, 0, none⟩) 1 1]).run Tryz.prog w = .ok (.slice sp' (es.length + 1) c') w' ∧ OwnEI base w' sp' c' (es ++ [e]) ∧ w.grownBy w' (blk sp) := by
  obtain ⟨hs, hl, hrow, hdat⟩ := hown.ex
  obtain ⟨i0, hi, hz0, hz1, hz2⟩ := info_parts infoE
  obtain ⟨v', w', hrun, h1, h2, _, _⟩ := run_append_own_at (P := Tryz.prog) w base 27 ty 60 i0 _ 4 48 Tryz.underlying27 hi hz0 hz1 hz2 rfl (by omega) _ _ _ hrow ⟨B, 0, none⟩ 1 1 (entRowI e h) rfl
    (fun j u hu => by have := World.news_of_block hB j u; simp only at this; exact this hu) (by intro u hu; simp only [entRowI, List.mem_cons, List.not_mem_nil, or_false] at hu; rcases hu with rfl | rfl | rfl | rfl <;> rfl) (by simp only [maxLen]; omega) (by omega) hbase
  have hv : ∃ sp' c', v' = .slice sp' (es.length + 1) c' := by
    rcases h1.2 with ⟨hv, h0⟩ | ⟨g, cap, cur, hv, _⟩
    · omega
    · exact ⟨_, _, hv⟩
  obtain ⟨sp', c', rfl⟩ := hv
  rw [ownBlock_slice] at h2
  refine ⟨sp', c', w', hrun, ⟨hs ++ [h], by simp [hl], ?_, ?_⟩, h2⟩
  · rw [rowsI_snoc es hs e h hl, List.length_append]
    exact h1
  · intro i hi
    rw [List.length_append] at hi
    simp only [List.length_cons, List.length_nil] at hi
    by_cases hi' : i < es.length
    · rw [List.getD_eq_getElem?_getD, List.getElem?_append_left (by omega), List.getD_eq_getElem?_getD, List.getElem?_append_left hi', ← List.getD_eq_getElem?_getD, ← List.getD_eq_getElem?_getD]
      exact (hdat i hi').grownNe h2 (fun g hg => (hdat i hi').notEnts hrow g hg)
    · obtain rfl : i = es.length := by omega
      have e1 : (hs ++ [h]).getD es.length (none, 0) = h := by rw [List.getD_eq_getElem?_getD, List.getElem?_append_right (by omega), hl]; simp
      have e2 : (es ++ [e]).getD es.length default = e := by rw [List.getD_eq_getElem?_getD, List.getElem?_append_right (Nat.le_refl _)]; simp
      rw [e1, e2]
      exact hd.grownNe h2 (fun g hg => hd.notEnts hrow g hg)
theorem rowsI_get : ∀ (es : List EntI) (hs : List (Option Addr × Nat)) (i f : Nat) (hi : i < es.length) (hh : i < hs.length) (_ : f < 4), (rowsI es hs)[i * 4 + f]? = (entRowI es[i] hs[i])[f]?
  | [], _, i, _, hi, _, _ => by simp at hi
  | _ :: _, [], _, _, _, hh, _ => by simp at hh
  | e :: es, h :: hs, 0, f, _, _, hf => by
    simp only [rowsI, List.zip_cons_cons, List.flatMap_cons, Nat.zero_mul, Nat.zero_add, List.getElem_cons_zero]
    rw [List.getElem?_append_left (by simp only [entRowI, List.length_cons, List.length_nil]; omega)]
  | e :: es, h :: hs, i + 1, f, hi, hh, hf => by
    have ih := rowsI_get es hs i f (by simpa using hi) (by simpa using hh) hf
    simp only [rowsI, List.zip_cons_cons, List.flatMap_cons, List.getElem_cons_succ] at ih ⊢
    rw [List.getElem?_append_right (by simp only [entRowI, List.length_cons, List.length_nil]; omega)]
    have e4 : (i + 1) * 4 + f - (entRowI e h).length = i * 4 + f := by simp only [entRowI, List.length_cons, List.length_nil]; omega
    rw [e4]
    exact ih
theorem OwnEI.ents {base : Nat} {w : World} {sp : Option Addr} {c : Nat} {es : List EntI} (h : OwnEI base w sp c es) : EntsAt w sp es := by
  obtain ⟨hs, hl, hrow, hdat⟩ := h.ex
  refine ⟨fun i hi => ?_⟩
  rcases hrow.2 with ⟨_, h0⟩ | ⟨g, cap, cur, hv, _, hg, _, _, _, ht⟩
  · omega
  · simp only [Value.slice.injEq] at hv
    obtain ⟨rfl, _, _⟩ := hv
    have hih : i < hs.length := by omega
    have key : ∀ f, f < 4 → w.cell? ⟨g, 0 + i * 4 + f, none⟩ = (entRowI es[i] hs[i])[f]? := by
      intro f hf
      rw [cell_of_row w g _ cur _ _ hg, Nat.zero_add]
      have e := rowsI_get es hs i f hi hih hf
      rw [← ht, List.getElem?_take, if_pos (by omega)] at e
      rw [← Array.getElem?_toList, e]
    have hd := hdat i hi
    have e1 : hs.getD i (none, 0) = hs[i] := by rw [List.getD_eq_getElem?_getD, List.getElem?_eq_getElem hih]; rfl
    have e2 : es.getD i default = es[i] := by rw [List.getD_eq_getElem?_getD, List.getElem?_eq_getElem hi]; rfl
    rw [e1, e2] at hd
    refine ⟨g, 0, hs[i].1, hs[i].2, rfl, ?_, ?_, ?_, ?_, ?_, ?_⟩
    · have := key 0 (by omega); simpa [entRowI] using this
    · have := key 1 (by omega); simpa [entRowI] using this
    · have := key 2 (by omega); simpa [entRowI] using this
    · have := key 3 (by omega); simpa [entRowI] using this
    · simpa using hd.bytes
    · intro e
      rcases hd.owns.2 with ⟨hv, _⟩ | ⟨g', cap', cur', hv, _⟩
      · simp only [Value.slice.injEq] at hv; exact hv.2.2
      · simp only [Value.slice.injEq] at hv; rw [hv.1] at e; cases e

/-- Bytes lie in no block of another type. -/
theorem OwnB.ne_block {base : Nat} {w : World} {sp : Option Addr} {c : Nat} {l : List Nat} (h : OwnB base w sp c l) {g : Nat} {cs : Array Value} {T : TypeId} {fr : Nat × Nat} (hg : w.heap[g]? = some (.cells cs T fr)) (hT : T ≠ 5) : blk sp ≠ some g := by
  intro hs
  rcases h.owns.2 with ⟨hv, _⟩ | ⟨g1, cap, cur, hv, _, hh, _⟩
  · simp only [Value.slice.injEq] at hv
    rw [hv.1] at hs
    cases hs
  · simp only [Value.slice.injEq] at hv
    rw [hv.1] at hs
    obtain rfl : g1 = g := by simpa [blk] using hs
    rw [hh] at hg
    simp only [Option.some.injEq, Obj.cells.injEq] at hg
    exact hT hg.2.1.symm
theorem wpList_appendEI {w : World} {ops : Array Oper} {rest : List Oper} {o : Oper} {a : Act} {Q : Exit → Act → World → Prop} (hgd : o.guard = none) (s x : Operand)
    (ho : o.op = .call { callee := .builtin .append, args := #[s, x], argTypes := #[27, 27] })
    (base : Nat) (sp : Option Addr) (n c : Nat) (es : List EntI) (hs : a.eval s = .slice sp n c) (hn : es.length = n) (hown : OwnEI base w sp c es) (B : Nat) (e : EntI) (h : Option Addr × Nat) (hx : a.eval x = .slice (some ⟨B, 0, none⟩) 1 1)
    (hB : w.heap[B]? = some (.cells (entRowI e h).toArray 60 (0, 0))) (hd : OwnB base w h.1 h.2 e.2.2.2) (hlen : (es.length + 1) * 48 ≤ 140737488355328) (hbase : base ≤ w.heap.size)
    (hk : ∀ sp' c' w', OwnEI base w' sp' c' (es ++ [e]) → w.grownBy w' (blk sp) → wpList Tryz.prog ops Q rest (a.put o.dst (.slice sp' (n + 1) c')) w') :
    wpList Tryz.prog ops Q (o :: rest) a w := by
  subst hn
  refine wpList_plain hgd fun K hK => ?_
  obtain ⟨sp', c', w', hrun, h1, h2⟩ := run_appendEI (w := w) base sp c es hown B e h hB hd hlen hbase o.type
  unfold Oper.wp
  simp [execOp, ho, resolve, invoke, builtin, hs, hx, hrun, Result.andThen]
  exact hK _ _ (hk sp' c' w' h1 h2)
theorem OwnEI.blk_ge {base : Nat} {w : World} {sp : Option Addr} {c : Nat} {es : List EntI} (h : OwnEI base w sp c es) : ∀ g, blk sp = some g → base ≤ g := by
  intro g hg
  obtain ⟨hs, _, h2, _⟩ := h.ex
  exact (h2.lt g (by rw [ownBlock_slice]; exact hg)).1
theorem OwnEI.empty (w : World) (base : Nat) (hb : base ≤ w.heap.size) : OwnEI base (w.alloc (.cells #[] 60)) (some ⟨w.heap.size, 0, none⟩) 0 [] :=
  ⟨[], rfl, ⟨rfl, .inr ⟨w.heap.size, 0, #[], rfl, hb, heap_new _ _, Nat.le_refl _, by simp [maxLen], rfl, rfl⟩⟩, by simp⟩
set_option maxRecDepth 20000 in
set_option maxHeartbeats 4000000 in
theorem copyEntries_calls (a : Option Addr) (n c : Nat) (es : List EntI) (w : World) (hn : es.length = n) (hlen : n * 48 ≤ 140737488355328) (hd : ∀ e ∈ es, e.2.2.2.length ≤ 140737488355328) (hb : EntsAt w a es) :
    Calls Tryz.prog 44 #[.slice a n c] w fun e w' => ∃ sp' c', e = .returned (.slice sp' n c') ∧ OwnEI w.heap.size w' sp' c' es ∧ Below w.heap.size w w' := by
  have HB := hide hb
  have HN := hide hn
  have HD := hide hd
  clear hb hn hd
  have O0 := hide (OwnEI.empty w w.heap.size (Nat.le_refl _))
  have b0 := hide (show Below w.heap.size w (w.alloc (.cells #[] 60)) from (Below.refl _ _).alloc (Nat.le_refl _) _)
  go_enter Tryz.func44, Tryz.ntmps44
  go_wp2_with fail
  go_loopw [3, 4] (fun v i wr => ∃ (j : Nat) (sp' : Option Addr) (c' : Nat), j ≤ n ∧ v = .slice sp' j c' ∧ i = .int .i64 (j : Int) ∧ Hid (OwnEI w.heap.size wr sp' c' (es.take j)) ∧ Hid (Below w.heap.size w wr)) (fun _ i _ => n - (intOf i).toNat)
  case atStart => exact ⟨0, _, 0, by omega, rfl, rfl, unhide O0, unhide b0⟩
  case round =>
    obtain ⟨j, sp', c', hj, rfl, rfl, O, F⟩ := hrel
    by_cases hjn : j < n
    · have hje : j < es.length := by have := unhide HN; omega
      obtain ⟨b, off, dp, dc, rfl, p0, p1, p2, p3, p4, p5⟩ := ((unhide HB).later (unhide F)).cell j hje
      have htk := hide (List.take_succ_eq_append_getElem hje)
      have hdl := hide (unhide HD _ (List.getElem_mem hje))
      generalize es[j] = ee at *
      obtain ⟨k', t', i', d'⟩ := ee
      simp only at p0 p1 p2 p3
      have hj0 : (0 : Int) ≤ (j : Int) := by omega
      have hj1 : (j : Int) < (n : Int) := by omega
      have P4 := hide p4
      have P5 := hide p5
      clear p4 p5
      have bA := hide (show Below wr.heap.size wr ((wr.alloc (entB k' t' i' dp d'.length dc)).alloc (.cells #[] 5)) from ((Below.refl _ _).alloc (Nat.le_refl _) _).alloc (by rw [size_alloc]; omega) _)
      have q3 := cell_later (unhide bA) p3
      have hbs := hide (unhide F).size
      have OE := hide (OwnB.empty (wr.alloc (entB k' t' i' dp d'.length dc)) w.heap.size (by rw [size_alloc]; exact Nat.le_succ_of_le (unhide hbs)))
      rw [size_alloc] at OE
      have X1 := hide (show ((wr.alloc (entB k' t' i' dp d'.length dc)).alloc (.cells #[] 5)).heap[wr.heap.size]? = some (entB k' t' i' dp d'.length dc) from heap_old _ (heap_new wr _))
      have hsz2 : ((wr.alloc (entB k' t' i' dp d'.length dc)).alloc (.cells #[] 5)).heap.size = wr.heap.size + 1 + 1 := by rw [size_alloc, size_alloc]
      have HS2 := hide hsz2
      clear hsz2
      go_wp2_with (at_builtin; refine unhide ?_)
      refine hide ?_
      refine wpList_append8L rfl (.tmp 17) (.tmp 22) rfl w.heap.size (some ⟨wr.heap.size + 1, 0, none⟩) 0 0 [] rfl rfl (by exact unhide OE) dp d'.length dc rfl d' rfl (by exact (unhide P4).later (unhide bA)) (unhide P5) (by have := unhide hdl; simp only [List.length_nil]; omega) (by exact Nat.le_trans (unhide hbs) (unhide bA).size) ?_
      intro sp2 n2 c2 W2 hn2 ho2 hg2 hl2
      obtain rfl : d'.length = n2 := unhide hn2
      have O2 := hide (show OwnB w.heap.size W2 sp2 c2 d' from ho2)
      have hg2' : ((wr.alloc (entB k' t' i' dp d'.length dc)).alloc (.cells #[] 5)).grownBy W2 (some (wr.heap.size + 1)) := hg2
      have bO := hide (show Below wr.heap.size wr W2 from (unhide bA).grown hg2' (unhide bA).size (fun g hg => by have := Option.some.inj hg; omega))
      have x2 : W2.heap[wr.heap.size]? = some (entB k' t' i' dp d'.length dc) := (hg2'.block _ (Array.getElem?_eq_some_iff.1 (unhide X1)).1 (fun e => by have := Option.some.inj e; omega)).trans (unhide X1)
      have hs2 : wr.heap.size + 2 ≤ W2.heap.size := by have := hg2'.size; rw [unhide HS2] at this; omega
      have f3 : W2.frozen? ⟨wr.heap.size, 3, none⟩ = false := by simp [World.frozen?, x2]
      have v3 := (entB_cells x2).2.2.2
      have x3 : (W2.setCell ⟨wr.heap.size, 3, none⟩ (.slice sp2 d'.length c2)).heap[wr.heap.size]? = some (entB k' t' i' sp2 d'.length c2) := by
        simpa using heap_setCell_same W2 wr.heap.size 3 _ 60 (.slice sp2 d'.length c2) x2
      obtain ⟨z0, z1, z2, z3⟩ := entB_cells x3
      have g3 := grown_set W2 wr.heap.size 3 (.slice sp2 d'.length c2)
      have O3 := hide ((unhide O2).grownNe g3 (fun g hg e => by
        rw [← Option.some.inj e] at hg
        exact (unhide O2).ne_block x2 (by decide) hg))
      have hsz3 := hide (show (W2.setCell ⟨wr.heap.size, 3, none⟩ (.slice sp2 d'.length c2)).heap.size = W2.heap.size by simp)
      have b3 := hide ((unhide bO).grown g3 (unhide bO).size (fun g hg => by have := Option.some.inj hg; omega))
      have OE3 := hide ((unhide O).later (unhide b3))
      have hlj := hide (show (es.take j).length = j by rw [List.length_take]; omega)
      clear hn2 ho2 hg2 hl2 hg2' OE O X1 HS2 bA q3 P4 P5 p0 p1 p2 p3 x2
      go_wp2_with (at_builtin; refine unhide ?_)
      refine hide ?_
      generalize W2.setCell ⟨wr.heap.size, 3, none⟩ (.slice sp2 d'.length c2) = W3 at *
      have b4 : Below W3.heap.size W3 (W3.alloc (entB k' t' i' sp2 d'.length c2)) := (Below.refl _ _).alloc (Nat.le_refl _) _
      refine wpList_appendEI rfl (.tmp 25) (.tmp 27) rfl w.heap.size sp' j c' (es.take j) rfl (unhide hlj) ((unhide OE3).later b4) W2.heap.size (k', t', i', d') (sp2, c2) rfl (by rw [← unhide hsz3]; exact heap_new W3 _) ((unhide O3).later b4) (by have := unhide hlj; omega) (by exact Nat.le_trans (unhide hbs) (Nat.le_trans (unhide b3).size b4.size)) ?_
      intro sp5 c5 W5 ho5 hg5
      rw [← unhide htk] at ho5
      have F5 := hide ((unhide F).trans (((unhide b3).trans (b4.mono (unhide b3).size)).mono (unhide F).size))
      have F6 := hide ((unhide F5).grown hg5 (unhide F5).size (fun g hg => (unhide OE3).blk_ge g hg))
      have O6 := hide ho5
      clear ho5 hg5 b4 F5 z0 z1 z2 z3 f3 v3 x3 g3
      go_wp2
      exact ⟨⟨j + 1, sp5, c5, by omega, rfl, by go_num, unhide O6, unhide F6⟩, by simp [intOf]; omega⟩
    · have hfull : es.take j = es := List.take_of_length_le (by have := unhide HN; omega)
      rw [hfull] at O
      clear hfull
      obtain rfl : j = n := by omega
      go_wp2
      go_ret
      exact ⟨sp', c', rfl, unhide O, unhide F⟩

end Go.Proofs.YtijcpmbfhfppmaaGreatDoor
