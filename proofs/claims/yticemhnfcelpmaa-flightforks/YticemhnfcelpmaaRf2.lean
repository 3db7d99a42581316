/- Flight, the document's answer: link, Under, Len. -/
import Derived.Test.YticemhnfcelpmaaRf1
namespace Go.Proofs.Yticemhnfcelpmaa
open Go.ChangeShapes Go.WideShapes Go.ChangeAt Go.RowKit

/-- A row of packets of one's own; their bytes may be shared. -/
structure RowQ (base : Nat) (w : World) (sp : Option Addr) (c : Nat) (ys : List (Pkt × Hdl)) : Prop where
  row : w.ownsRow base 35 4 (.slice sp ys.length c) ys.length (rowsP ys)
  dat : ∀ y ∈ ys, OwnB 0 w y.2.1 y.2.2 y.1.2.2.2
theorem RowQ.later {base : Nat} {w w' : World} {sp : Option Addr} {c : Nat} {ys : List (Pkt × Hdl)} (h : RowQ base w sp c ys) (hb : Below w.heap.size w w') : RowQ base w' sp c ys := ⟨ownsRow_later h.row hb, fun y hy => (h.dat y hy).later hb⟩
theorem OwnP.toQ {base top : Nat} {w : World} {sp : Option Addr} {c : Nat} {ys : List (Pkt × Hdl)} (h : OwnP base top w sp c ys) : RowQ base w sp c ys := ⟨h.row, fun y hy => (h.dat.own y hy).1.mono (Nat.zero_le _)⟩
theorem RowQ.empty (w : World) (base : Nat) (hb : base ≤ w.heap.size) : RowQ base (w.alloc (.cells #[] 35)) (some ⟨w.heap.size, 0, none⟩) 0 [] :=
  ⟨⟨rfl, .inr ⟨w.heap.size, 0, #[], rfl, hb, heap_new _ _, Nat.le_refl _, by simp [maxLen], rfl, rfl⟩⟩, by simp⟩
theorem RowQ.cell {base : Nat} {w : World} {sp : Option Addr} {c : Nat} {xs : List (Pkt × Hdl)} (h : RowQ base w sp c xs) (i : Nat) (hi : i < xs.length) : ∃ g, sp = some ⟨g, 0, none⟩ ∧ w.cell? ⟨g, i * 4, none⟩ = some (.int .i64 xs[i].1.1) ∧ w.cell? ⟨g, i * 4 + 1, none⟩ = some (.int .i64 xs[i].1.2.1) ∧
    w.cell? ⟨g, i * 4 + 2, none⟩ = some (.int .i64 xs[i].1.2.2.1) ∧ w.cell? ⟨g, i * 4 + 3, none⟩ = some (.slice xs[i].2.1 xs[i].1.2.2.2.length xs[i].2.2) := by
  rcases h.row.2 with ⟨_, h0⟩ | ⟨g, cap, cur, hv, _, hg, _, _, _, ht⟩
  · omega
  · simp only [Value.slice.injEq] at hv
    obtain ⟨rfl, _, _⟩ := hv
    have key : ∀ f, f < 4 → w.cell? ⟨g, i * 4 + f, none⟩ = (pkRow xs[i])[f]? := by
      intro f hf
      rw [cell_of_row w g _ cur _ _ hg]
      have e := rowsP_get xs i f hi hf
      rw [← ht, List.getElem?_take, if_pos (by omega)] at e
      rw [← Array.getElem?_toList, e]
    exact ⟨g, rfl, key 0 (by omega), key 1 (by omega), key 2 (by omega), key 3 (by omega)⟩
theorem RowQ.blk_is {base : Nat} {w : World} {sp : Option Addr} {c : Nat} {xs : List (Pkt × Hdl)} (h : RowQ base w sp c xs) : ∀ g, blk sp = some g → base ≤ g ∧ g < w.heap.size ∧ ∃ cur : Array Value, w.heap[g]? = some (.cells cur 35 (0, 0)) := by
  intro g hg
  have hl := h.row.lt g (by rw [ownBlock_slice]; exact hg)
  rcases h.row.2 with ⟨hv, _⟩ | ⟨g1, cap, cur, hv, _, hh, _⟩
  · simp only [Value.slice.injEq] at hv
    rw [hv.1] at hg
    cases hg
  · simp only [Value.slice.injEq] at hv
    rw [hv.1] at hg
    obtain rfl : g1 = g := by simpa [blk] using hg
    exact ⟨hl.1, hl.2, _, hh⟩
theorem RowQ.grownNe {base : Nat} {w w' : World} {sp : Option Addr} {c : Nat} {ys : List (Pkt × Hdl)} {o : Option Nat} (h : RowQ base w sp c ys) (hg : w.grownBy w' o) (h1 : ∀ g, blk sp = some g → o ≠ some g) (h2 : ∀ y ∈ ys, ∀ g, blk y.2.1 = some g → o ≠ some g) : RowQ base w' sp c ys := ⟨ownsRow_grownNe h.row hg h1, fun y hy => (h.dat y hy).grownNe hg (h2 y hy)⟩
theorem run_appendQ {w : World} (base : Nat) (sp : Option Addr) (c : Nat) (xs : List (Pkt × Hdl)) (hown : RowQ base w sp c xs) (B : Nat) (x : Pkt × Hdl)
    (hB : w.heap[B]? = some (.cells (pkRow x).toArray 35 (0, 0))) (hd : OwnB 0 w x.2.1 x.2.2 x.1.2.2.2) (hn : xs.length ≤ 1048576) (hbase : base ≤ w.heap.size) (ty : TypeId) :
    ∃ sp' c' w', (Builtin.append_ #[25, 25] ty #[.slice sp xs.length c, .slice (some ⟨B, 0, none⟩) 1 1]).run Try.prog w = .ok (.slice sp' (xs.length + 1) c') w' ∧ RowQ base w' sp' c' (xs ++ [x]) ∧ w.grownBy w' (blk sp) ∧ ∀ g, blk sp' = some g → blk sp = some g ∨ w.heap.size ≤ g := by
  obtain ⟨i0, hi, hz0, hz1, hz2⟩ := info_parts infoP
  obtain ⟨v', w', hrun, h1, h2, _, h5⟩ := run_append_own_at (P := Try.prog) w base 25 ty 35 i0 _ 4 48 Try.underlying25 hi hz0 hz1 hz2 rfl (by omega) _ _ _ hown.row ⟨B, 0, none⟩ 1 1 (pkRow x) rfl
    (fun j u hu => by have := World.news_of_block hB j u; simp only at this; exact this hu) (pk_oneCell x) (by simp only [maxLen]; omega) (by omega) hbase
  have hv : ∃ sp' c', v' = .slice sp' (xs.length + 1) c' := by
    rcases h1.2 with ⟨hv, h0⟩ | ⟨g, cap, cur, hv, _⟩
    · omega
    · exact ⟨_, _, hv⟩
  obtain ⟨sp', c', rfl⟩ := hv
  rw [ownBlock_slice] at h2
  rw [ownBlock_slice, ownBlock_slice] at h5
  have hne : ∀ y : Pkt × Hdl, OwnB 0 w y.2.1 y.2.2 y.1.2.2.2 → ∀ g, blk y.2.1 = some g → blk sp ≠ some g := by
    intro y hy g hg hs
    obtain ⟨_, _, cur, hc⟩ := hown.blk_is g hs
    exact hy.ne_block hc (by decide) hg
  refine ⟨sp', c', w', hrun, ⟨?_, ?_⟩, h2, fun g hg => ?_⟩
  · rw [rowsP_snoc, List.length_append]
    exact h1
  · intro y hy
    rcases List.mem_append.1 hy with h | h
    · exact (hown.dat y h).grownNe h2 (hne y (hown.dat y h))
    · rw [List.mem_singleton] at h; subst h; exact hd.grownNe h2 (hne y hd)
  · rcases h5 with h5 | h5
    · exact .inl (h5.symm.trans hg)
    · rw [h5] at hg
      exact .inr (Nat.le_of_eq (Option.some.inj hg))
theorem wpList_appendQ {w : World} {ops : Array Oper} {rest : List Oper} {o : Oper} {a : Act} {Q : Exit → Act → World → Prop} (hgd : o.guard = none) (s x : Operand)
    (ho : o.op = .call { callee := .builtin .append, args := #[s, x], argTypes := #[25, 25] })
    (base : Nat) (sp : Option Addr) (n c : Nat) (xs : List (Pkt × Hdl)) (hs : a.eval s = .slice sp n c) (hn : xs.length = n) (hown : RowQ base w sp c xs) (B : Nat) (e : Pkt × Hdl) (hx : a.eval x = .slice (some ⟨B, 0, none⟩) 1 1)
    (hB : w.heap[B]? = some (.cells (pkRow e).toArray 35 (0, 0))) (hd : OwnB 0 w e.2.1 e.2.2 e.1.2.2.2) (hlen : xs.length ≤ 1048576) (hbase : base ≤ w.heap.size)
    (hk : ∀ sp' c' w', RowQ base w' sp' c' (xs ++ [e]) → w.grownBy w' (blk sp) → (∀ g, blk sp' = some g → blk sp = some g ∨ w.heap.size ≤ g) → wpList Try.prog ops Q rest (a.put o.dst (.slice sp' (n + 1) c')) w') :
    wpList Try.prog ops Q (o :: rest) a w := by
  subst hn
  refine wpList_plain hgd fun K hK => ?_
  obtain ⟨sp', c', w', hrun, h1, h2, h3⟩ := run_appendQ (w := w) base sp c xs hown B e hB hd hlen hbase o.type
  unfold Oper.wp
  simp [execOp, ho, resolve, invoke, builtin, hs, hx, hrun, Result.andThen]
  exact hK _ _ (hk sp' c' w' h1 h2 h3)
theorem alive_snoc (zs : List SPk) (z : SPk) : alive (zs ++ [z]) = alive zs ++ (if z.2 then [] else [z.1]) := by
  unfold alive
  rw [List.filter_append, List.map_append]
  cases h : z.2 <;> simp [h]
theorem alive_take {zs : List SPk} (j : Nat) (hj : j < zs.length) : alive (zs.take (j + 1)) = alive (zs.take j) ++ (if zs[j].2 then [] else [zs[j].1]) := by
  rw [List.take_succ_eq_append_getElem hj, alive_snoc]
theorem alive_len (zs : List SPk) : (alive zs).length ≤ zs.length := by
  unfold alive
  rw [List.length_map]
  exact List.length_filter_le _ _
set_option maxHeartbeats 1000000 in
theorem refLink_calls (f t : Int) (w : World) : Calls Try.prog 48 #[.int .i64 f, .int .i64 t] w fun e w' => e = .returned (.bool (isL f t)) ∧ w' = w := by
  go_enter Try.func48, Try.ntmps48
  by_cases h1 : 1 ≤ f
  rotate_left
  · go_wp2
    go_ret
    exact ⟨by simp [isL, isN]; omega, rfl⟩
  by_cases h2 : f ≤ 9
  rotate_left
  · go_wp2
    go_ret
    exact ⟨by simp [isL, isN]; omega, rfl⟩
  by_cases h3 : 1 ≤ t
  rotate_left
  · go_wp2
    go_ret
    exact ⟨by simp [isL, isN]; omega, rfl⟩
  by_cases h4 : t ≤ 9
  rotate_left
  · go_wp2
    go_ret
    exact ⟨by simp [isL, isN]; omega, rfl⟩
  by_cases h5 : f = t
  · subst h5
    go_wp2
    go_ret
    exact ⟨by simp [isL], rfl⟩
  · go_wp2
    go_ret
    exact ⟨by simp [isL, isN, h1, h2, h3, h4, h5], rfl⟩
section
variable {base : Nat} {w : World} {R : Nat} {sp : Option Addr} {c : Nat} {zs : List SPk} {pa : List Bool} {ck : List Int}
set_option maxRecDepth 20000 in
set_option maxHeartbeats 4000000 in
theorem refUnder_calls (h : RefAt base w R sp c zs pa ck) (hz : zs.length ≤ 1000) : Calls Try.prog 40 #[.pointer (some ⟨R, 0, none⟩)] w fun e w' => ∃ sp' c', e = .returned (.slice sp' (alive zs).length c') ∧ RowQ w.heap.size w' sp' c' (alive zs) ∧ Below w.heap.size w w' := by
  have H := hide h
  have Q0 := hide (RowQ.empty w w.heap.size (Nat.le_refl _))
  have b0 := hide (show Below w.heap.size w (w.alloc (.cells #[] 35)) from (Below.refl _ _).alloc (Nat.le_refl _) _)
  clear h
  go_enter Try.func40, Try.ntmps40
  go_wp2_with fail
  go_loopw [3, 4] (fun v i wr => ∃ (j m : Nat) (sp' : Option Addr) (c' : Nat), j ≤ zs.length ∧ v = .slice sp' m c' ∧ i = .int .i64 (j : Int) ∧ Hid ((alive (zs.take j)).length = m) ∧ Hid (RowQ w.heap.size wr sp' c' (alive (zs.take j))) ∧ Hid (Below w.heap.size w wr)) (fun _ i _ => zs.length - (intOf i).toNat)
  case atStart => exact ⟨0, 0, _, 0, by omega, rfl, rfl, rfl, unhide Q0, unhide b0⟩
  case round =>
    obtain ⟨j, m, sp', c', hj, rfl, rfl, hm, Q, F⟩ := hrel
    have HN := hide ((unhide H).later (unhide F))
    have c0 := (unhide HN).c0
    by_cases hjn : j < zs.length
    · obtain ⟨g, rfl, p0, p1, p2, p3, p4⟩ := (unhide HN).own.cell j hjn
      have hj0 : (0 : Int) ≤ (j : Int) := by omega
      have hj1 : (j : Int) < (zs.length : Int) := by omega
      have htk := hide (alive_take j hjn)
      have DB := hide ((unhide HN).own.dat zs[j] (List.getElem_mem hjn))
      have hml : m ≤ 1000 := by have := alive_len (zs.take j); rw [unhide hm, List.length_take] at this; omega
      generalize zs[j] = x at *
      obtain ⟨⟨⟨id, f, t, l⟩, dp, dc⟩, gone⟩ := x
      simp only at p0 p1 p2 p3 p4 htk DB
      cases gone
      · have XA := hide (heap_new wr (.cells #[.int .i64 id, .int .i64 f, .int .i64 t, .slice dp l.length dc] 35))
        have bA := hide (show Below wr.heap.size wr (wr.alloc (.cells #[.int .i64 id, .int .i64 f, .int .i64 t, .slice dp l.length dc] 35)) from (Below.refl _ _).alloc (Nat.le_refl _) _)
        go_wp2_with (at_builtin; refine unhide ?_)
        refine hide ?_
        refine wpList_appendQ rfl (.tmp 28) (.tmp 37) rfl w.heap.size sp' m c' (alive (zs.take j)) rfl (unhide hm) ((unhide Q).later (unhide bA)) wr.heap.size ((id, f, t, l), (dp, dc)) rfl (unhide XA) (((unhide DB).mono (Nat.zero_le _)).later (unhide bA)) (by rw [unhide hm]; omega) (Nat.le_trans (unhide F).size (unhide bA).size) ?_
        intro sp5 c5 W5 ho5 hg5 hl5
        have F4 := hide ((unhide F).trans ((unhide bA).mono (unhide F).size))
        have F5 := hide ((unhide F4).grown hg5 (unhide F4).size (fun g hg => ((unhide Q).blk_is g hg).1))
        have Q5 := hide (show RowQ w.heap.size W5 sp5 c5 (alive (zs.take (j + 1))) by rw [unhide htk]; exact ho5)
        have M5 := hide (show (alive (zs.take (j + 1))).length = m + 1 by rw [unhide htk, List.length_append, unhide hm]; rfl)
        clear ho5 hg5 hl5
        go_wp2
        exact ⟨⟨j + 1, m + 1, sp5, c5, by omega, rfl, by go_num, unhide M5, unhide Q5, unhide F5⟩, by simp [intOf]; omega⟩
      · have Q5 := hide (show RowQ w.heap.size wr sp' c' (alive (zs.take (j + 1))) by rw [unhide htk]; simpa using unhide Q)
        have M5 := hide (show (alive (zs.take (j + 1))).length = m by rw [unhide htk]; simpa using unhide hm)
        go_wp2
        exact ⟨⟨j + 1, m, sp', c', by omega, rfl, by go_num, unhide M5, unhide Q5, unhide F⟩, by simp [intOf]; omega⟩
    · obtain rfl : j = zs.length := by omega
      rw [List.take_length] at hm Q
      have hmm := unhide hm
      subst hmm
      go_wp2
      go_ret
      exact ⟨sp', c', rfl, unhide Q, unhide F⟩
theorem refLen_calls (h : RefAt base w R sp c zs pa ck) (hz : zs.length ≤ 1000) : Calls Try.prog 38 #[.pointer (some ⟨R, 0, none⟩)] w fun e w' => e = .returned (.int .i64 ((alive zs).length : Int)) ∧ Below w.heap.size w w' := by
  have H := hide h
  clear h
  go_enter Try.func38, Try.ntmps38
  go_wp2_with fail
  refine (refUnder_calls (unhide H) hz).mono ?_
  rintro e W1 ⟨sp', c', rfl, _, b1⟩
  have B1 := hide b1
  clear b1
  go_wp2
  go_ret
  exact ⟨rfl, unhide B1⟩
end
end Go.Proofs.Yticemhnfcelpmaa
