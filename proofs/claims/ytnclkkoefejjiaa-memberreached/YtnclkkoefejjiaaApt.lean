/- Slices of places that the call itself makes by append; the document's reached and Agreed. -/
import Derived.Test.YtnclkkoefejjiaaMk2
namespace Go.Proofs.Ytnclkkoefejjiaa
open Go.ChangeShapes Go.WideShapes Go.ChangeAt Go.RowKit

theorem infoAt : (Try.prog.info? 36).map (fun i => (i.zero, i.size, i.bytes)) = some (some (.agg #[.int .i64 0, .int .i64 0]), 2, 16) := by kernel_rfl
def cellsA : List (Int × Int) → List Value
  | [] => []
  | e :: r => .int .i64 e.1 :: .int .i64 e.2 :: cellsA r
theorem cellsA_length : ∀ es, (cellsA es).length = es.length * 2
  | [] => rfl
  | e :: r => by simp only [cellsA, List.length_cons, cellsA_length r]; omega
theorem cellsA_append : ∀ a b, cellsA (a ++ b) = cellsA a ++ cellsA b
  | [], b => rfl
  | e :: r, b => by simp [cellsA, cellsA_append r b]
theorem cellsA_at : ∀ (es : List (Int × Int)) (i : Nat) (hi : i < es.length), (cellsA es)[i * 2]? = some (.int .i64 es[i].1) ∧ (cellsA es)[i * 2 + 1]? = some (.int .i64 es[i].2)
  | [], i, hi => by simp at hi
  | e :: r, 0, _ => by simp [cellsA]
  | e :: r, i + 1, hi => by
    have ih := cellsA_at r i (by simpa using hi)
    rw [show (i + 1) * 2 = i * 2 + 2 by omega]
    simpa [cellsA] using ih
theorem cellsA_one (es : List (Int × Int)) : ∀ v ∈ cellsA es, v.oneCell' = true := by
  induction es with
  | nil => simp [cellsA]
  | cons e r ih =>
    intro v hv
    simp only [cellsA, List.mem_cons] at hv
    rcases hv with rfl | rfl | hv
    · rfl
    · rfl
    · exact ih v hv
/-- Places in memory of the call's own. -/
structure OwnA (base : Nat) (w : World) (sp : Option Addr) (c : Nat) (es : List (Int × Int)) : Prop where
  owns : w.ownsRow base 36 2 (.slice sp es.length c) es.length (cellsA es)
  bd : ∀ e ∈ es, In64 e.1 ∧ In64 e.2
theorem OwnA.ats {base : Nat} {w : World} {sp : Option Addr} {c : Nat} {es : List (Int × Int)} (h : OwnA base w sp c es) : AtsAt w sp es := by
  refine ⟨h.bd, fun i hi => ?_⟩
  rcases h.owns.2 with ⟨hv, h0⟩ | ⟨g, cap, cur, hv, _, hg, _, _, _, ht⟩
  · omega
  · cases hv
    obtain ⟨h1, h2⟩ := cellsA_at es i hi
    rw [← ht, List.getElem?_take, if_pos (by omega)] at h1 h2
    refine ⟨g, 0, rfl, ?_, ?_⟩
    · rw [cell_of_row w g (0 + i * 2) cur _ _ hg, Nat.zero_add, ← Array.getElem?_toList]
      exact h1
    · rw [cell_of_row w g (0 + i * 2 + 1) cur _ _ hg, Nat.zero_add, ← Array.getElem?_toList]
      exact h2
theorem OwnA.empty (w : World) (base : Nat) (hb : base ≤ w.heap.size) : OwnA base (w.alloc (.cells #[] 36)) (some ⟨w.heap.size, 0, none⟩) 0 [] :=
  ⟨⟨rfl, .inr ⟨w.heap.size, 0, #[], rfl, hb, heap_new _ _, Nat.le_refl _, by simp [maxLen], rfl, rfl⟩⟩, by simp⟩
theorem OwnA.blk_lt {base : Nat} {w : World} {sp : Option Addr} {c : Nat} {es : List (Int × Int)} (h : OwnA base w sp c es) : ∀ g, blk sp = some g → base ≤ g ∧ g < w.heap.size := by
  intro g hg
  have := h.owns.lt g (by rw [ownBlock_slice]; exact hg)
  exact this
theorem news_at {w : World} {ad : Addr} {k : List (Int × Int)} (hB : AtsAt w (some ad) k) : ∀ j u, (cellsA k)[j]? = some u → w.cell? (ad.add j) = some u := by
  intro j u hu
  have hj : j < k.length * 2 := by
    rcases Nat.lt_or_ge j (k.length * 2) with h | h
    · exact h
    · rw [List.getElem?_eq_none (by rw [cellsA_length]; exact h)] at hu; cases hu
  obtain ⟨i, hi⟩ : ∃ i, j = i * 2 ∨ j = i * 2 + 1 := ⟨j / 2, by omega⟩
  have hik : i < k.length := by omega
  obtain ⟨b, off, e, h1, h2⟩ := hB.cell i hik
  cases e
  obtain ⟨g1, g2⟩ := cellsA_at k i hik
  rw [Addr.add_lit]
  rcases hi with rfl | rfl
  · rw [g1] at hu
    cases hu
    exact h1
  · rw [g2] at hu
    cases hu
    rw [← Nat.add_assoc]
    exact h2
theorem run_appendA {w : World} (base : Nat) (sp : Option Addr) (c : Nat) (l : List (Int × Int)) (hown : OwnA base w sp c l) (xp : Option Addr) (m xc : Nat) (k : List (Int × Int)) (hk : k.length = m) (hB : AtsAt w xp k) (hx0 : xp = none → xc = 0)
    (hsz : (l.length + m) * 16 ≤ 140737488355328) (hbase : base ≤ w.heap.size) (ty : TypeId) :
    ∃ sp' c' w', (Builtin.append_ #[33, 33] ty #[.slice sp l.length c, .slice xp m xc]).run Try.prog w = .ok (.slice sp' (l ++ k).length c') w' ∧ OwnA base w' sp' c' (l ++ k) ∧ w.grownBy w' (blk sp) ∧ ∀ g, blk sp' = some g → blk sp = some g ∨ w.heap.size ≤ g := by
  subst hk
  obtain ⟨i0, hi, hz0, hz1, hz2⟩ := info_parts infoAt
  have hbd : ∀ e ∈ l ++ k, In64 e.1 ∧ In64 e.2 := fun c hc => (List.mem_append.1 hc).elim (hown.bd c) (hB.bd c)
  cases xp with
  | none =>
    have hk0 : k = [] := by
      cases k with
      | nil => rfl
      | cons x r => obtain ⟨b, off, h, _⟩ := hB.cell 0 (by simp); cases h
    subst hk0
    rw [hx0 rfl]
    have hrun := run_append_owned_none (P := Try.prog) (w := w) base 33 ty 36 i0 2 Try.underlying33 hi _ _ _ hown.owns
    refine ⟨sp, c, w, ?_, ?_, ⟨rfl, rfl, rfl, Nat.le_refl _, fun _ _ _ => rfl⟩, fun g hg => .inl hg⟩
    · rw [List.append_nil]; exact hrun
    · rw [List.append_nil]; exact hown
  | some x =>
    obtain ⟨v', w', hrun, h1, h2, _, h5⟩ := run_append_own_at (P := Try.prog) w base 33 ty 36 i0 (.agg #[.int .i64 0, .int .i64 0]) 2 16 Try.underlying33 hi hz0 hz1 hz2 rfl (by omega) _ _ _ hown.owns x k.length xc (cellsA k) (cellsA_length k)
      (news_at hB) (cellsA_one k) (by simp only [maxLen]; omega) (by omega) hbase
    rw [← cellsA_append, ← List.length_append] at h1
    have hv : ∃ sp' c', v' = .slice sp' (l ++ k).length c' := by
      rcases h1.2 with ⟨hv, h0⟩ | ⟨g, cap, cur, hv, _⟩
      · exact ⟨none, 0, by rw [hv, h0]⟩
      · exact ⟨_, _, hv⟩
    obtain ⟨sp', c', rfl⟩ := hv
    rw [ownBlock_slice, ownBlock_slice] at h5
    rw [ownBlock_slice] at h2
    refine ⟨sp', c', w', hrun, ⟨h1, hbd⟩, h2, fun g hg => ?_⟩
    rcases h5 with h5 | h5
    · exact .inl (h5.symm.trans hg)
    · rw [h5] at hg
      exact .inr (Nat.le_of_eq (Option.some.inj hg))
theorem wpList_appendA {w : World} {ops : Array Oper} {rest : List Oper} {o : Oper} {a : Act} {Q : Exit → Act → World → Prop} (hgd : o.guard = none) (s x : Operand)
    (ho : o.op = .call { callee := .builtin .append, args := #[s, x], argTypes := #[33, 33] })
    (base : Nat) (sp : Option Addr) (n c : Nat) (l : List (Int × Int)) (hs : a.eval s = .slice sp n c) (hn : l.length = n) (hown : OwnA base w sp c l)
    (xp : Option Addr) (m xc : Nat) (hx : a.eval x = .slice xp m xc) (k : List (Int × Int)) (hk : k.length = m) (hB : AtsAt w xp k) (hx0 : xp = none → xc = 0)
    (hsz : (l.length + m) * 16 ≤ 140737488355328) (hbase : base ≤ w.heap.size)
    (h : ∀ sp' n' c' w', Hid ((l ++ k).length = n') → OwnA base w' sp' c' (l ++ k) → Grew w sp w' sp' → wpList Try.prog ops Q rest (a.put o.dst (.slice sp' n' c')) w') :
    wpList Try.prog ops Q (o :: rest) a w := by
  subst hn
  refine wpList_plain hgd fun K hK => ?_
  obtain ⟨sp', c', w', hrun, h1, h2, h3⟩ := run_appendA (w := w) base sp c l hown xp m xc k hk hB hx0 hsz hbase o.type
  unfold Oper.wp
  simp [execOp, ho, resolve, invoke, builtin, hs, hx, hrun, Result.andThen]
  have := hK _ _ (h sp' (l ++ k).length c' w' rfl h1 ⟨h2, h3⟩)
  rw [List.length_append] at this
  exact this
theorem GrewA.below {base : Nat} {w w' : World} {sp sp' : Option Addr} {c : Nat} {l : List (Int × Int)} (h : Grew w sp w' sp') (ho : OwnA base w sp c l) (hb : base ≤ w.heap.size) : Below base w w' :=
  (Below.refl base w).grown h.grown hb (fun j hj => (ho.blk_lt j hj).1)
theorem reach_drop {es : List (Int × Int)} {j : Nat} (hj : j < es.length) (n : Int) : reachM (es.drop j) n = if es[j].1 = n then max es[j].2 0 else reachM (es.drop (j + 1)) n := by
  rw [List.drop_eq_getElem_cons hj]
  unfold reachM
  rw [List.find?_cons]
  by_cases h : es[j].1 = n
  · simp [h]
  · simp [h]
section
variable {w : World} {ea : Option Addr} {ec : Nat} {es : List (Int × Int)}
set_option maxHeartbeats 4000000 in
theorem refReached_calls (he : AtsAt w ea es) (m : Nat) (hm : es.length = m) (hx : m ≤ maxLen) (n : Int) : Calls Try.prog 53 #[.slice ea m ec, .int .i64 n] w fun e w' => e = .returned (.int .i64 (reachM es n)) ∧ w' = w := by
  have H := hide he
  have HM := hide hm
  simp only [maxLen] at hx
  clear he hm
  go_enter Try.func53, Try.ntmps53
  go_wp2_with fail
  go_loopw [5] (fun i wr => ∃ (j : Nat), j ≤ m ∧ i = .int .i64 (j : Int) ∧ Hid (reachM (es.drop j) n = reachM es n) ∧ Hid (wr = w)) (fun i _ => m - (intOf i).toNat)
  case atStart => exact ⟨0, by omega, rfl, rfl, rfl⟩
  case round =>
    obtain ⟨j, hj, rfl, hr, hw⟩ := hrel
    have hw' := unhide hw
    subst hw'
    by_cases hjm : j < m
    · have hjl : j < es.length := by rw [unhide HM]; exact hjm
      obtain ⟨b, off, rfl, p0, p1⟩ := (unhide H).cell j hjl
      have hD := hide (reach_drop hjl n)
      generalize es[j] = x at *
      obtain ⟨x1, x2⟩ := x
      dsimp only at p0 p1 hD
      have hj0 : (0 : Int) ≤ (j : Int) := by omega
      have hj1 : (j : Int) < (m : Int) := by omega
      by_cases hin : x1 = n
      · subst hin
        by_cases h0 : x2 < 0
        · have R := hide (show reachM es x1 = 0 by rw [← unhide hr, unhide hD, if_pos rfl]; omega)
          go_wp2
          go_ret
          exact ⟨by rw [unhide R]; rfl, rfl⟩
        · have R := hide (show reachM es x1 = x2 by rw [← unhide hr, unhide hD, if_pos rfl]; omega)
          go_wp2
          go_ret
          exact ⟨by rw [unhide R]; rfl, rfl⟩
      · have R2 := hide (show reachM (es.drop (j + 1)) n = reachM es n by rw [← unhide hr, unhide hD, if_neg hin])
        go_wp2
        exact ⟨⟨j + 1, by omega, by go_num, unhide R2, by first | exact rfl | exact hide trivial⟩, by simp [intOf]; omega⟩
    · obtain rfl : j = m := by omega
      have R2 := hide (show reachM es n = 0 by rw [← unhide hr, List.drop_of_length_le (by rw [unhide HM]; exact Nat.le_refl _)]; rfl)
      go_wp2
      go_ret
      exact ⟨by rw [unhide R2]; rfl, rfl⟩
end
theorem best_snoc (v : List Int) (f : Int → Int) : ∀ (todo : List Int) (n b : Int), bestOf v f (todo ++ [n]) b = (if bestOf v f todo b < f n ∧ v.length / 2 < countGe v f (f n) then f n else bestOf v f todo b)
  | [], n, b => rfl
  | m :: r, n, b => by
    simp only [List.cons_append, bestOf]
    exact best_snoc v f r n _
theorem reach_bd {es : List (Int × Int)} (h : ∀ e ∈ es, In64 e.1 ∧ In64 e.2) (n : Int) : 0 ≤ reachM es n ∧ reachM es n ≤ 9223372036854775807 := by
  unfold reachM
  cases hf : es.find? (fun e => decide (e.1 = n)) with
  | none => exact ⟨by simp, by simp⟩
  | some e =>
    have := (h e (List.mem_of_find?_eq_some hf)).2
    unfold In64 at this
    exact ⟨by simp only; omega, by simp only; omega⟩
theorem best_bd (v : List Int) (f : Int → Int) (hf : ∀ n, 0 ≤ f n ∧ f n ≤ 9223372036854775807) : ∀ (todo : List Int) (b : Int), 0 ≤ b → b ≤ 9223372036854775807 → 0 ≤ bestOf v f todo b ∧ bestOf v f todo b ≤ 9223372036854775807
  | [], b, h0, h1 => ⟨h0, h1⟩
  | n :: r, b, h0, h1 => by
    have := hf n
    exact best_bd v f hf r _ (by split <;> omega) (by split <;> omega)
section
variable {w : World} {va : Option Addr} {vc : Nat} {v : List Int} {la : Option Addr} {lc : Nat} {l : List Int} {ea : Option Addr} {ec : Nat} {es : List (Int × Int)}
set_option maxRecDepth 20000 in
set_option maxHeartbeats 8000000 in
theorem refAgreed_calls (hv : IntsAt w va v) (hl : IntsAt w la l) (he : AtsAt w ea es) (vn ln en : Nat) (hvn : v.length = vn) (hln : l.length = ln) (hen : es.length = en) (hvx : vn ≤ maxLen) (hlx : ln ≤ maxLen) (hex : en ≤ maxLen) :
    Calls Try.prog 29 #[mV va vn vc la ln lc, .slice ea en ec] w fun e w' => e = .returned (.int .i64 (agreedM v l es)) ∧ Below w.heap.size w w' := by
  have X1 := hide (heap_new w (mB va vn vc la ln lc))
  have b1 := hide (show Below w.heap.size w (w.alloc (mB va vn vc la ln lc)) from (Below.refl _ _).alloc (Nat.le_refl _) _)
  have V := hide (hv.later (unhide b1))
  have L := hide (hl.later (unhide b1))
  have E := hide (he.later (unhide b1))
  have VN := hide hvn
  have LN := hide hln
  have EN := hide hen
  have FB := hide (reach_bd he.bd)
  have hvx' := hvx
  simp only [maxLen] at hvx'
  clear hv hl he hvn hln hen
  go_enter Try.func29, Try.ntmps29
  go_wp2_with fail
  generalize hD : w.heap.size = D at *
  generalize w.alloc (mB va vn vc la ln lc) = w1 at *
  go_loopw [5, 6] (fun s i wr => ∃ (j : Nat) (g : Int), j ≤ vn ∧ 0 ≤ g ∧ g ≤ 9223372036854775807 ∧ s = .int .i64 g ∧ i = .int .i64 (j : Int) ∧ Hid (0 < j → rightM v l = true) ∧ Hid (bestOf v (reachM es) (v.take j) 0 = g) ∧ Hid (Below w1.heap.size w1 wr)) (fun _ i _ => vn - (intOf i).toNat)
  case atStart => exact ⟨0, 0, by omega, by omega, by omega, rfl, rfl, (fun h => absurd h (by omega)), rfl, Below.refl _ _⟩
  case round =>
    obtain ⟨j, g, hj, hg0, hg1, rfl, rfl, hrk, hbest, hB⟩ := hrel
    have V2 := hide ((unhide V).later (unhide hB))
    have L2 := hide ((unhide L).later (unhide hB))
    have X2 := hide (later_block (unhide hB) (unhide X1))
    have c0 := box_cell (unhide X2) 0 _ rfl
    have c1 := box_cell (unhide X2) 1 _ rfl
    by_cases hjm : j < vn
    · have hj0 : (0 : Int) ≤ (j : Int) := by omega
      have hj1 : (j : Int) < (vn : Int) := by omega
      go_wp2_with fail
      refine (refRight_calls (unhide V2) (unhide L2) vn ln (unhide VN) (unhide LN) hvx hlx).mono ?_
      rintro e w2 ⟨rfl, b2⟩
      have B2 := hide ((unhide hB).trans (b2.mono (unhide hB).size))
      have V3 := hide ((unhide V).later (unhide B2))
      have E3 := hide ((unhide E).later (unhide B2))
      have X3 := hide (later_block (unhide B2) (unhide X1))
      clear b2 c0 c1
      have c0 := box_cell (unhide X3) 0 _ rfl
      have c1 := box_cell (unhide X3) 1 _ rfl
      cases hr : rightM v l
      · have AE := hide (show g = agreedM v l es by
          have h0 : j = 0 := by
            rcases Nat.eq_zero_or_pos j with h | h
            · exact h
            · have := unhide hrk h
              rw [hr] at this
              cases this
          subst h0
          rw [← unhide hbest, agreedM, hr]
          rfl)
        go_wp2
        go_ret
        exact ⟨by rw [← unhide AE]; rfl, by first | exact (unhide b1).trans ((unhide B2).mono (by have := (unhide b1).size; omega)) | (rw [hD]; exact (unhide b1).trans ((unhide B2).mono (by have := (unhide b1).size; omega)))⟩
      · have h9 := (right_parts hr).2.2.1
        have hvn9 : vn ≤ 9 := by rw [← unhide VN]; exact h9
        have hjl : j < v.length := by rw [unhide VN]; exact hjm
        obtain ⟨b, off, rfl, p0⟩ := (unhide V3).cell j hjl
        have hT := hide (List.take_succ_eq_append_getElem hjl)
        generalize v[j] = x at *
        go_wp2_with fail
        refine (refReached_calls (unhide E3) en (unhide EN) hex x).mono ?_
        rintro e w3 ⟨rfl, rfl⟩
        obtain ⟨fx0, fx1⟩ := unhide FB x
        have FX := hide (show reachM es x = reachM es x from rfl)
        generalize hfx : reachM es x = fx at *
        have HFX := hide hfx
        clear hfx
        go_wp2_with fail
        go_loopw [8, 9] (fun s i wr' => ∃ (q k : Nat), q ≤ vn ∧ k ≤ q ∧ s = .int .i64 (k : Int) ∧ i = .int .i64 (q : Int) ∧ Hid (((v.take q).filter fun n => decide (fx ≤ reachM es n)).length = k) ∧ Hid (wr' = w3)) (fun _ i _ => vn - (intOf i).toNat)
        case atStart => exact ⟨0, 0, by omega, by omega, rfl, rfl, by simp [Hid], rfl⟩
        case round =>
          obtain ⟨q, k, hq, hkq, rfl, rfl, hc, hw⟩ := hrel
          have hw' := unhide hw
          subst hw'
          by_cases hqm : q < vn
          · have hql : q < v.length := by rw [unhide VN]; exact hqm
            obtain ⟨b', off', e', p1⟩ := (unhide V3).cell q hql
            cases e'
            have hU := hide (List.take_succ_eq_append_getElem hql)
            generalize v[q] = y at *
            have hq0 : (0 : Int) ≤ (q : Int) := by omega
            have hq1 : (q : Int) < (vn : Int) := by omega
            go_wp2_with fail
            refine (refReached_calls (unhide E3) en (unhide EN) hex y).mono ?_
            rintro e w4 ⟨rfl, rfl⟩
            by_cases hge : fx ≤ reachM es y
            · have R := hide (show ((v.take (q + 1)).filter fun n => decide (fx ≤ reachM es n)).length = k + 1 by rw [unhide hU, List.filter_append, List.length_append, unhide hc]; simp [hge])
              go_wp2
              exact ⟨⟨q + 1, k + 1, by omega, by omega, by go_num, by go_num, unhide R, by first | exact rfl | exact hide trivial⟩, by simp [intOf]; omega⟩
            · have R := hide (show ((v.take (q + 1)).filter fun n => decide (fx ≤ reachM es n)).length = k by rw [unhide hU, List.filter_append, List.length_append, unhide hc]; simp [hge])
              go_wp2
              exact ⟨⟨q + 1, k, by omega, by omega, rfl, by go_num, unhide R, by first | exact rfl | exact hide trivial⟩, by simp [intOf]; omega⟩
          · obtain rfl : q = vn := by omega
            have CG := hide (show countGe v (reachM es) fx = k by have := unhide hc; rwa [List.take_of_length_le (by rw [unhide VN]; exact Nat.le_refl _)] at this)
            have ST := hide (show bestOf v (reachM es) (v.take (j + 1)) 0 = if g < fx ∧ q < 2 * k then fx else g by
              rw [unhide hT, best_snoc, unhide hbest, unhide HFX, unhide CG, unhide VN]
              have e : (g < fx ∧ q / 2 < k) ↔ (g < fx ∧ q < 2 * k) := by omega
              simp only [e])
            by_cases h1 : q < 2 * k
            · have h1' : (q : Int) < 2 * (k : Int) := by omega
              by_cases h2 : g < fx
              · have R := hide (show bestOf v (reachM es) (v.take (j + 1)) 0 = fx by rw [unhide ST, if_pos ⟨h2, h1⟩])
                go_wp2
                exact ⟨⟨j + 1, fx, by omega, fx0, fx1, rfl, by go_num, (fun _ => hr), unhide R, unhide B2⟩, by simp [intOf]; omega⟩
              · have R := hide (show bestOf v (reachM es) (v.take (j + 1)) 0 = g by rw [unhide ST, if_neg (fun h => h2 h.1)])
                go_wp2
                exact ⟨⟨j + 1, g, by omega, hg0, hg1, rfl, by go_num, (fun _ => hr), unhide R, unhide B2⟩, by simp [intOf]; omega⟩
            · have h1' : ¬ ((q : Int) < 2 * (k : Int)) := by omega
              have R := hide (show bestOf v (reachM es) (v.take (j + 1)) 0 = g by rw [unhide ST, if_neg (fun h => h1 h.2)])
              go_wp2
              exact ⟨⟨j + 1, g, by omega, hg0, hg1, rfl, by go_num, (fun _ => hr), unhide R, unhide B2⟩, by simp [intOf]; omega⟩
    · obtain rfl : j = vn := by omega
      have AE := hide (show g = agreedM v l es by
        rw [← unhide hbest, agreedM, List.take_of_length_le (by rw [unhide VN]; exact Nat.le_refl _)]
        by_cases h0 : 0 < j
        · rw [unhide hrk h0]
          rfl
        · have : v = [] := List.eq_nil_of_length_eq_zero (by rw [unhide VN]; omega)
          rw [this]
          simp [bestOf])
      go_wp2
      go_ret
      exact ⟨by rw [← unhide AE]; rfl, by first | exact (unhide b1).trans ((unhide hB).mono (by have := (unhide b1).size; omega)) | (rw [hD]; exact (unhide b1).trans ((unhide hB).mono (by have := (unhide b1).size; omega)))⟩
end
end Go.Proofs.Ytnclkkoefejjiaa
