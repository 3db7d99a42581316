/- Logs: Entries. -/
import Derived.Test.YtijcpmbfhfppmaaGreatDoorWgc
namespace Go.Proofs.YtijcpmbfhfppmaaGreatDoor
open Go.ChangeShapes Go.WideShapes Go.ChangeAt Go.RowKit
set_option linter.unusedVariables false

theorem wpList_appendL {w : World} {ops : Array Oper} {rest : List Oper} {o : Oper} {a : Act} {Q : Exit → Act → World → Prop} (hgd : o.guard = none) (s x : Operand)
    (ho : o.op = .call { callee := .builtin .append, args := #[s, x], argTypes := #[27, 27] })
    (base : Nat) (sp : Option Addr) (n c : Nat) (es : List EntN) (hs : List (Option Addr × Nat)) (hsv : a.eval s = .slice sp n c) (hn : es.length = n) (hown : OwnL base w sp c es hs) (B : Nat) (e : EntN) (h : Option Addr × Nat) (hx : a.eval x = .slice (some ⟨B, 0, none⟩) 1 1)
    (hB : w.heap[B]? = some (.cells (entRow e h).toArray 60 (0, 0))) (hd : Bx base w h.1 h.2 e.2.2.2) (hlen : es.length ≤ 1048576) (hbase : base ≤ w.heap.size)
    (hk : ∀ sp' c' w', OwnL base w' sp' c' (es ++ [e]) (hs ++ [h]) → w.grownBy w' (blk sp) → wpList Tryz.prog ops Q rest (a.put o.dst (.slice sp' (n + 1) c')) w') :
    wpList Tryz.prog ops Q (o :: rest) a w := by
  subst hn
  refine wpList_plain hgd fun K hK => ?_
  obtain ⟨sp', c', w', hrun, h1, h2, _⟩ := run_appendL (w := w) hown B e h hB hd hlen hbase o.type
  unfold Oper.wp
  simp [execOp, ho, resolve, invoke, builtin, hsv, hx, hrun, Result.andThen]
  exact hK _ _ (hk sp' c' w' h1 h2)
/-- The entries from an index to another one. -/
def fromTo (es : List EntN) (i j : Int) : List EntN := es.filter fun e => decide (i ≤ (e.2.2.1 : Int)) && decide ((e.2.2.1 : Int) ≤ j)
/-- How Entries ends. -/
def EntsEnd (w : World) (l : List EntN) (e : Ending) (w' : World) : Prop := ∃ sp m k hs2, e = .returned (.slice sp m k) ∧ l.length = m ∧ OwnL w.heap.size w' sp k l hs2 ∧ Below w.heap.size w w'
section
variable {Av : Nat → Prop} {base : Nat} {w w' : World} {L d M room N N' : Nat} {ss ss' : Ds} {c : Wc} {n : Nat} {ep : Option Addr} {ec : Nat} {hs : List (Option Addr × Nat)}
theorem fromTo_yes (es : List EntN) (i j : Int) (k : Nat) (hk : k < es.length) (h1 : i ≤ (es[k].2.2.1 : Int)) (h2 : (es[k].2.2.1 : Int) ≤ j) : fromTo (es.take (k + 1)) i j = fromTo (es.take k) i j ++ [es[k]] := by
  unfold fromTo
  rw [List.take_succ_eq_append_getElem hk, List.filter_append]
  simp [h1, h2]
theorem fromTo_no (es : List EntN) (i j : Int) (k : Nat) (hk : k < es.length) (h : ¬ (i ≤ (es[k].2.2.1 : Int) ∧ (es[k].2.2.1 : Int) ≤ j)) : fromTo (es.take (k + 1)) i j = fromTo (es.take k) i j := by
  unfold fromTo
  rw [List.take_succ_eq_append_getElem hk, List.filter_append]
  have : (decide (i ≤ (es[k].2.2.1 : Int)) && decide ((es[k].2.2.1 : Int) ≤ j)) = false := by
    rw [Bool.and_eq_false_iff]
    by_cases h1 : i ≤ (es[k].2.2.1 : Int)
    · exact .inr (decide_eq_false (fun h2 => h ⟨h1, h2⟩))
    · exact .inl (decide_eq_false h1)
  simp [this]
theorem fromTo_len (es : List EntN) (i j : Int) : (fromTo es i j).length ≤ es.length := List.length_filter_le _ _
set_option maxRecDepth 20000 in
set_option maxHeartbeats 16000000 in
theorem entries_calls (z : WAt Av base w L d M room N ss c n ep ec hs) (i j : Int) :
    Calls Tryz.prog 22 #[.pointer (some ⟨L, 0, none⟩), .int .i64 i, .int .i64 j] w (EntsEnd w (fromTo c.es i j)) := by
  have EA := hide z.ow.ents
  have EK := hide z.ok.es
  have hle := z.le
  have l5 : w.cell? ⟨L, 5, none⟩ = some (.slice ep c.es.length ec) := box_cell z.lg.row 5 _ rfl
  clear z
  generalize c.es = es at *
  generalize hmm : es.length = m at *
  have HM := hide hmm
  clear hmm
  go_enter Tryz.func22, Tryz.ntmps22
  go_wp2_with fail
  go_loopw [7, 18] (fun v q wr => ∃ (y : Nat) (sp : Option Addr) (m2 k : Nat) (hs2 : List (Option Addr × Nat)), y ≤ m ∧ q = .int .i64 (y : Int) ∧ v = .slice sp m2 k ∧ Hid ((fromTo (es.take y) i j).length = m2) ∧ Hid (OwnL w.heap.size wr sp k (fromTo (es.take y) i j) hs2) ∧ Hid (Below w.heap.size w wr)) (fun _ q _ => m - (intOf q).toNat)
  case atStart => exact ⟨0, none, 0, 0, [], by omega, rfl, rfl, hide rfl, hide (OwnL.ofNil _ _), hide (Below.refl _ _)⟩
  case round =>
    obtain ⟨y, sp, m2, k, hs2, hy, rfl, rfl, HL, O4, B4⟩ := hrel
    by_cases hym : y < m
    · have y0 : (0 : Int) ≤ (y : Int) := by omega
      have y1 : (y : Int) < (m : Int) := by omega
      have hyl : y < es.length := by rw [unhide HM]; exact hym
      obtain ⟨b', off, dp, dc, rfl, p0, p1, p2, p3, q4, nz⟩ := ((unhide EA).later (unhide B4)).cell y (by rw [List.length_map]; exact hyl)
      rw [List.getElem_map] at p0 p1 p2 p3 q4
      have EO := unhide EK es[y] (List.getElem_mem hyl)
      have FY := fromTo_yes es i j y hyl
      have FN := fromTo_no es i j y hyl
      obtain ⟨x, hx⟩ : ∃ x, es[y] = x := ⟨_, rfl⟩
      rw [hx] at p0 p1 p2 p3 q4 EO FY FN
      obtain ⟨xk, xt, xi, xd⟩ := x
      simp only [toI] at p0 p1 p2 p3 q4
      have hxd : xd.length ≤ 2048 := EO.2.2.2.2
      have v1 : Below wr.heap.size wr (wr.alloc (entB (xk : Int) (xt : Int) (xi : Int) dp xd.length dc)) := (Below.refl _ _).alloc (Nat.le_refl _) _
      have X1 := hide (heap_new wr (entB (xk : Int) (xt : Int) (xi : Int) dp xd.length dc))
      obtain ⟨e0, e1, e2, e3⟩ := entB_cells (unhide X1)
      have SZ1 := hide (show (wr.alloc (entB (xk : Int) (xt : Int) (xi : Int) dp xd.length dc)).heap.size = wr.heap.size + 1 by simp)
      have B1 := hide v1
      have M2 := hide (show m2 ≤ 1000000 by
        have h1 := fromTo_len (es.take y) i j
        rw [unhide HL, List.length_take] at h1
        omega)
      dsimp only at FY FN
      by_cases hin : i ≤ (xi : Int) ∧ (xi : Int) ≤ j
      · obtain ⟨h1, h2⟩ := hin
        have FE := hide (FY h1 h2)
        have CL := hide (clone_calls dp xd.length dc xd (wr.alloc (entB (xk : Int) (xt : Int) (xi : Int) dp xd.length dc)) rfl (by omega) (q4.later v1) nz)
        clear FY FN v1 q4 nz hx EO
        go_wp2_with fail
        clear e0 e1 e2 e3 p0 p1 p2 p3
        generalize wr.alloc _ = W1 at *
        go_at_call 60
        refine (unhide CL).mono ?_
        rintro e V4 ⟨sp4, c4, rfl, o4, v4⟩
        have X2 := hide (later_block v4 (unhide X1))
        obtain ⟨e0, e1, e2, e3⟩ := entB_cells (unhide X2)
        have f3 := froz_of (unhide X2) 3
        have U4 := hide ((unhide B1).trans (v4.mono (unhide B1).size))
        have X5 := hide (heap_setCell_same V4 wr.heap.size 3 _ _ (.slice sp4 xd.length c4) (unhide X2))
        have G5 := hide (grown_set V4 wr.heap.size 3 (.slice sp4 xd.length c4))
        have U5 := hide ((unhide U4).grown (unhide G5) (unhide U4).size (fun g e => by have := Option.some.inj e; omega))
        have O5 := hide (o4.far (unhide G5) (by rw [unhide SZ1]; omega))
        have d0 : (V4.setCell ⟨wr.heap.size, 3, none⟩ (.slice sp4 xd.length c4)).cell? ⟨wr.heap.size, 0, none⟩ = some (.int .i64 (xk : Int)) := box_cell (unhide X5) 0 _ rfl
        have d1 : (V4.setCell ⟨wr.heap.size, 3, none⟩ (.slice sp4 xd.length c4)).cell? ⟨wr.heap.size, 1, none⟩ = some (.int .i64 (xt : Int)) := box_cell (unhide X5) 1 _ rfl
        have d2 : (V4.setCell ⟨wr.heap.size, 3, none⟩ (.slice sp4 xd.length c4)).cell? ⟨wr.heap.size, 2, none⟩ = some (.int .i64 (xi : Int)) := box_cell (unhide X5) 2 _ rfl
        have d3 : (V4.setCell ⟨wr.heap.size, 3, none⟩ (.slice sp4 xd.length c4)).cell? ⟨wr.heap.size, 3, none⟩ = some (.slice sp4 xd.length c4) := box_cell (unhide X5) 3 _ rfl
        clear o4 v4 CL
        have SS5 := hide (show (V4.setCell ⟨wr.heap.size, 3, none⟩ (.slice sp4 xd.length c4)).heap.size = V4.heap.size by simp [World.setCell])
        have X6 := hide (heap_new (V4.setCell ⟨wr.heap.size, 3, none⟩ (.slice sp4 xd.length c4)) (.cells #[.int .i64 (xk : Int), .int .i64 (xt : Int), .int .i64 (xi : Int), .slice sp4 xd.length c4] 60))
        have U6 := hide (show Below (V4.setCell ⟨wr.heap.size, 3, none⟩ (.slice sp4 xd.length c4)).heap.size (V4.setCell ⟨wr.heap.size, 3, none⟩ (.slice sp4 xd.length c4)) ((V4.setCell ⟨wr.heap.size, 3, none⟩ (.slice sp4 xd.length c4)).alloc (.cells #[.int .i64 (xk : Int), .int .i64 (xt : Int), .int .i64 (xi : Int), .slice sp4 xd.length c4] 60)) from (Below.refl _ _).alloc (Nat.le_refl _) _)
        rw [unhide SS5] at X6
        have B6 := hide ((unhide U5).trans ((unhide U6).mono (unhide U5).size))
        have O6 := hide ((unhide O4).later (unhide B6))
        have DX := hide (((unhide O5).mono (show w.heap.size ≤ W1.heap.size by rw [unhide SZ1]; have := (unhide B4).size; omega)).later (unhide U6)).toBx
        have B7 := hide ((unhide B4).trans ((unhide B6).mono (unhide B4).size))
        have FT := hide (show ∀ g, blk sp = some g → w.heap.size ≤ g from fun g hg => ((unhide O4).foot g (.inl hg)).1)
        go_wp2_with (at_builtin; refine unhide ?_)
        clear d0 d1 d2 d3 e0 e1 e2 e3 f3
        generalize (V4.setCell _ _).alloc _ = W6 at *
        refine hide ?_
        refine wpList_appendL rfl (.tmp 36) (.tmp 38) rfl w.heap.size sp m2 k (fromTo (es.take y) i j) hs2 rfl (unhide HL) (unhide O6) V4.heap.size (xk, xt, xi, xd) (sp4, c4) rfl (unhide X6) (unhide DX) (by rw [unhide HL]; have := unhide M2; omega) (unhide B7).size ?_
        intro sp7 c7 W7 ho7 hg7
        have O8 := hide ho7
        have B8 := hide ((unhide B7).grown hg7 (unhide B7).size (unhide FT))
        have L8 := hide (show (fromTo (es.take y) i j ++ [(xk, xt, xi, xd)]).length = m2 + 1 by rw [List.length_append, unhide HL]; rfl)
        clear ho7 hg7
        go_wp2
        exact ⟨⟨y + 1, sp7, m2 + 1, c7, hs2 ++ [(sp4, c4)], by omega, by go_num, rfl, by rw [unhide FE]; exact L8, by rw [unhide FE]; exact O8, B8⟩, by simp [intOf]; omega⟩
      · have FE := hide (FN hin)
        have O5 := hide ((unhide O4).later v1)
        have B5 := hide ((unhide B4).trans (v1.mono (unhide B4).size))
        clear FY FN v1 q4 nz hx EO
        by_cases h1 : i ≤ (xi : Int)
        · have h2 : ¬ (xi : Int) ≤ j := fun h => hin ⟨h1, h⟩
          clear hin
          go_wp2
          exact ⟨⟨y + 1, sp, m2, k, hs2, by omega, by go_num, rfl, by rw [unhide FE]; exact HL, by rw [unhide FE]; exact O5, B5⟩, by simp [intOf]; omega⟩
        · clear hin
          go_wp2
          exact ⟨⟨y + 1, sp, m2, k, hs2, by omega, by go_num, rfl, by rw [unhide FE]; exact HL, by rw [unhide FE]; exact O5, B5⟩, by simp [intOf]; omega⟩
    · have hjj : ¬ (y : Int) < (m : Int) := by omega
      obtain rfl : y = m := by omega
      have FE := hide (show (fromTo es i j).length = m2 ∧ OwnL w.heap.size wr sp k (fromTo es i j) hs2 by
        have h1 := unhide HL
        have h2 := unhide O4
        rw [List.take_of_length_le (by rw [unhide HM]; exact Nat.le_refl _)] at h1 h2
        exact ⟨h1, h2⟩)
      go_wp2
      go_ret
      exact ⟨sp, m2, k, hs2, rfl, (unhide FE).1, (unhide FE).2, unhide B4⟩
end
end Go.Proofs.YtijcpmbfhfppmaaGreatDoor
