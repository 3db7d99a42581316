/- Logs: hard states and entries are taken; any record. -/
import Derived.Test.YtijcpmbfhfppmaaGreatDoorWl4
namespace Go.Proofs.YtijcpmbfhfppmaaGreatDoor
open Go.ChangeShapes Go.WideShapes Go.ChangeAt Go.RowKit
set_option linter.unusedVariables false

section
variable {w : World} {B : Nat} {T : TypeId} {p q : List Value} {c : Wc} {ep : Option Addr} {ec : Nat} {base : Nat} {hs : List (Option Addr × Nat)}
set_option maxRecDepth 20000 in
set_option maxHeartbeats 8000000 in
theorem takeHard_calls (h : CtAt w B T p q c ep ec) (o : Nat) (ho : p.length = o) (hT : T ≠ 60) (hT2 : T ≠ 5) (hE : OwnL base w ep ec c.es hs) (a : Option Addr) (n k : Nat) (l : List Nat) (hn : l.length = n) (hm : n ≤ 140737488355328) (hb : BytesAt w a l) :
    Calls Tryz.prog 164 #[.pointer (some ⟨B, o, none⟩), .slice a n k] w (TakeEnd base w B T p q ep hs (hardR c l)) := by
  have MR := hide (show hardR c l = (match wholeE l (hardE l 0) with
    | .error _ => none
    | .ok (t, v) => some ⟨c.bi, c.bt, t, v, c.es⟩) from rfl)
  have HC := hide h
  have HO := hide ho
  have HE := hide hE
  have T1 := hide (getHard_calls a n k l w hn (by simp only [maxLen]; omega) hb)
  have hNB : ∀ g, LFoot ep hs g → g ≠ B := fun g hg e => by
    subst e
    obtain ⟨_, _, cur, T', hc, hT'⟩ := hE.foot g hg
    rw [h.row] at hc
    simp only [Option.some.injEq, Obj.cells.injEq] at hc
    rw [← hc.2.1] at hT'
    rcases hT' with a | a
    · exact hT a
    · exact hT2 a
  have NB := hide hNB
  cases h1 : wholeE l (hardE l 0) with
  | error x =>
    rw [h1] at MR T1
    dsimp only at MR
    rw [unhide MR]
    have hx := wholeE_pos h1 (fun y hy => hardE_pos hy)
    have hx0 : ¬ (x : Int) = 0 := by omega
    have hx1 : ((x : Int) == 0) = false := by simp; omega
    unfold hardV at T1
    dsimp only at T1
    clear hb h hn ho h1 hE hNB
    go_enter Tryz.func164, Tryz.ntmps164
    go_wp2_with fail
    go_at_call 186
    refine (unhide T1).mono ?_
    rintro e V1 ⟨rfl, v1⟩
    have FE := hide (below_fin (base := base) (B := B) (T := T) (p := p) (q := q) (ep := ep) (hs := hs) (v1.alloc v1.size (.cells #[.int .i64 0, .int .i64 0] 29)))
    clear v1
    go_wp2
    go_ret
    exact unhide FE
  | ok r =>
    obtain ⟨t, v⟩ := r
    rw [h1] at MR T1
    dsimp only at MR
    rw [unhide MR]
    unfold hardV at T1
    dsimp only at T1
    clear hb h hn ho h1 hE hNB
    go_enter Tryz.func164, Tryz.ntmps164
    go_wp2_with fail
    go_at_call 186
    refine (unhide T1).mono ?_
    rintro e V1 ⟨rfl, v1⟩
    have B2 := hide (v1.alloc v1.size (.cells #[.int .i64 (t : Int), .int .i64 (v : Int)] 29))
    have XH := heap_new V1 (.cells #[.int .i64 (t : Int), .int .i64 (v : Int)] 29)
    obtain ⟨x0, x1, _, _⟩ := pair_cells XH
    have CT := hide ((unhide HC).later (unhide B2))
    have BL := hide (show B < V1.heap.size from Nat.lt_of_lt_of_le (unhide HC).lt v1.size)
    clear v1 XH
    obtain ⟨⟨c0, c1, c2, c3, c4⟩, fz⟩ := (unhide CT).cells o (unhide HO)
    have f2 := fz (o + 2)
    have f3 := fz (o + 3)
    have S1 := (unhide CT).set o 2 (unhide HO) ⟨c.bi, c.bt, t, c.hv, c.es⟩ ep ec (.int .i64 (t : Int)) rfl (by omega)
    have S2 := S1.set o 3 (unhide HO) ⟨c.bi, c.bt, t, v, c.es⟩ ep ec (.int .i64 (v : Int)) rfl (by omega)
    have FE := hide (show TakeEnd base w B T p q ep hs (some ⟨c.bi, c.bt, t, v, c.es⟩) (.returned (.bool true)) (((V1.alloc (.cells #[.int .i64 (t : Int), .int .i64 (v : Int)] 29)).setCell ⟨B, o + 2, none⟩ (.int .i64 (t : Int))).setCell ⟨B, o + 3, none⟩ (.int .i64 (v : Int))) from by
      have hoth : ∀ j, j ≠ B → (((V1.alloc (.cells #[.int .i64 (t : Int), .int .i64 (v : Int)] 29)).setCell ⟨B, o + 2, none⟩ (.int .i64 (t : Int))).setCell ⟨B, o + 3, none⟩ (.int .i64 (v : Int))).heap[j]? = (V1.alloc (.cells #[.int .i64 (t : Int), .int .i64 (v : Int)] 29)).heap[j]? := fun j hj => (heap_setCell_other _ ⟨B, o + 3, none⟩ j _ hj).trans (heap_setCell_other _ ⟨B, o + 2, none⟩ j _ hj)
      refine ⟨⟨(unhide B2).os, (unhide B2).tape, (unhide B2).output, by have := (unhide B2).size; simp only [World.setCell]; simp at this ⊢; omega, fun j h1 h2 _ => (hoth j h2).trans ((unhide B2).block j h1)⟩, rfl, ep, ec, hs, S2, ?_, fun g hg => .inl hg⟩
      exact ((unhide HE).later (unhide B2)).same (fun g hg => hoth g (unhide NB g hg)))
    clear S1 S2 fz c0 c1 c4
    have hne : V1.heap.size ≠ B := by have := unhide BL; omega
    have hne' : B ≠ V1.heap.size := fun e => hne e.symm
    go_wp2
    go_ret
    exact unhide FE
set_option maxRecDepth 20000 in
set_option maxHeartbeats 8000000 in
theorem takeEntry_calls (h : CtAt w B T p q c ep ec) (o : Nat) (ho : p.length = o) (hT : T ≠ 60) (hT2 : T ≠ 5) (hE : OwnL base w ep ec c.es hs) (hbi : c.bi ≤ 1099511627776) (hle : c.es.length ≤ 1000000) (hbs : base ≤ w.heap.size) (a : Option Addr) (n k : Nat) (l : List Nat) (hn : l.length = n) (hm : n ≤ 140737488355328) (hnk : n ≤ k) (hz : a = none → k = 0) (hb : BytesAt w a l) :
    Calls Tryz.prog 165 #[.pointer (some ⟨B, o, none⟩), .slice a n k] w (TakeEnd base w B T p q ep hs (entR c l)) := by
  have MR := hide (show entR c l = (match wholeE l (entryE l 0) with
    | .error _ => none
    | .ok e => if fitsW c (e.2.2.1 : Int) = true then some (addW c e) else none) from rfl)
  have HC := hide h
  have HO := hide ho
  have HE := hide hE
  have T1 := getEntry_calls a n k l w hn (by omega) (by omega) hz hb
  cases h1 : wholeE l (entryE l 0) with
  | error x =>
    rw [h1] at MR T1
    dsimp only at MR
    rw [unhide MR]
    have hx := wholeE_pos h1 (fun y hy => entryE_pos hy)
    have hx0 : ¬ (x : Int) = 0 := by omega
    have hx1 : ((x : Int) == 0) = false := by simp; omega
    unfold EntRes at T1
    dsimp only at T1
    have T1 := hide T1
    clear hb h hn ho h1 hE
    go_enter Tryz.func165, Tryz.ntmps165
    go_wp2_with fail
    go_at_call 187
    refine (unhide T1).mono ?_
    rintro e V1 ⟨⟨v, rfl, rfl⟩, v1⟩
    have FE := hide (below_fin (base := base) (B := B) (T := T) (p := p) (q := q) (ep := ep) (hs := hs) (v1.alloc v1.size (.cells #[.int .i64 0, .int .i64 0, .int .i64 0, .slice none 0 0] 60)))
    clear v1
    go_wp2
    go_ret
    exact unhide FE
  | ok r =>
    obtain ⟨ek, et, ei, ed⟩ := r
    rw [h1] at MR T1
    dsimp only at MR
    unfold EntRes at T1
    dsimp only at T1
    have T1 := hide T1
    have FC := hide (fun (W : World) (u : Below w.heap.size w W) => fits_calls ((unhide HC).later u) o (unhide HO) hbi (by omega) (ei : Int))
    cases hf : fitsW c (ei : Int) with
    | false =>
      rw [hf, if_neg (by simp)] at MR
      rw [hf] at FC
      rw [unhide MR]
      clear hb h hn ho h1 hE hf
      go_enter Tryz.func165, Tryz.ntmps165
      go_wp2_with fail
      go_at_call 187
      refine (unhide T1).mono ?_
      rintro e V1 ⟨⟨v, rfl, sp, m, kc, rfl, hmm, o1⟩, v1⟩
      have B2 := hide (v1.alloc v1.size (.cells #[.int .i64 (ek : Int), .int .i64 (et : Int), .int .i64 (ei : Int), .slice sp m kc] 60))
      have XH := heap_new V1 (.cells #[.int .i64 (ek : Int), .int .i64 (et : Int), .int .i64 (ei : Int), .slice sp m kc] 60)
      have x2 := box_cell XH 2 _ rfl
      clear v1 XH o1
      go_wp2_with fail
      clear x2
      generalize V1.alloc _ = V2 at *
      go_at_call 105
      refine (unhide FC _ (unhide B2)).mono ?_
      rintro e V3 ⟨rfl, v3⟩
      have FE := hide (below_fin (base := base) (B := B) (T := T) (p := p) (q := q) (ep := ep) (hs := hs) ((unhide B2).trans (v3.mono (unhide B2).size)))
      clear v3
      go_wp2
      go_ret
      exact unhide FE
    | true =>
      rw [hf, if_pos rfl] at MR
      rw [hf] at FC
      rw [unhide MR]
      have hff : c.bi < ei ∧ ei ≤ c.bi + c.es.length + 1 := by
        unfold fitsW at hf
        rw [Bool.and_eq_true, decide_eq_true_eq, decide_eq_true_eq] at hf
        omega
      have AC := hide (fun (W : World) (u : Below w.heap.size w W) (sp : Option Addr) (m kc : Nat) (hm : ed.length = m) (hd : Bx base W sp kc ed) => add_calls ((unhide HC).later u) o (unhide HO) hT hT2 ((unhide HE).later u) hbi hle (ek, et, ei, ed) sp m kc hm hd hff.1 hff.2 (Nat.le_trans hbs u.size))
      dsimp only at AC
      have HBS := hide hbs
      clear hb h hn ho h1 hE hf hff hbs
      go_enter Tryz.func165, Tryz.ntmps165
      go_wp2_with fail
      go_at_call 187
      refine (unhide T1).mono ?_
      rintro e V1 ⟨⟨v, rfl, sp, m, kc, rfl, hmm, o1⟩, v1⟩
      have B2 := hide (v1.alloc v1.size (.cells #[.int .i64 (ek : Int), .int .i64 (et : Int), .int .i64 (ei : Int), .slice sp m kc] 60))
      have XH := heap_new V1 (.cells #[.int .i64 (ek : Int), .int .i64 (et : Int), .int .i64 (ei : Int), .slice sp m kc] 60)
      have ul : Below V1.heap.size V1 (V1.alloc (.cells #[.int .i64 (ek : Int), .int .i64 (et : Int), .int .i64 (ei : Int), .slice sp m kc] 60)) := (Below.refl _ _).alloc (Nat.le_refl _) _
      have XX := hide XH
      have DB := hide (show Bx w.heap.size (V1.alloc (.cells #[.int .i64 (ek : Int), .int .i64 (et : Int), .int .i64 (ei : Int), .slice sp m kc] 60)) sp kc ed from o1.toBx.later ul)
      have x2 := box_cell XH 2 _ rfl
      clear v1 XH o1 ul
      go_wp2_with fail
      clear x2
      generalize V1.alloc _ = V2 at *
      generalize V1.heap.size = X at *
      go_at_call 105
      refine (unhide FC _ (unhide B2)).mono ?_
      rintro e V3 ⟨rfl, v3⟩
      have B3 := hide ((unhide B2).trans (v3.mono (unhide B2).size))
      have XX := hide (later_block v3 (unhide XX))
      have DB := hide ((unhide DB).later v3)
      have x0 := box_cell (unhide XX) 0 _ rfl
      have x1 := box_cell (unhide XX) 1 _ rfl
      have x2 := box_cell (unhide XX) 2 _ rfl
      have x3 := box_cell (unhide XX) 3 _ rfl
      clear v3
      go_wp2_with fail
      clear x0 x1 x2 x3
      go_at_call 68
      refine (unhide AC V3 (unhide B3) sp m kc (unhide hmm) ((unhide DB).mono (unhide HBS))).mono ?_
      rintro e V4 ⟨rfl, ep', ec', hs', ct, ol, gr, ft⟩
      have FE := hide (show TakeEnd base w B T p q ep hs (some (addW c (ek, et, ei, ed))) (.returned (.bool true)) V4 from by
        refine ⟨⟨gr.os.trans (unhide B3).os, gr.tape.trans (unhide B3).tape, gr.output.trans (unhide B3).output, Nat.le_trans (unhide B3).size gr.size, fun i h1 h2 h3 => (gr.block i (Nat.lt_of_lt_of_le h1 (unhide B3).size) h2 h3).trans ((unhide B3).block i h1)⟩, rfl, ep', ec', hs', ct, ol, fun g hg => ?_⟩
        rcases ft g hg with a | a | a
        · exact .inl a
        · exact .inr ((unhide DB).isT g a).1
        · exact .inr (Nat.le_trans (unhide B3).size a))
      clear ct ol gr ft
      go_wp2
      go_ret
      exact unhide FE
end
end Go.Proofs.YtijcpmbfhfppmaaGreatDoor
