/- Member: changes: changeMayBe, turned, Apply. -/
import Derived.Test.YtnclkkoefejjiaaCpi
import Derived.Test.YtnclkkoefejjiaaMk2
namespace Go.Proofs.Ytnclkkoefejjiaa
open Go.ChangeShapes Go.WideShapes Go.ChangeAt Go.RowKit Go.Maps

abbrev cB (d n : Int) : Obj := .cells #[.int .i64 d, .int .i64 n] 40 (0, 0)
abbrev cV (d n : Int) : Value := .agg #[.int .i64 d, .int .i64 n]
def mayM (d n : Int) : Bool := (decide (1 ≤ d) && decide (d ≤ 4)) && (decide (1 ≤ n) && decide (n ≤ 9))
theorem changeMayBe_calls (d n : Int) (w : World) : Calls Try.prog 54 #[cV d n] w fun e w' => e = .returned (.bool (mayM d n)) ∧ Below w.heap.size w w' := by
  have X1 := hide (heap_new w (cB d n))
  have b1 := hide (show Below w.heap.size w (w.alloc (cB d n)) from (Below.refl _ _).alloc (Nat.le_refl _) _)
  have c0 := box_cell (unhide X1) 0 _ rfl
  have c1 := box_cell (unhide X1) 1 _ rfl
  go_enter Try.func54, Try.ntmps54
  go_wp2_with fail
  generalize hD : w.heap.size = D at *
  generalize w.alloc (cB d n) = w1 at *
  refine (within_calls d 1 4 _).mono ?_
  rintro e w2 ⟨rfl, rfl⟩
  have E := hide (show mayM d n = ((decide (1 ≤ d) && decide (d ≤ 4)) && (decide (1 ≤ n) && decide (n ≤ 9))) from rfl)
  generalize (decide (1 ≤ d) && decide (d ≤ 4)) = z at *
  cases z
  · go_wp2
    go_ret
    exact ⟨by rw [unhide E]; rfl, by first | exact unhide b1 | (rw [hD]; exact unhide b1)⟩
  · go_wp2_with fail
    refine (within_calls n 1 9 _).mono ?_
    rintro e w3 ⟨rfl, rfl⟩
    go_wp2
    go_ret
    exact ⟨by rw [unhide E]; simp, by first | exact unhide b1 | (rw [hD]; exact unhide b1)⟩
/-- What a change makes of a node's kind, or the error. -/
def turnedM (was d : Int) (vn : Nat) : Int × Int :=
  if d = 1 ∧ was ≠ 0 then (0, 7) else if d = 1 then (2, 0) else if was = 0 ∨ (d = 2 ∧ was = 1) ∨ (d = 3 ∧ was = 2) then (0, 8) else if d = 2 then (1, 0) else if was = 1 ∧ vn = 1 then (0, 6) else if d = 3 then (2, 0) else (0, 0)
set_option maxHeartbeats 4000000 in
theorem turned_calls (was d : Int) (vn : Nat) (hw : was = 0 ∨ was = 1 ∨ was = 2) (hd : 1 ≤ d ∧ d ≤ 4) (w : World) : Calls Try.prog 55 #[.int .i64 was, .int .i64 d, .int .i64 (vn : Int)] w fun e w' => e = .returned (.tuple #[.int .i64 (turnedM was d vn).1, .int .i64 (turnedM was d vn).2]) ∧ w' = w := by
  by_cases hv : vn = 1
  · subst hv
    rcases hw with rfl | rfl | rfl <;> rcases (by omega : d = 1 ∨ d = 2 ∨ d = 3 ∨ d = 4) with rfl | rfl | rfl | rfl
    all_goals
      go_enter Try.func55, Try.ntmps55
      go_wp2
      go_ret2
      exact ⟨rfl, rfl⟩
  · have hv' : ¬ ((vn : Int) = 1) := by omega
    have T : ∀ a b, turnedM a b vn = if b = 1 ∧ a ≠ 0 then (0, 7) else if b = 1 then (2, 0) else if a = 0 ∨ (b = 2 ∧ a = 1) ∨ (b = 3 ∧ a = 2) then (0, 8) else if b = 2 then (1, 0) else if b = 3 then (2, 0) else (0, 0) := fun a b => by
      unfold turnedM
      simp [hv]
    rcases hw with rfl | rfl | rfl <;> rcases (by omega : d = 1 ∨ d = 2 ∨ d = 3 ∨ d = 4) with rfl | rfl | rfl | rfl
    all_goals
      rw [T]
      clear T
      go_enter Try.func55, Try.ntmps55
      go_wp2
      go_ret2
      exact ⟨by simp, rfl⟩
theorem enter_ap1 (c : Array Value) (w : World) : (callFunc 56 c).run Try.prog w = .ok (.enter 56 c) w := by
  simp [callFunc, go_sem, Try.func56]
  rw [if_neg (by decide +kernel), if_neg (fun h => by cases h)]
theorem enter_ap2 (c : Array Value) (w : World) : (callFunc 57 c).run Try.prog w = .ok (.enter 57 c) w := by
  simp [callFunc, go_sem, Try.func57]
  rw [if_neg (by decide +kernel), if_neg (fun h => by cases h)]
theorem ap1_picks {w0 : World} {R B n : Nat} {f : Int → Int} (hR : w0.heap[R]? = some (.cells #[.map (some B)] 64 (0, 0))) (hT : KindAt w0 B n f) : PickI 56 #[.pointer (some ⟨R, 0, none⟩)] (fun x => decide (f x = 1)) w0 := by
  refine ⟨enter_ap1, fun x w hx F => ?_⟩
  have c0 := box_cell (later_block F hR) 0 _ rfl
  obtain ⟨D, hD, hA⟩ := (hT.later F).map
  have HD := hide hD
  have HA := hide (hA x hx)
  have HX := hide hx
  clear hR F hT hD hA hx
  go_enter Try.func56, Try.ntmps56
  go_wp2_with (at_lookup; refine unhide ?_)
  refine hide ?_
  refine wpList_lookup_own_int _ rfl _ _ 64 rfl 3 67 .i64 intLaw Try.underlying64 Try.underlying67 (zeroK _) B n D rfl (unhide HD) _ (.int .i64 x) rfl (key64 (unhide HX)) ?_
  intro c hc _
  rw [unhide HA] at hc
  obtain rfl : c = f x := by simpa using hc.symm
  clear hc
  go_wp2
  go_ret
  exact ⟨rfl, Below.refl _ _⟩
theorem ap2_picks {w0 : World} {R B n : Nat} {f : Int → Int} (hR : w0.heap[R]? = some (.cells #[.map (some B)] 64 (0, 0))) (hT : KindAt w0 B n f) : PickI 57 #[.pointer (some ⟨R, 0, none⟩)] (fun x => decide (f x = 2)) w0 := by
  refine ⟨enter_ap2, fun x w hx F => ?_⟩
  have c0 := box_cell (later_block F hR) 0 _ rfl
  obtain ⟨D, hD, hA⟩ := (hT.later F).map
  have HD := hide hD
  have HA := hide (hA x hx)
  have HX := hide hx
  clear hR F hT hD hA hx
  go_enter Try.func57, Try.ntmps57
  go_wp2_with (at_lookup; refine unhide ?_)
  refine hide ?_
  refine wpList_lookup_own_int _ rfl _ _ 64 rfl 3 67 .i64 intLaw Try.underlying64 Try.underlying67 (zeroK _) B n D rfl (unhide HD) _ (.int .i64 x) rfl (key64 (unhide HX)) ?_
  intro c hc _
  rw [unhide HA] at hc
  obtain rfl : c = f x := by simpa using hc.symm
  clear hc
  go_wp2
  go_ret
  exact ⟨rfl, Below.refl _ _⟩
/-- The members behind a change that makes the kind k of node n. -/
def votersTo (v l : List Int) (n k : Int) : List Int := numsTo (fun x => decide (upd (kindM v l) n k x = 1)) 9
def learnersTo (v l : List Int) (n k : Int) : List Int := numsTo (fun x => decide (upd (kindM v l) n k x = 2)) 9
/-- Whether a change has an error, and which. -/
def applyE (v l : List Int) (d n : Int) : Int := if rightM v l && mayM d n then (turnedM (kindM v l n) d v.length).2 else 2
theorem kind_three (v l : List Int) (x : Int) : kindM v l x = 0 ∨ kindM v l x = 1 ∨ kindM v l x = 2 := by
  unfold kindM
  split
  · simp
  · split <;> simp
theorem may_parts {d n : Int} (h : mayM d n = true) : (1 ≤ d ∧ d ≤ 4) ∧ 1 ≤ n ∧ n ≤ 9 := by
  simpa [mayM] using h
theorem turned_kind (was d : Int) (vn : Nat) : In64 (turnedM was d vn).1 := by
  unfold turnedM
  repeat' split
  all_goals constructor <;> decide
section
variable {w : World} {va : Option Addr} {vc : Nat} {v : List Int} {la : Option Addr} {lc : Nat} {l : List Int}
/-- How Apply ends. -/
def ApplyRes (v l : List Int) (d n : Int) (base : Nat) (e : Ending) (w' : World) : Prop :=
  (applyE v l d n ≠ 0 ∧ e = .returned (.tuple #[mV none 0 0 none 0 0, .int .i64 (applyE v l d n)])) ∨
  (applyE v l d n = 0 ∧ rightM v l = true ∧ mayM d n = true ∧ ∃ spA nA cA spB nB cB, e = .returned (.tuple #[mV spA nA cA spB nB cB, .int .i64 0]) ∧ (votersTo v l n (turnedM (kindM v l n) d v.length).1).length = nA ∧ (learnersTo v l n (turnedM (kindM v l n) d v.length).1).length = nB ∧
    OwnI base w' spA cA (votersTo v l n (turnedM (kindM v l n) d v.length).1) ∧ OwnI base w' spB cB (learnersTo v l n (turnedM (kindM v l n) d v.length).1) ∧ Apart spA spB)
set_option maxRecDepth 20000 in
set_option maxHeartbeats 16000000 in
theorem apply_calls (hv : IntsAt w va v) (hl : IntsAt w la l) (vn ln : Nat) (hvn : v.length = vn) (hln : l.length = ln) (hvx : vn ≤ maxLen) (hlx : ln ≤ maxLen) (d n : Int) (hn64 : In64 n) :
    Calls Try.prog 30 #[mV va vn vc la ln lc, cV d n] w fun e w' => ApplyRes v l d n w.heap.size e w' ∧ Below w.heap.size w w' := by
  have Z2 : ((w.alloc (mB va vn vc la ln lc)).alloc (cB d n)).heap.size = w.heap.size + 2 := by simp
  have b1 := hide (show Below w.heap.size w (((w.alloc (mB va vn vc la ln lc)).alloc (cB d n)).alloc (mB none 0 0 none 0 0)) from (((Below.refl _ _).alloc (Nat.le_refl _) _).alloc (by simp) _).alloc (by simp; omega) _)
  have X1 := hide (heap_old (mB none 0 0 none 0 0) (heap_old (cB d n) (heap_new w (mB va vn vc la ln lc))))
  have C1 := hide (show (((w.alloc (mB va vn vc la ln lc)).alloc (cB d n)).alloc (mB none 0 0 none 0 0)).heap[w.heap.size + 1]? = some (cB d n) by
    have := heap_new (w.alloc (mB va vn vc la ln lc)) (cB d n)
    rw [World.size_alloc] at this
    exact heap_old _ this)
  have Y1 := hide (show (((w.alloc (mB va vn vc la ln lc)).alloc (cB d n)).alloc (mB none 0 0 none 0 0)).heap[w.heap.size + 2]? = some (mB none 0 0 none 0 0) by
    have := heap_new ((w.alloc (mB va vn vc la ln lc)).alloc (cB d n)) (mB none 0 0 none 0 0)
    rwa [Z2] at this)
  have ZE := hide (show (((w.alloc (mB va vn vc la ln lc)).alloc (cB d n)).alloc (mB none 0 0 none 0 0)).heap.size = w.heap.size + 3 by simp)
  have V := hide (hv.later (unhide b1))
  have L := hide (hl.later (unhide b1))
  have VN := hide hvn
  have LN := hide hln
  have HN := hide hn64
  have c0 := box_cell (unhide X1) 0 _ rfl
  have c1 := box_cell (unhide X1) 1 _ rfl
  clear hv hl hvn hln Z2 hn64
  go_enter Try.func30, Try.ntmps30
  go_wp2_with fail
  generalize hD : w.heap.size = D at *
  generalize ((w.alloc (mB va vn vc la ln lc)).alloc (cB d n)).alloc (mB none 0 0 none 0 0) = w1 at *
  refine (right_calls (unhide V) (unhide L) vn ln (unhide VN) (unhide LN) hvx hlx).mono ?_
  rintro e w2 ⟨rfl, b2⟩
  have F2 := hide b2
  clear b2 c0 c1
  have DONE := hide (show ∀ (u : World) (x : Int), Below w1.heap.size w1 u → ∃ W, W.cell? ⟨D + 2, 0, none⟩ = some (.slice none 0 0) ∧ W.cell? ⟨D + 2, 1, none⟩ = some (.slice none 0 0) ∧ Below D w W ∧ (u.setCell ⟨D + 2, 0, none⟩ (.slice none 0 0)).setCell ⟨D + 2, 1, none⟩ (.slice none 0 0) = W ∧ u.cell? ⟨D + 2, 0, none⟩ = some (.slice none 0 0) ∧ u.cell? ⟨D + 2, 1, none⟩ = some (.slice none 0 0) ∧ u.frozen? ⟨D + 2, 0, none⟩ = false ∧ u.frozen? ⟨D + 2, 1, none⟩ = false from fun u _ F => by
    have Y := later_block F (unhide Y1)
    obtain ⟨W, y0, y1, gW, hW⟩ := two_sets Y (.slice none 0 0) (.slice none 0 0)
    exact ⟨W, y0, y1, (unhide b1).trans (Below.grown (F.mono (by have := unhide ZE; omega) : Below D w1 u) gW (by have := F.size; have := unhide ZE; omega) (fun g e => by have := Option.some.inj e; omega)), hW, box_cell Y 0 _ rfl, box_cell Y 1 _ rfl, mbox_free Y 0, mbox_free Y 1⟩)
  have X2 := hide (later_block (unhide F2) (unhide X1))
  have C2 := hide (later_block (unhide F2) (unhide C1))
  cases hr : rightM v l
  · have AE := hide (show applyE v l d n = 2 by simp [applyE, hr])
    obtain ⟨W, y0, y1, bW, hW, z0, z1, z2, z3⟩ := unhide DONE w2 0 (unhide F2)
    have HW := hide hW
    clear hW
    go_wp2_with fail
    rw [unhide HW]
    go_wp2
    refine bodyPost_ret (v := .tuple #[mV none 0 0 none 0 0, .int .i64 2]) (by simp [results, Try.results30, go_sem, y0, y1]) rfl ?_
    exact ⟨.inl ⟨by rw [unhide AE]; decide, by rw [unhide AE]⟩, by first | exact bW | (rw [hD]; exact bW)⟩
  · have d0 := box_cell (unhide C2) 0 _ rfl
    have d1 := box_cell (unhide C2) 1 _ rfl
    go_wp2_with fail
    refine (changeMayBe_calls d n _).mono ?_
    rintro e w3 ⟨rfl, b3⟩
    have F3 := hide ((unhide F2).trans (b3.mono (unhide F2).size))
    clear b3 d0 d1
    cases hm : mayM d n
    · have AE := hide (show applyE v l d n = 2 by simp [applyE, hr, hm])
      obtain ⟨W, y0, y1, bW, hW, z0, z1, z2, z3⟩ := unhide DONE w3 0 (unhide F3)
      have HW := hide hW
      clear hW
      go_wp2_with fail
      rw [unhide HW]
      go_wp2
      refine bodyPost_ret (v := .tuple #[mV none 0 0 none 0 0, .int .i64 2]) (by simp [results, Try.results30, go_sem, y0, y1]) rfl ?_
      exact ⟨.inl ⟨by rw [unhide AE]; decide, by rw [unhide AE]⟩, by first | exact bW | (rw [hD]; exact bW)⟩
    · obtain ⟨hr1, hr2, hv9, hl9, hv0⟩ := right_parts hr
      have hvn9 : vn ≤ 9 := by rw [← unhide VN]; exact hv9
      have hln9 : ln ≤ 9 := by rw [← unhide LN]; exact hl9
      obtain ⟨hd14, hn1, hn9⟩ := may_parts hm
      have AE := hide (show applyE v l d n = (turnedM (kindM v l n) d vn).2 by simp [applyE, hr, hm, unhide VN])
      have V3 := hide ((unhide V).later (unhide F3))
      have L3 := hide ((unhide L).later (unhide F3))
      have X3 := hide (later_block (unhide F3) (unhide X1))
      have c0 := box_cell (unhide X3) 0 _ rfl
      have c1 := box_cell (unhide X3) 1 _ rfl
      go_wp2_with fail
      refine (kinds_calls (unhide V3) (unhide L3) vn ln (unhide VN) (unhide LN) hvn9 hln9).mono ?_
      rintro e w4 ⟨B, q, rfl, hq, t4, hB4, b4⟩
      have F4 := hide ((unhide F3).trans (b4.mono (unhide F3).size))
      have hBw := hide (show w1.heap.size ≤ B from Nat.le_trans (unhide F3).size hB4)
      have b5 := hide (show Below w4.heap.size w4 (w4.alloc (.cells #[.map (some B)] 64)) from (Below.refl _ _).alloc (Nat.le_refl _) _)
      have T5 := hide (t4.later (unhide b5))
      have R5 := hide (heap_new w4 (.cells #[.map (some B)] 64))
      have F5 := hide ((unhide F4).trans ((unhide b5).mono (unhide F4).size))
      have X5 := hide (later_block (unhide F5) (unhide X1))
      have C5 := hide (later_block (unhide F5) (unhide C1))
      have hRw := hide (show w1.heap.size ≤ w4.heap.size from (unhide F4).size)
      have hBR := hide (show B < w4.heap.size from t4.lt)
      clear t4 hB4 b4 c0 c1
      have c0 := box_cell (unhide X5) 0 _ rfl
      have c1 := box_cell (unhide X5) 1 _ rfl
      have d0 := box_cell (unhide C5) 0 _ rfl
      have d1 := box_cell (unhide C5) 1 _ rfl
      have r0 := box_cell (unhide R5) 0 _ rfl
      obtain ⟨M, hM, hA⟩ := (unhide T5).map
      have HM := hide hM
      have HA := hide (hA n (unhide HN))
      clear hM hA
      go_wp2_with (at_lookup; refine unhide ?_)
      refine hide ?_
      generalize hR : w4.heap.size = R at *
      generalize w4.alloc (.cells #[.map (some B)] 64) = w5 at *
      refine wpList_lookup_own_int _ rfl _ _ 64 rfl 3 67 .i64 intLaw Try.underlying64 Try.underlying67 (zeroK _) B q M rfl (unhide HM) _ (.int .i64 n) rfl (key64 (unhide HN)) ?_
      intro c hc _
      rw [unhide HA] at hc
      obtain rfl : c = kindM v l n := by simpa using hc.symm
      clear hc HM HA
      go_wp2_with fail
      refine (turned_calls (kindM v l n) d vn (kind_three v l n) hd14 _).mono ?_
      rintro e w6 ⟨rfl, rfl⟩
      have K64 := hide (turned_kind (kindM v l n) d vn)
      have KE := hide (show (turnedM (kindM v l n) d v.length).1 = (turnedM (kindM v l n) d vn).1 by rw [unhide VN])
      generalize hk : (turnedM (kindM v l n) d vn).1 = k at *
      generalize hx : (turnedM (kindM v l n) d vn).2 = x at *
      clear hk hx
      by_cases hx0 : x = 0
      · subst hx0
        obtain ⟨w7, hrun, t7, g7⟩ := (unhide T5).store n k (unhide HN) (unhide K64) (by simp only [maxLen]; omega)
        have T7 := hide t7
        have F7 := hide ((unhide F5).grown g7 (by have := (unhide F5).size; omega) (fun g e => by have := Option.some.inj e; have := unhide hBw; omega))
        have R7 := hide ((g7.block R (Array.getElem?_eq_some_iff.1 (unhide R5)).1 (fun e => by have := Option.some.inj e; have := unhide hBR; omega)).trans (unhide R5))
        have C7 := hide (later_block (unhide F7) (unhide C1))
        clear t7 g7
        go_wp2_with fail
        refine (numbers_calls _ (ap1_picks (unhide R7) (unhide T7))).mono ?_
        rintro e w8 ⟨spA, nA, cA, rfl, hnA, hoA, b8⟩
        have NA := hide (unhide hnA)
        have OA := hide hoA
        have F8 := hide ((unhide F7).trans (b8.mono (unhide F7).size))
        have T8 := hide ((unhide T7).later b8)
        have R8 := hide (later_block b8 (unhide R7))
        have S8 := hide (show w1.heap.size ≤ w7.heap.size from (unhide F7).size)
        clear hoA b8 hnA
        go_wp2_with fail
        refine (numbers_calls _ (ap2_picks (unhide R8) (unhide T8))).mono ?_
        rintro e w9 ⟨spB, nB, cB, rfl, hnB, hoB, b9⟩
        have NB := hide (unhide hnB)
        have AP := hide (show Apart spA spB from fun g hg hB => by have h1 := ((unhide OA).blk_lt g hg).2; have h2 := (hoB.blk_lt g hB).1; omega)
        have OA9 := hide ((unhide OA).later b9)
        have OB9 := hide hoB
        have F9 := hide ((unhide F8).trans (b9.mono (unhide F8).size))
        have S9 := hide (show w1.heap.size ≤ w8.heap.size from (unhide F8).size)
        clear hoB b9 hnB
        have Y9 := hide (later_block (unhide F9) (unhide Y1))
        obtain ⟨W, y0, y1, gW, hW⟩ := two_sets (unhide Y9) (.slice spA nA cA) (.slice spB nB cB)
        have HW := hide hW
        have z0 := box_cell (unhide Y9) 0 _ rfl
        have z1 := box_cell (unhide Y9) 1 _ rfl
        have z2 := mbox_free (unhide Y9) 0
        have z3 := mbox_free (unhide Y9) 1
        have OAW := hide ((unhide OA9).kept gW (fun g hg e => by have h1 := ((unhide OA9).blk_lt g hg).1; have h2 := Option.some.inj e; have h3 := unhide ZE; have h4 := unhide S8; omega))
        have OBW := hide ((unhide OB9).kept gW (fun g hg e => by have h1 := ((unhide OB9).blk_lt g hg).1; have h2 := Option.some.inj e; have h3 := unhide ZE; have h4 := unhide S9; omega))
        have bW := hide ((unhide b1).trans (Below.grown ((unhide F9).mono (by have := unhide ZE; omega) : Below D w1 _) gW (by have := (unhide F9).size; have := unhide ZE; omega) (fun g e => by have := Option.some.inj e; omega)))
        clear hW gW
        go_wp2_with fail
        rw [unhide HW]
        go_wp2
        refine bodyPost_ret (v := .tuple #[mV spA nA cA spB nB cB, .int .i64 0]) (by simp [results, Try.results30, go_sem, y0, y1]) rfl ?_
        refine ⟨.inr ⟨by rw [unhide AE], hr, hm, spA, nA, cA, spB, nB, cB, rfl, ?_, ?_, ?_, ?_, unhide AP⟩, by first | exact unhide bW | (rw [hD]; exact unhide bW)⟩
        · rw [unhide KE]; exact unhide NA
        · rw [unhide KE]; exact unhide NB
        · rw [unhide KE]; exact (unhide OAW).mono (by have h3 := unhide ZE; have h4 := unhide S8; omega)
        · rw [unhide KE]; exact (unhide OBW).mono (by have h3 := unhide ZE; have h4 := unhide S9; omega)
      · obtain ⟨W, y0, y1, bW, hW, z0, z1, z2, z3⟩ := unhide DONE _ 0 (unhide F5)
        have HW := hide hW
        clear hW
        go_wp2_with fail
        rw [unhide HW]
        go_wp2
        refine bodyPost_ret (v := .tuple #[mV none 0 0 none 0 0, .int .i64 x]) (by simp [results, Try.results30, go_sem, y0, y1]) rfl ?_
        exact ⟨.inl ⟨by rw [unhide AE]; exact hx0, by rw [unhide AE]⟩, by first | exact bW | (rw [hD]; exact bW)⟩
end
end Go.Proofs.Ytnclkkoefejjiaa
