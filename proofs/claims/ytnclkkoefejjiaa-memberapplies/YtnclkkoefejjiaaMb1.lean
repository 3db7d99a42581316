/- Member: Right, Voter; the document's In, Right, Voter. -/
import Derived.Test.YtnclkkoefejjiaaMb0
namespace Go.Proofs.Ytnclkkoefejjiaa
open Go.ChangeShapes Go.WideShapes Go.ChangeAt Go.RowKit

/-- Members in their room. -/
abbrev mB (va : Option Addr) (vn vc : Nat) (la : Option Addr) (ln lc : Nat) : Obj := .cells #[.slice va vn vc, .slice la ln lc] 24 (0, 0)
abbrev mV (va : Option Addr) (vn vc : Nat) (la : Option Addr) (ln lc : Nat) : Value := .agg #[.slice va vn vc, .slice la ln lc]
theorem enter_right (c : Array Value) (w : World) : (callFunc 43 c).run Try.prog w = .ok (.enter 43 c) w := by
  simp [callFunc, go_sem, Try.func43]
  rw [if_neg (by decide +kernel), if_neg (fun h => by cases h)]
theorem right_picks {w0 : World} {B : Nat} {va : Option Addr} {vn vc : Nat} {la : Option Addr} {ln lc : Nat} {v : List Int} (hB : w0.heap[B]? = some (mB va vn vc la ln lc)) (hv : IntsAt w0 va v) (hn : v.length = vn) (hx : vn ≤ maxLen) : PickI 43 #[.pointer (some ⟨B, 0, none⟩)] (fun n => decide (n ∈ v)) w0 := by
  refine ⟨enter_right, fun n w _ F => ?_⟩
  have H := hide (hv.later F)
  have HN := hide hn
  have c0 := box_cell (later_block F hB) 0 _ rfl
  clear hB hv hn F
  go_enter Try.func43, Try.ntmps43
  go_wp2_with fail
  refine (contains_calls (unhide H) n vn (unhide HN) hx).mono ?_
  rintro e w2 ⟨rfl, rfl⟩
  go_wp2
  go_ret
  exact ⟨rfl, Below.refl _ _⟩
section
variable {w : World} {va : Option Addr} {vc : Nat} {v : List Int} {la : Option Addr} {lc : Nat} {l : List Int}
set_option maxRecDepth 20000 in
set_option maxHeartbeats 2000000 in
theorem right_calls (hv : IntsAt w va v) (hl : IntsAt w la l) (vn ln : Nat) (hvn : v.length = vn) (hln : l.length = ln) (hvx : vn ≤ maxLen) (hlx : ln ≤ maxLen) :
    Calls Try.prog 17 #[mV va vn vc la ln lc] w fun e w' => e = .returned (.bool (rightM v l)) ∧ Below w.heap.size w w' := by
  have X1 := hide (heap_new w (mB va vn vc la ln lc))
  have b1 := hide (show Below w.heap.size w (w.alloc (mB va vn vc la ln lc)) from (Below.refl _ _).alloc (Nat.le_refl _) _)
  have V := hide (hv.later (unhide b1))
  have L := hide (hl.later (unhide b1))
  have VN := hide hvn
  have LN := hide hln
  have c0 := box_cell (unhide X1) 0 _ rfl
  have c1 := box_cell (unhide X1) 1 _ rfl
  clear hv hl hvn hln
  by_cases h0 : vn = 0
  · subst h0
    have e0 := hide (show rightM v l = false by
      have : v = [] := List.eq_nil_of_length_eq_zero (unhide VN)
      rw [this]; rfl)
    go_enter Try.func17, Try.ntmps17
    go_wp2
    go_ret
    exact ⟨by rw [unhide e0]; rfl, unhide b1⟩
  · have h0' : ¬ ((vn : Int) = 0) := by omega
    have hne := hide (show v.isEmpty = false by
      cases hv : v with
      | nil => have := unhide VN; rw [hv] at this; exact absurd this.symm h0
      | cons _ _ => rfl)
    go_enter Try.func17, Try.ntmps17
    go_wp2_with fail
    generalize hD : w.heap.size = D at *
    generalize w.alloc (mB va vn vc la ln lc) = w1 at *
    refine (rises_calls (unhide V) vn (unhide VN) hvx).mono ?_
    rintro e w2 ⟨rfl, rfl⟩
    cases hr : riseFrom 0 v
    · have e0 := hide (show rightM v l = false by simp [rightM, hr])
      go_wp2
      go_ret
      exact ⟨by rw [unhide e0]; rfl, by rw [hD]; exact unhide b1⟩
    · go_wp2_with fail
      refine (rises_calls (unhide L) ln (unhide LN) hlx).mono ?_
      rintro e w3 ⟨rfl, rfl⟩
      cases hr2 : riseFrom 0 l
      · have e0 := hide (show rightM v l = false by simp [rightM, hr2])
        go_wp2
        go_ret
        exact ⟨by rw [unhide e0]; rfl, by rw [hD]; exact unhide b1⟩
      · go_wp2_with fail
        refine (containsFunc_calls (unhide L) ln (unhide LN) hlx (right_picks (unhide X1) (unhide V) (unhide VN) hvx)).mono ?_
        rintro e w4 ⟨rfl, b4⟩
        have e0 := hide (show rightM v l = !(l.any fun n => decide (n ∈ v)) by simp only [rightM, unhide hne, hr, hr2]; rfl)
        have B4 := hide ((unhide b1).trans (b4.mono (by have := (unhide b1).size; omega)))
        clear b4 hr hr2
        generalize (l.any fun n => decide (n ∈ v)) = z at *
        cases z
        all_goals
          go_wp2
          go_ret
          exact ⟨by rw [unhide e0]; rfl, by rw [hD]; exact unhide B4⟩
set_option maxHeartbeats 2000000 in
theorem in_calls (h : IntsAt w la l) (n : Int) (m : Nat) (hm : l.length = m) (hx : m ≤ maxLen) : Calls Try.prog 32 #[.slice la m lc, .int .i64 n] w fun e w' => e = .returned (.bool (decide (n ∈ l))) ∧ w' = w := by
  have H := hide h
  have HM := hide hm
  simp only [maxLen] at hx
  clear h hm
  go_enter Try.func32, Try.ntmps32
  go_wp2_with fail
  go_loopw [5] (fun i wr => ∃ (j : Nat), j ≤ m ∧ i = .int .i64 (j : Int) ∧ Hid (n ∉ l.take j) ∧ Hid (wr = w)) (fun i _ => m - (intOf i).toNat)
  case atStart => exact ⟨0, by omega, rfl, by simp [Hid], rfl⟩
  case round =>
    obtain ⟨j, hj, rfl, hr, hw⟩ := hrel
    have hw' := unhide hw
    subst hw'
    by_cases hjm : j < m
    · have hjl : j < l.length := by rw [unhide HM]; exact hjm
      obtain ⟨b, off, rfl, p0⟩ := (unhide H).cell j hjl
      have hT := hide (List.take_succ_eq_append_getElem hjl)
      have hI := hide (List.getElem_mem hjl)
      generalize l[j] = x at *
      have hj0 : (0 : Int) ≤ (j : Int) := by omega
      have hj1 : (j : Int) < (m : Int) := by omega
      by_cases hin : x = n
      · subst hin
        have R2 := hide (show decide (x ∈ l) = true by simp [unhide hI])
        go_wp2
        go_ret
        exact ⟨by rw [unhide R2]; rfl, rfl⟩
      · have R2 := hide (show n ∉ l.take (j + 1) by rw [unhide hT, List.mem_append, List.mem_singleton]; exact fun h => h.elim (unhide hr) (fun e => hin e.symm))
        go_wp2
        exact ⟨⟨j + 1, by omega, by go_num, unhide R2, by first | exact rfl | exact hide trivial⟩, by simp [intOf]; omega⟩
    · obtain rfl : j = m := by omega
      have R2 := hide (show decide (n ∈ l) = false by
        have := unhide hr
        rw [List.take_of_length_le (by rw [unhide HM]; exact Nat.le_refl _)] at this
        simp [this])
      go_wp2
      go_ret
      exact ⟨by rw [unhide R2]; rfl, rfl⟩
theorem voter_calls (hv : IntsAt w va v) (hl : IntsAt w la l) (vn ln : Nat) (hvn : v.length = vn) (hln : l.length = ln) (hvx : vn ≤ maxLen) (hlx : ln ≤ maxLen) (n : Int) :
    Calls Try.prog 19 #[mV va vn vc la ln lc, .int .i64 n] w fun e w' => e = .returned (.bool (rightM v l && decide (n ∈ v))) ∧ Below w.heap.size w w' := by
  have X1 := hide (heap_new w (mB va vn vc la ln lc))
  have b1 := hide (show Below w.heap.size w (w.alloc (mB va vn vc la ln lc)) from (Below.refl _ _).alloc (Nat.le_refl _) _)
  have V := hide (hv.later (unhide b1))
  have L := hide (hl.later (unhide b1))
  have VN := hide hvn
  have LN := hide hln
  have c0 := box_cell (unhide X1) 0 _ rfl
  have c1 := box_cell (unhide X1) 1 _ rfl
  clear hv hl hvn hln
  go_enter Try.func19, Try.ntmps19
  go_wp2_with fail
  generalize hD : w.heap.size = D at *
  generalize w.alloc (mB va vn vc la ln lc) = w1 at *
  refine (right_calls (unhide V) (unhide L) vn ln (unhide VN) (unhide LN) hvx hlx).mono ?_
  rintro e w2 ⟨rfl, b2⟩
  have V2 := hide ((unhide V).later b2)
  have X2 := hide (later_block b2 (unhide X1))
  have B2 := hide ((unhide b1).trans (b2.mono (by have := (unhide b1).size; omega)))
  clear b2 c0 c1
  have c0 := box_cell (unhide X2) 0 _ rfl
  cases hr : rightM v l
  · go_wp2
    go_ret
    exact ⟨by rw [hr]; rfl, by rw [hD]; exact unhide B2⟩
  · go_wp2_with fail
    refine (contains_calls (unhide V2) n vn (unhide VN) hvx).mono ?_
    rintro e w3 ⟨rfl, rfl⟩
    go_wp2
    go_ret
    exact ⟨by rw [hr]; rfl, by rw [hD]; exact unhide B2⟩
end
end Go.Proofs.Ytnclkkoefejjiaa
