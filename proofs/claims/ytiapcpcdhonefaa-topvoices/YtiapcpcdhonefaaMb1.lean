/- Member: Right, Voter; the document's In, Right, Voter. -/
import Derived.Test.YtiapcpcdhonefaaMb0
namespace Go.Proofs.Ytiapcpcdhonefaa
open Go.ChangeShapes Go.WideShapes Go.ChangeAt Go.RowKit

/-- Members in their room. -/
abbrev mB (va : Option Addr) (vn vc : Nat) (la : Option Addr) (ln lc : Nat) : Obj := .cells #[.slice va vn vc, .slice la ln lc] 24 (0, 0)
abbrev mV (va : Option Addr) (vn vc : Nat) (la : Option Addr) (ln lc : Nat) : Value := .agg #[.slice va vn vc, .slice la ln lc]
theorem enter_right (c : Array Value) (w : World) : (callFunc 26 c).run Try.prog w = .ok (.enter 26 c) w := by
  simp [callFunc, go_sem, Try.func26]
  rw [if_neg (by decide +kernel), if_neg (fun h => by cases h)]
theorem right_picks {w0 : World} {B : Nat} {va : Option Addr} {vn vc : Nat} {la : Option Addr} {ln lc : Nat} {v : List Int} (hB : w0.heap[B]? = some (mB va vn vc la ln lc)) (hv : IntsAt w0 va v) (hn : v.length = vn) (hx : vn ≤ maxLen) : PickI 26 #[.pointer (some ⟨B, 0, none⟩)] (fun n => decide (n ∈ v)) w0 := by
  refine ⟨enter_right, fun n w _ F => ?_⟩
  have H := hide (hv.later F)
  have HN := hide hn
  have c0 := box_cell (later_block F hB) 0 _ rfl
  clear hB hv hn F
  go_enter Try.func26, Try.ntmps26
  go_wp2_with fail
  refine (contains_calls (unhide H) n vn (unhide HN) hx).mono ?_
  rintro e w2 ⟨rfl, rfl⟩
  go_wp2
  go_ret
  exact ⟨rfl, Below.refl _ _⟩
section
variable {w : World} {va : Option Addr} {vc : Nat} {v : List Int} {la : Option Addr} {lc : Nat} {l : List Int}
set_option maxRecDepth 20000 in
set_option maxHeartbeats 2000000 in
theorem right_calls (hv : IntsAt w va v) (hl : IntsAt w la l) (vn ln : Nat) (hvn : v.length = vn) (hln : l.length = ln) (hvx : vn ≤ maxLen) (hlx : ln ≤ maxLen) :
    Calls Try.prog 10 #[mV va vn vc la ln lc] w fun e w' => e = .returned (.bool (rightM v l)) ∧ Below w.heap.size w w' := by
  have X1 := hide (heap_new w (mB va vn vc la ln lc))
  have b1 := hide (show Below w.heap.size w (w.alloc (mB va vn vc la ln lc)) from (Below.refl _ _).alloc (Nat.le_refl _) _)
  have V := hide (hv.later (unhide b1))
  have L := hide (hl.later (unhide b1))
  have VN := hide hvn
  have LN := hide hln
  have c0 := box_cell (unhide X1) 0 _ rfl
  have c1 := box_cell (unhide X1) 1 _ rfl
  clear hv hl hvn hln
  by_cases h0 : vn = 0
  · subst h0
    have e0 := hide (show rightM v l = false by
      have : v = [] := List.eq_nil_of_length_eq_zero (unhide VN)
      rw [this]; rfl)
    go_enter Try.func10, Try.ntmps10
    go_wp2
    go_ret
    exact ⟨by rw [unhide e0]; rfl, unhide b1⟩
  · have h0' : ¬ ((vn : Int) = 0) := by omega
    have hne := hide (show v.isEmpty = false by
      cases hv : v with
      | nil => have := unhide VN; rw [hv] at this; exact absurd this.symm h0
      | cons _ _ => rfl)
    go_enter Try.func10, Try.ntmps10
    go_wp2_with fail
    generalize hD : w.heap.size = D at *
    generalize w.alloc (mB va vn vc la ln lc) = w1 at *
    refine (rises_calls (unhide V) vn (unhide VN) hvx).mono ?_
    rintro e w2 ⟨rfl, rfl⟩
    cases hr : riseFrom 0 v
    · have e0 := hide (show rightM v l = false by simp [rightM, hr])
      go_wp2
      go_ret
      exact ⟨by rw [unhide e0]; rfl, by rw [hD]; exact unhide b1⟩
    · go_wp2_with fail
      refine (rises_calls (unhide L) ln (unhide LN) hlx).mono ?_
      rintro e w3 ⟨rfl, rfl⟩
      cases hr2 : riseFrom 0 l
      · have e0 := hide (show rightM v l = false by simp [rightM, hr2])
        go_wp2
        go_ret
        exact ⟨by rw [unhide e0]; rfl, by rw [hD]; exact unhide b1⟩
      · go_wp2_with fail
        refine (containsFunc_calls (unhide L) ln (unhide LN) hlx (right_picks (unhide X1) (unhide V) (unhide VN) hvx)).mono ?_
        rintro e w4 ⟨rfl, b4⟩
        have e0 := hide (show rightM v l = !(l.any fun n => decide (n ∈ v)) by simp only [rightM, unhide hne, hr, hr2]; rfl)
        have B4 := hide ((unhide b1).trans (b4.mono (by have := (unhide b1).size; omega)))
        clear b4 hr hr2
        generalize (l.any fun n => decide (n ∈ v)) = z at *
        cases z
        all_goals
          go_wp2
          go_ret
          exact ⟨by rw [unhide e0]; rfl, by rw [hD]; exact unhide B4⟩
end
end Go.Proofs.Ytiapcpcdhonefaa
