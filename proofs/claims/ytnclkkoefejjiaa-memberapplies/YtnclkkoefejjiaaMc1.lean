/- The document's Right, Quorum, SameInts, Same. -/
import Derived.Test.YtnclkkoefejjiaaMbp
import Derived.Deep.QuietTactic
import Derived.BigQuiet
namespace Go.Proofs.Ytnclkkoefejjiaa
open Go.ChangeShapes Go.WideShapes Go.ChangeAt Go.RowKit

/-- The number at a place rises and may be. -/
def okAt (last : Int) (v : List Int) (i : Nat) : Prop := (if i = 0 then last else v.getD (i - 1) 0) < v.getD i 0 ∧ v.getD i 0 ≤ 9
theorem rise_iff : ∀ (v : List Int) (last : Int), riseFrom last v = true ↔ ∀ i, i < v.length → okAt last v i
  | [], _ => by simp [riseFrom]
  | n :: r, last => by
    have ih := rise_iff r n
    simp only [riseFrom, Bool.and_eq_true, decide_eq_true_eq, ih]
    constructor
    · rintro ⟨⟨h1, h2⟩, h3⟩ i hi
      cases i with
      | zero => exact ⟨by simp; omega, by simpa using h2⟩
      | succ k =>
        have := h3 k (by simpa using hi)
        cases k with
        | zero => simpa [okAt] using this
        | succ q => simpa [okAt] using this
    · intro h
      have h0 := h 0 (by simp)
      simp only [okAt, if_true, List.getD_cons_zero] at h0
      refine ⟨⟨by omega, h0.2⟩, fun k hk => ?_⟩
      have := h (k + 1) (by simpa using hk)
      cases k with
      | zero => simpa [okAt] using this
      | succ q => simpa [okAt] using this
theorem right_iff (v l : List Int) : rightM v l = true ↔ 0 < v.length ∧ riseFrom 0 v = true ∧ riseFrom 0 l = true ∧ ∀ x ∈ v, x ∉ l := by
  unfold rightM
  simp only [Bool.and_eq_true, Bool.not_eq_true', List.any_eq_false, decide_eq_true_eq]
  constructor
  · rintro ⟨⟨⟨h1, h2⟩, h3⟩, h4⟩
    refine ⟨?_, h2, h3, fun x hx hl => h4 x hl hx⟩
    cases v with
    | nil => simp at h1
    | cons _ _ => simp
  · rintro ⟨h1, h2, h3, h4⟩
    refine ⟨⟨⟨?_, h2⟩, h3⟩, fun x hx hv => h4 x hv hx⟩
    cases v with
    | nil => simp at h1
    | cons _ _ => rfl
theorem right_no {v l : List Int} (h : ¬ (0 < v.length ∧ riseFrom 0 v = true ∧ riseFrom 0 l = true ∧ ∀ x ∈ v, x ∉ l)) : rightM v l = false := by
  cases hr : rightM v l with
  | false => rfl
  | true => exact absurd ((right_iff v l).1 hr) h
theorem getD_at {l : List Int} {j : Nat} (hj : j < l.length) : l.getD j 0 = l[j] := by
  rw [List.getD_eq_getElem?_getD, List.getElem?_eq_getElem hj]
  rfl
section
variable {w : World} {va : Option Addr} {vc : Nat} {v : List Int} {la : Option Addr} {lc : Nat} {l : List Int}
set_option maxRecDepth 20000 in
set_option maxHeartbeats 8000000 in
theorem refRight_calls (hv : IntsAt w va v) (hl : IntsAt w la l) (vn ln : Nat) (hvn : v.length = vn) (hln : l.length = ln) (hvx : vn ≤ maxLen) (hlx : ln ≤ maxLen) :
    Calls Try.prog 18 #[mV va vn vc la ln lc] w fun e w' => e = .returned (.bool (rightM v l)) ∧ Below w.heap.size w w' := by
  have X1 := hide (heap_new w (mB va vn vc la ln lc))
  have b1 := hide (show Below w.heap.size w (w.alloc (mB va vn vc la ln lc)) from (Below.refl _ _).alloc (Nat.le_refl _) _)
  have V := hide (hv.later (unhide b1))
  have L := hide (hl.later (unhide b1))
  have VN := hide hvn
  have LN := hide hln
  have c0 := box_cell (unhide X1) 0 _ rfl
  have c1 := box_cell (unhide X1) 1 _ rfl
  have hvx' := hvx
  have hlx' := hlx
  simp only [maxLen] at hvx' hlx'
  clear hv hl hvn hln
  go_enter Try.func18, Try.ntmps18
  go_wp2_with fail
  generalize hD : w.heap.size = D at *
  generalize w.alloc (mB va vn vc la ln lc) = w1 at *
  go_loopw [3] (fun i wr => ∃ (j : Nat), j ≤ vn ∧ i = .int .i64 (j : Int) ∧ Hid (∀ i, i < j → okAt 0 v i ∧ v.getD i 0 ∉ l) ∧ Hid (wr = w1)) (fun i _ => vn - (intOf i).toNat)
  case atStart => exact ⟨0, by omega, rfl, fun i hi => by omega, rfl⟩
  case round =>
    obtain ⟨j, hj, rfl, hr, hw⟩ := hrel
    have hw' := unhide hw
    subst hw'
    by_cases hjm : j < vn
    · have hjl : j < v.length := by rw [unhide VN]; exact hjm
      obtain ⟨b, off, rfl, p0⟩ := (unhide V).cell j hjl
      have hj0 : (0 : Int) ≤ (j : Int) := by omega
      have hj1 : (j : Int) < (vn : Int) := by omega
      have hx := hide (getD_at hjl)
      have hxm := hide (List.getElem_mem hjl)
      generalize v[j] = x at *
      by_cases h1 : x < 1
      · have R := hide (right_no (v := v) (l := l) (fun ⟨_, h, _⟩ => by have := rise_in v 0 (by omega) h x (unhide hxm); omega))
        go_wp2
        go_ret
        exact ⟨by rw [unhide R]; rfl, by first | exact unhide b1 | (rw [hD]; exact unhide b1)⟩
      · by_cases h2 : 9 < x
        · have R := hide (right_no (v := v) (l := l) (fun ⟨_, h, _⟩ => by have := rise_in v 0 (by omega) h x (unhide hxm); omega))
          go_wp2
          go_ret
          exact ⟨by rw [unhide R]; rfl, by first | exact unhide b1 | (rw [hD]; exact unhide b1)⟩
        · by_cases h3 : 0 < j
          · obtain ⟨k, rfl⟩ : ∃ k, j = k + 1 := ⟨j - 1, by omega⟩
            obtain ⟨b', off', e', p1⟩ := (unhide V).cell k (by omega)
            cases e'
            have hy := hide (getD_at (show k < v.length by omega))
            generalize v[k] = y at *
            have hk0 : (0 : Int) ≤ (k : Int) := by omega
            have hk1 : (k : Int) < (vn : Int) := by omega
            have hk2 : (0 : Int) < (k : Int) + 1 := by omega
            have hk3 : (k : Int) + 1 < (vn : Int) := by omega
            by_cases h4 : x ≤ y
            · have R := hide (right_no (v := v) (l := l) (fun ⟨_, h, _⟩ => by
                have := ((rise_iff v 0).1 h (k + 1) hjl).1
                rw [if_neg (by omega), show k + 1 - 1 = k from rfl, unhide hx, unhide hy] at this
                omega))
              go_wp2
              go_ret
              exact ⟨by rw [unhide R]; rfl, by first | exact unhide b1 | (rw [hD]; exact unhide b1)⟩
            · go_wp2_with fail
              refine (in_calls (unhide L) x ln (unhide LN) hlx).mono ?_
              rintro e w2 ⟨rfl, rfl⟩
              by_cases h5 : x ∈ l
              · have R := hide (right_no (v := v) (l := l) (fun ⟨_, _, _, h⟩ => h x (unhide hxm) h5))
                have e5 : decide (x ∈ l) = true := by simp [h5]
                rw [e5]
                go_wp2
                go_ret
                exact ⟨by rw [unhide R]; rfl, by first | exact unhide b1 | (rw [hD]; exact unhide b1)⟩
              · have e5 : decide (x ∈ l) = false := by simp [h5]
                rw [e5]
                have R2 := hide (show ∀ i, i < k + 1 + 1 → okAt 0 v i ∧ v.getD i 0 ∉ l from fun i hi => by
                  by_cases e : i = k + 1
                  · subst e
                    rw [okAt, if_neg (by omega), show k + 1 - 1 = k from rfl, unhide hx, unhide hy]
                    exact ⟨⟨by omega, by omega⟩, h5⟩
                  · exact unhide hr i (by omega))
                clear e5 h5
                go_wp2
                exact ⟨⟨k + 1 + 1, by omega, by go_num, unhide R2, by first | exact rfl | exact hide trivial⟩, by simp [intOf]; omega⟩
          · have h3' : ¬ ((0 : Int) < (j : Int)) := by omega
            go_wp2_with fail
            refine (in_calls (unhide L) x ln (unhide LN) hlx).mono ?_
            rintro e w2 ⟨rfl, rfl⟩
            by_cases h5 : x ∈ l
            · have R := hide (right_no (v := v) (l := l) (fun ⟨_, _, _, h⟩ => h x (unhide hxm) h5))
              have e5 : decide (x ∈ l) = true := by simp [h5]
              rw [e5]
              go_wp2
              go_ret
              exact ⟨by rw [unhide R]; rfl, by first | exact unhide b1 | (rw [hD]; exact unhide b1)⟩
            · have e5 : decide (x ∈ l) = false := by simp [h5]
              rw [e5]
              have R2 := hide (show ∀ i, i < j + 1 → okAt 0 v i ∧ v.getD i 0 ∉ l from fun i hi => by
                by_cases e : i = j
                · subst e
                  rw [okAt, if_pos (by omega), unhide hx]
                  exact ⟨⟨by omega, by omega⟩, h5⟩
                · exact unhide hr i (by omega))
              clear e5 h5
              go_wp2
              exact ⟨⟨j + 1, by omega, by go_num, unhide R2, by first | exact rfl | exact hide trivial⟩, by simp [intOf]; omega⟩
    · obtain rfl : j = vn := by omega
      have RV := hide (show riseFrom 0 v = true from (rise_iff v 0).2 (fun i hi => (unhide hr i (by rw [← unhide VN]; exact hi)).1))
      have RN := hide (show ∀ x ∈ v, x ∉ l from fun x hx => by
        obtain ⟨i, hi, rfl⟩ := List.getElem_of_mem hx
        rw [← getD_at hi]
        exact (unhide hr i (by rw [← unhide VN]; exact hi)).2)
      clear hr
      go_wp2_with fail
      go_loopw [5] (fun i wr' => ∃ (q : Nat), q ≤ ln ∧ i = .int .i64 (q : Int) ∧ Hid (∀ i, i < q → okAt 0 l i) ∧ Hid (wr' = wr)) (fun i _ => ln - (intOf i).toNat)
      case atStart => exact ⟨0, by omega, rfl, fun i hi => by omega, rfl⟩
      case round =>
        obtain ⟨q, hq, rfl, hr, hw⟩ := hrel
        have hw' := unhide hw
        subst hw'
        by_cases hqm : q < ln
        · have hql : q < l.length := by rw [unhide LN]; exact hqm
          obtain ⟨b, off, rfl, p0⟩ := (unhide L).cell q hql
          have hj0 : (0 : Int) ≤ (q : Int) := by omega
          have hj1 : (q : Int) < (ln : Int) := by omega
          have hx := hide (getD_at hql)
          have hxm := hide (List.getElem_mem hql)
          generalize l[q] = x at *
          by_cases h1 : x < 1
          · have R := hide (right_no (v := v) (l := l) (fun ⟨_, _, h, _⟩ => by have := rise_in l 0 (by omega) h x (unhide hxm); omega))
            go_wp2
            go_ret
            exact ⟨by rw [unhide R]; rfl, by first | exact unhide b1 | (rw [hD]; exact unhide b1)⟩
          · by_cases h2 : 9 < x
            · have R := hide (right_no (v := v) (l := l) (fun ⟨_, _, h, _⟩ => by have := rise_in l 0 (by omega) h x (unhide hxm); omega))
              go_wp2
              go_ret
              exact ⟨by rw [unhide R]; rfl, by first | exact unhide b1 | (rw [hD]; exact unhide b1)⟩
            · by_cases h3 : 0 < q
              · obtain ⟨k, rfl⟩ : ∃ k, q = k + 1 := ⟨q - 1, by omega⟩
                obtain ⟨b', off', e', p1⟩ := (unhide L).cell k (by omega)
                cases e'
                have hy := hide (getD_at (show k < l.length by omega))
                generalize l[k] = y at *
                have hk0 : (0 : Int) ≤ (k : Int) := by omega
                have hk1 : (k : Int) < (ln : Int) := by omega
                have hk2 : (0 : Int) < (k : Int) + 1 := by omega
                have hk3 : (k : Int) + 1 < (ln : Int) := by omega
                by_cases h4 : x ≤ y
                · have R := hide (right_no (v := v) (l := l) (fun ⟨_, _, h, _⟩ => by
                    have := ((rise_iff l 0).1 h (k + 1) hql).1
                    rw [if_neg (by omega), show k + 1 - 1 = k from rfl, unhide hx, unhide hy] at this
                    omega))
                  go_wp2
                  go_ret
                  exact ⟨by rw [unhide R]; rfl, by first | exact unhide b1 | (rw [hD]; exact unhide b1)⟩
                · have R2 := hide (show ∀ i, i < k + 1 + 1 → okAt 0 l i from fun i hi => by
                    by_cases e : i = k + 1
                    · subst e
                      rw [okAt, if_neg (by omega), show k + 1 - 1 = k from rfl, unhide hx, unhide hy]
                      exact ⟨by omega, by omega⟩
                    · exact unhide hr i (by omega))
                  go_wp2
                  exact ⟨⟨k + 1 + 1, by omega, by go_num, unhide R2, by first | exact rfl | exact hide trivial⟩, by simp [intOf]; omega⟩
              · have h3' : ¬ ((0 : Int) < (q : Int)) := by omega
                have R2 := hide (show ∀ i, i < q + 1 → okAt 0 l i from fun i hi => by
                  by_cases e : i = q
                  · subst e
                    rw [okAt, if_pos (by omega), unhide hx]
                    exact ⟨by omega, by omega⟩
                  · exact unhide hr i (by omega))
                go_wp2
                exact ⟨⟨q + 1, by omega, by go_num, unhide R2, by first | exact rfl | exact hide trivial⟩, by simp [intOf]; omega⟩
        · obtain rfl : q = ln := by omega
          have RL := hide (show riseFrom 0 l = true from (rise_iff l 0).2 (fun i hi => unhide hr i (by rw [← unhide LN]; exact hi)))
          have R := hide (show rightM v l = decide (0 < j) by
            by_cases h0 : 0 < j
            · rw [decide_eq_true h0]
              exact (right_iff v l).2 ⟨by rw [unhide VN]; exact h0, unhide RV, unhide RL, unhide RN⟩
            · rw [decide_eq_false h0]
              exact right_no (fun ⟨h, _⟩ => h0 (by rw [← unhide VN]; exact h)))
          by_cases h0 : 0 < j
          · have h0' : (0 : Int) < (j : Int) := by omega
            go_wp2
            go_ret
            exact ⟨by rw [unhide R]; simp [h0], by first | exact unhide b1 | (rw [hD]; exact unhide b1)⟩
          · have h0' : ¬ ((0 : Int) < (j : Int)) := by omega
            go_wp2
            go_ret
            exact ⟨by rw [unhide R]; simp [h0]; try omega, by first | exact unhide b1 | (rw [hD]; exact unhide b1)⟩
end
end Go.Proofs.Ytnclkkoefejjiaa
