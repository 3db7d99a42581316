/- Member: Quorum. -/
import Derived.Test.YtiapcpcdhonefaaMb3
namespace Go.Proofs.Ytiapcpcdhonefaa
open Go.ChangeShapes Go.WideShapes Go.ChangeAt Go.RowKit Go.Maps

theorem TallyAt.tight {w : World} {B n : Nat} {vs : List Int} {f : Int → Int} (h : TallyAt w B n vs f) : TallyAt w B vs.length vs f := by
  obtain ⟨D, ⟨es, clock, hb, F, hs, hD⟩, h2, h3, h4⟩ := h.map
  refine ⟨D, ⟨es, clock, hb, F, ?_, hD⟩, h2, h3, h4⟩
  rw [hD, size_eq, length_read] at h4
  omega
theorem TallyAt.congr {w : World} {B n : Nat} {vs : List Int} {f f' : Int → Int} (h : TallyAt w B n vs f) (e : ∀ x ∈ vs, f x = f' x) : TallyAt w B n vs f' := by
  obtain ⟨D, h1, h2, h3, h4⟩ := h.map
  exact ⟨D, h1, h2, fun x hx hv zd => by rw [h3 x hx hv, e x hv], h4⟩
theorem rise_len : ∀ (v : List Int) (last : Int), riseFrom last v = true → v = [] ∨ (v.length : Int) + last ≤ 9
  | [], _, _ => .inl rfl
  | n :: r, last, h => by
    simp only [riseFrom, Bool.and_eq_true, decide_eq_true_eq] at h
    right
    rcases rise_len r n h.2 with rfl | h1
    · simp only [List.length_cons, List.length_nil]
      omega
    · simp only [List.length_cons]
      omega
def quorumM (v l yes : List Int) : Bool := rightM v l && decide (v.length / 2 < (v.filter fun x => decide (x ∈ yes)).length)
theorem right_parts {v l : List Int} (h : rightM v l = true) : riseFrom 0 v = true ∧ riseFrom 0 l = true ∧ v.length ≤ 9 ∧ l.length ≤ 9 ∧ 0 < v.length := by
  simp only [rightM, Bool.and_eq_true, Bool.not_eq_true'] at h
  obtain ⟨⟨⟨h1, h2⟩, h3⟩, _⟩ := h
  refine ⟨h2, h3, ?_, ?_, ?_⟩
  · rcases rise_len v 0 h2 with rfl | h4
    · simp
    · omega
  · rcases rise_len l 0 h3 with rfl | h4
    · simp
    · omega
  · cases v with
    | nil => simp at h1
    | cons _ _ => simp
theorem zero64 (w : World) : (zeroValue 3).run Try.prog w = .ok (.int .i64 0) w := by kernel_rfl
theorem enter_quorum (c : Array Value) (w : World) : (callFunc 23 c).run Try.prog w = .ok (.enter 23 c) w := by
  simp [callFunc, go_sem, Try.func23]
  rw [if_neg (by decide +kernel), if_neg (fun h => by cases h)]
theorem quorum_picks (w0 : World) : PickI 23 #[] (fun t => decide (0 < t)) w0 := by
  refine ⟨enter_quorum, fun n w _ _ => ?_⟩
  show Calls Try.prog 23 #[.int .i64 n] w _
  go_enter Try.func23, Try.ntmps23
  go_wp2
  go_ret
  exact ⟨rfl, Below.refl _ _⟩
section
variable {w : World} {va : Option Addr} {vc : Nat} {v : List Int} {la : Option Addr} {lc : Nat} {l : List Int} {ya : Option Addr} {yc : Nat} {ys : List Int}
set_option maxRecDepth 20000 in
set_option maxHeartbeats 4000000 in
theorem quorum_calls (hv : IntsAt w va v) (hl : IntsAt w la l) (hy : IntsAt w ya ys) (vn ln yn : Nat) (hvn : v.length = vn) (hln : l.length = ln) (hyn : ys.length = yn) (hvx : vn ≤ maxLen) (hlx : ln ≤ maxLen) (hyx : yn ≤ maxLen) :
    Calls Try.prog 9 #[mV va vn vc la ln lc, .slice ya yn yc] w fun e w' => e = .returned (.bool (quorumM v l ys)) ∧ Below w.heap.size w w' := by
  have X1 := hide (heap_new w (mB va vn vc la ln lc))
  have b1 := hide (show Below w.heap.size w (w.alloc (mB va vn vc la ln lc)) from (Below.refl _ _).alloc (Nat.le_refl _) _)
  have V := hide (hv.later (unhide b1))
  have L := hide (hl.later (unhide b1))
  have Y0 := hide hy
  have V0 := hide hv
  have VN := hide hvn
  have LN := hide hln
  have YN := hide hyn
  have c0 := box_cell (unhide X1) 0 _ rfl
  have c1 := box_cell (unhide X1) 1 _ rfl
  have hyx' : yn ≤ 9223372036854775807 := by simp only [maxLen] at hyx; omega
  clear hv hl hy hvn hln hyn hyx
  go_enter Try.func9, Try.ntmps9
  go_wp2_with fail
  generalize hD : w.heap.size = D at *
  generalize w.alloc (mB va vn vc la ln lc) = w1 at *
  refine (right_calls (unhide V) (unhide L) vn ln (unhide VN) (unhide LN) hvx hlx).mono ?_
  rintro e w2 ⟨rfl, b2⟩
  have V2 := hide ((unhide V).later b2)
  have X2 := hide (later_block b2 (unhide X1))
  have B2 := hide ((unhide b1).trans (b2.mono (by have := (unhide b1).size; omega)))
  clear b2 c0 c1 X1 V L
  have c0 := box_cell (unhide X2) 0 _ rfl
  have c1 := box_cell (unhide X2) 1 _ rfl
  cases hr : rightM v l
  · go_wp2
    go_ret
    exact ⟨by simp only [quorumM, hr]; rfl, by rw [hD]; exact unhide B2⟩
  · obtain ⟨hr1, hr2, hv9, hl9, hv0⟩ := right_parts hr
    have ND := hide (rise_nodup v 0 (by omega) hr1)
    have IN := hide (rise_in v 0 (by omega) hr1)
    have hvn9 : vn ≤ 9 := by rw [← unhide VN]; exact hv9
    go_wp2_with fail
    refine (tally_calls (unhide V2) vn (unhide VN) (by omega) (unhide ND)).mono ?_
    rintro e w3 ⟨B, rfl, t3, hB3, b3⟩
    have T3 := hide (t3.congr (f' := fun x => if x ∈ ys.take 0 then 1 else 0) (fun x _ => by simp))
    have B3 := hide ((unhide B2).trans (b3.mono (by have := (unhide B2).size; omega)))
    have hBD := hide (show D ≤ B by have := (unhide B2).size; omega)
    clear t3 hB3 b3
    go_wp2_with fail
    go_loopw [17] (fun i wr => ∃ (j : Nat), j ≤ yn ∧ i = .int .i64 (j : Int) ∧ Hid (TallyAt wr B vn v (fun x => if x ∈ ys.take j then 1 else 0)) ∧ Hid (Below D w wr)) (fun i _ => yn - (intOf i).toNat)
    case atStart => exact ⟨0, by omega, rfl, unhide T3, unhide B3⟩
    case round =>
      obtain ⟨j, hj, rfl, T, F⟩ := hrel
      have Y2 := hide ((unhide Y0).later (by rw [hD]; exact unhide F))
      by_cases hjm : j < yn
      · have hjl : j < ys.length := by rw [unhide YN]; exact hjm
        obtain ⟨b, off, rfl, p0⟩ := (unhide Y2).cell j hjl
        have hT := hide (List.take_succ_eq_append_getElem hjl)
        have hB := hide (show In64 ys[j] from (unhide Y0).bd _ (List.getElem_mem hjl))
        generalize ys[j] = x at *
        have hj0 : (0 : Int) ≤ (j : Int) := by omega
        have hj1 : (j : Int) < (yn : Int) := by omega
        obtain ⟨w4, hrun, t4, g4⟩ := (unhide T).store x 1 (unhide hB) (by constructor <;> decide) (by simp only [maxLen]; omega)
        obtain ⟨D0, hD0, hH, _, _⟩ := (unhide T).map
        have HD0 := hide hD0
        have HH := hide (hH x (unhide hB))
        clear hD0 hH
        go_wp2_with (at_lookup; refine unhide ?_)
        refine hide ?_
        refine wpList_lookup_own_ok_int _ rfl _ _ 60 rfl 3 3 .i64 intLaw Try.underlying60 Try.underlying3 (zero64 _) B vn D0 rfl (unhide HD0) _ (.int .i64 x) rfl (key64 (unhide hB)) ?_
        intro cc hcc hwcc
        rw [unhide HH]
        clear hcc hwcc
        by_cases hxv : x ∈ v
        · have e1 : decide (x ∈ v) = true := by simp [hxv]
          have T4 := hide (show TallyAt w4 B vn v (fun y => if y ∈ ys.take (j + 1) then 1 else 0) by
            rw [if_pos hxv] at t4
            have t5 := t4.tight
            rw [unhide VN] at t5
            refine t5.congr (fun y _ => ?_)
            rw [unhide hT]
            by_cases e : y = x
            · subst e; simp [upd]
            · simp [upd, e])
          have F4 := hide ((unhide F).grown g4 (by have := (unhide F).size; omega) (fun g' hg' => by have := Option.some.inj hg'; have := unhide hBD; omega))
          rw [e1]
          clear t4 g4 e1 hxv
          go_wp2
          exact ⟨⟨j + 1, by omega, by go_num, unhide T4, unhide F4⟩, by simp [intOf]; omega⟩
        · have e1 : decide (x ∈ v) = false := by simp [hxv]
          have T4 := hide (show TallyAt wr B vn v (fun y => if y ∈ ys.take (j + 1) then 1 else 0) by
            refine (unhide T).congr (fun y hyv => ?_)
            rw [unhide hT]
            have e : y ≠ x := fun e => hxv (e ▸ hyv)
            simp [e])
          rw [e1]
          clear t4 g4 e1 hxv hrun
          go_wp2
          exact ⟨⟨j + 1, by omega, by go_num, unhide T4, unhide F⟩, by simp [intOf]; omega⟩
      · obtain rfl : j = yn := by omega
        have T4 := hide (show TallyAt wr B vn v (fun y => if y ∈ ys then 1 else 0) by have := unhide T; rwa [List.take_of_length_le (by rw [unhide YN]; exact Nat.le_refl _)] at this)
        go_wp2_with fail
        refine (majority_calls (unhide T4) (unhide ND) (fun x hx => by have := unhide IN x hx; constructor <;> omega) (fun x _ => by split <;> constructor <;> decide) (by omega) (quorum_picks wr)).mono ?_
        rintro e w5 ⟨rfl, b5⟩
        have e1 := hide (show quorumM v l ys = decide (v.length / 2 < (v.filter fun x => decide ((0 : Int) < if x ∈ ys then 1 else 0)).length) by
          simp only [quorumM, hr, Bool.true_and]
          congr 4
          funext x
          by_cases e : x ∈ ys <;> simp [e])
        have F5 := hide ((unhide F).trans (b5.mono (by have := (unhide F).size; omega)))
        clear b5
        go_wp2
        go_ret
        exact ⟨by rw [unhide e1]; rfl, by rw [hD]; exact unhide F5⟩
end
end Go.Proofs.Ytiapcpcdhonefaa
