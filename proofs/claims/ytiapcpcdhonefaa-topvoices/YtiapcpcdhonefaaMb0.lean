/- Member: within, rises, slices.Contains, slices.ContainsFunc, Right; the document's In. -/
import Derived.Test.YtiapcpcdhonefaaArgi
import Derived.Test.YtiapcpcdhonefaaFl14
import Derived.RegionTactic
namespace Go.Proofs.Ytiapcpcdhonefaa
open Go.ChangeShapes Go.WideShapes Go.ChangeAt Go.RowKit

/-- Nodes' numbers, each greater than the one ahead of it. -/
def riseFrom (last : Int) : List Int → Bool
  | [] => true
  | n :: r => decide (last + 1 ≤ n) && decide (n ≤ 9) && riseFrom n r
def rightM (v l : List Int) : Bool := !v.isEmpty && riseFrom 0 v && riseFrom 0 l && !(l.any fun n => decide (n ∈ v))
theorem within_calls (n a b : Int) (w : World) : Calls Try.prog 31 #[.int .i64 n, .int .i64 a, .int .i64 b] w fun e w' => e = .returned (.bool (decide (a ≤ n) && decide (n ≤ b))) ∧ w' = w := by
  by_cases h1 : a ≤ n
  · by_cases h2 : n ≤ b
    · go_enter Try.func31, Try.ntmps31
      go_wp2
      go_ret
      exact ⟨by simp [h1, h2], rfl⟩
    · go_enter Try.func31, Try.ntmps31
      go_wp2
      go_ret
      exact ⟨by simp [h2], rfl⟩
  · go_enter Try.func31, Try.ntmps31
    go_wp2
    go_ret
    exact ⟨by simp; omega, rfl⟩
theorem rise_drop {l : List Int} {j : Nat} (hj : j < l.length) (last : Int) : riseFrom last (l.drop j) = (decide (last + 1 ≤ l[j]) && decide (l[j] ≤ 9) && riseFrom l[j] (l.drop (j + 1))) := by
  rw [List.drop_eq_getElem_cons hj]
  rfl
section
variable {w : World} {a : Option Addr} {c : Nat} {l : List Int}
set_option maxHeartbeats 2000000 in
theorem rises_calls (h : IntsAt w a l) (m : Nat) (hm : l.length = m) (hx : m ≤ maxLen) : Calls Try.prog 24 #[.slice a m c] w fun e w' => e = .returned (.bool (riseFrom 0 l)) ∧ w' = w := by
  have H := hide h
  have HM := hide hm
  simp only [maxLen] at hx
  clear h hm
  go_enter Try.func24, Try.ntmps24
  go_wp2_with fail
  go_loopw [3, 8] (fun v i wr => ∃ (j : Nat) (last : Int), j ≤ m ∧ 0 ≤ last ∧ last ≤ 9 ∧ v = .int .i64 last ∧ i = .int .i64 (j : Int) ∧ Hid (riseFrom last (l.drop j) = riseFrom 0 l) ∧ Hid (wr = w)) (fun _ i _ => m - (intOf i).toNat)
  case atStart => exact ⟨0, 0, by omega, by omega, by omega, rfl, rfl, rfl, rfl⟩
  case round =>
    obtain ⟨j, last, hj, hl0, hl1, rfl, rfl, hr, hw⟩ := hrel
    have hw' := unhide hw
    subst hw'
    by_cases hjm : j < m
    · have hjl : j < l.length := by rw [unhide HM]; exact hjm
      obtain ⟨b, off, rfl, p0⟩ := (unhide H).cell j hjl
      have hD := hide (rise_drop hjl last)
      generalize l[j] = x at *
      have hj0 : (0 : Int) ≤ (j : Int) := by omega
      have hj1 : (j : Int) < (m : Int) := by omega
      go_wp2_with fail
      refine (within_calls x (last + 1) 9 _).mono ?_
      rintro e w2 ⟨rfl, rfl⟩
      by_cases hin : last + 1 ≤ x ∧ x ≤ 9
      · have e1 : (decide (last + 1 ≤ x) && decide (x ≤ 9)) = true := by simp [hin.1, hin.2]
        rw [e1]
        have R2 := hide (show riseFrom x (l.drop (j + 1)) = riseFrom 0 l by rw [← unhide hr, unhide hD, e1]; rfl)
        clear e1
        go_wp2
        exact ⟨⟨j + 1, x, by omega, by omega, by omega, rfl, by go_num, unhide R2, by first | exact rfl | exact hide trivial⟩, by simp [intOf]; omega⟩
      · have e1 : (decide (last + 1 ≤ x) && decide (x ≤ 9)) = false := by
          simp only [Bool.and_eq_false_iff, decide_eq_false_iff_not]; omega
        rw [e1]
        have R2 := hide (show riseFrom 0 l = false by rw [← unhide hr, unhide hD, e1]; rfl)
        clear e1 hin
        go_wp2
        go_ret
        exact ⟨by rw [unhide R2]; rfl, rfl⟩
    · obtain rfl : j = m := by omega
      have R2 := hide (show riseFrom 0 l = true by rw [← unhide hr, List.drop_of_length_le (by rw [unhide HM]; exact Nat.le_refl _)]; rfl)
      go_wp2
      go_ret
      exact ⟨by rw [unhide R2]; rfl, rfl⟩
set_option maxHeartbeats 2000000 in
theorem index_calls (h : IntsAt w a l) (n : Int) (m : Nat) (hm : l.length = m) (hx : m ≤ maxLen) : Calls Try.prog 33 #[.slice a m c, .int .i64 n] w fun e w' => (∃ r : Int, e = .returned (.int .i64 r) ∧ ((r = -1 ∧ n ∉ l) ∨ (0 ≤ r ∧ n ∈ l))) ∧ w' = w := by
  have H := hide h
  have HM := hide hm
  simp only [maxLen] at hx
  clear h hm
  go_enter Try.func33, Try.ntmps33
  go_wp2_with fail
  go_loopw [8] (fun i wr => ∃ (j : Nat), j ≤ m ∧ i = .int .i64 (j : Int) ∧ Hid (n ∉ l.take j) ∧ Hid (wr = w)) (fun i _ => m - (intOf i).toNat)
  case atStart => exact ⟨0, by omega, rfl, by simp [Hid], rfl⟩
  case round =>
    obtain ⟨j, hj, rfl, hr, hw⟩ := hrel
    have hw' := unhide hw
    subst hw'
    by_cases hjm : j < m
    · have hjl : j < l.length := by rw [unhide HM]; exact hjm
      obtain ⟨b, off, rfl, p0⟩ := (unhide H).cell j hjl
      have hT := hide (List.take_succ_eq_append_getElem hjl)
      have hI := hide (List.getElem_mem hjl)
      generalize l[j] = x at *
      have hj0 : (0 : Int) ≤ (j : Int) := by omega
      have hj1 : (j : Int) < (m : Int) := by omega
      by_cases hin : n = x
      · subst hin
        go_wp2
        go_ret
        exact ⟨⟨(j : Int), rfl, .inr ⟨hj0, unhide hI⟩⟩, rfl⟩
      · have R2 := hide (show n ∉ l.take (j + 1) by rw [unhide hT, List.mem_append, List.mem_singleton]; exact fun h => h.elim (unhide hr) hin)
        go_wp2
        exact ⟨⟨j + 1, by omega, by go_num, unhide R2, by first | exact rfl | exact hide trivial⟩, by simp [intOf]; omega⟩
    · obtain rfl : j = m := by omega
      have R2 := hide (show n ∉ l by have := unhide hr; rwa [List.take_of_length_le (by rw [unhide HM]; exact Nat.le_refl _)] at this)
      go_wp2
      go_ret
      exact ⟨⟨-1, rfl, .inl ⟨rfl, unhide R2⟩⟩, rfl⟩
theorem contains_calls (h : IntsAt w a l) (n : Int) (m : Nat) (hm : l.length = m) (hx : m ≤ maxLen) : Calls Try.prog 27 #[.slice a m c, .int .i64 n] w fun e w' => e = .returned (.bool (decide (n ∈ l))) ∧ w' = w := by
  have H := hide h
  have HM := hide hm
  clear h hm
  go_enter Try.func27, Try.ntmps27
  go_wp2_with fail
  refine (index_calls (unhide H) n m (unhide HM) hx).mono ?_
  rintro e w2 ⟨⟨r, rfl, ⟨rfl, hn⟩ | ⟨hr, hn⟩⟩, rfl⟩
  · have e1 := hide (show decide (n ∈ l) = false by simp [hn])
    clear hn
    go_wp2
    go_ret
    exact ⟨by rw [unhide e1]; rfl, rfl⟩
  · have e1 := hide (show decide (n ∈ l) = true by simp [hn])
    clear hn
    go_wp2
    go_ret
    exact ⟨by rw [unhide e1]; first | rfl | simp [hr], rfl⟩
/-- A function value that picks numbers, as long as what lay in w0 lies there. -/
structure PickI (K : Nat) (caps : Array Value) (pick : Int → Bool) (w0 : World) : Prop where
  enter : ∀ (c : Array Value) (w : World), (callFunc K c).run Try.prog w = .ok (.enter K c) w
  call : ∀ (n : Int) (w : World), In64 n → Below w0.heap.size w0 w → Calls Try.prog K (#[.int .i64 n] ++ caps) w fun e w' => e = .returned (.bool (pick n)) ∧ Below w.heap.size w w'
set_option maxHeartbeats 2000000 in
theorem indexFuncI_calls (h : IntsAt w a l) (m : Nat) (hm : l.length = m) (hx : m ≤ maxLen) {K : Nat} {caps : Array Value} {pick : Int → Bool} (hK : PickI K caps pick w) :
    Calls Try.prog 32 #[.slice a m c, .func (.func K) #[] caps] w fun e w' => (∃ r : Int, e = .returned (.int .i64 r) ∧ ((r = -1 ∧ l.any pick = false) ∨ (0 ≤ r ∧ l.any pick = true))) ∧ Below w.heap.size w w' := by
  have H := hide h
  have HM := hide hm
  have HK := hide hK
  have hE := hK.enter
  simp only [maxLen] at hx
  clear h hm hK
  go_enter Try.func32, Try.ntmps32
  go_wp2_with fail
  go_loopw [8] (fun i wr => ∃ (j : Nat), j ≤ m ∧ i = .int .i64 (j : Int) ∧ Hid ((l.take j).any pick = false) ∧ Hid (Below w.heap.size w wr)) (fun i _ => m - (intOf i).toNat)
  case atStart => exact ⟨0, by omega, rfl, by simp [Hid], Below.refl _ _⟩
  case round =>
    obtain ⟨j, hj, rfl, hr, F⟩ := hrel
    by_cases hjm : j < m
    · have hjl : j < l.length := by rw [unhide HM]; exact hjm
      obtain ⟨b, off, rfl, p0⟩ := ((unhide H).later (unhide F)).cell j hjl
      have hT := hide (List.take_succ_eq_append_getElem hjl)
      have hI := hide (List.getElem_mem hjl)
      have hB := hide ((unhide H).bd _ (unhide hI))
      generalize l[j] = x at *
      have hj0 : (0 : Int) ≤ (j : Int) := by omega
      have hj1 : (j : Int) < (m : Int) := by omega
      go_wp2_with fail
      refine ((unhide HK).call x wr (unhide hB) (unhide F)).mono ?_
      rintro e w1 ⟨rfl, b1⟩
      have F1 := hide ((unhide F).trans (b1.mono (unhide F).size))
      clear b1 p0
      cases hp : pick x
      · have R2 := hide (show (l.take (j + 1)).any pick = false by rw [unhide hT, List.any_append, unhide hr]; simp [hp])
        go_wp2
        exact ⟨⟨j + 1, by omega, by go_num, unhide R2, unhide F1⟩, by simp [intOf]; omega⟩
      · have R2 := hide (show l.any pick = true from List.any_eq_true.2 ⟨x, unhide hI, hp⟩)
        go_wp2
        go_ret
        exact ⟨⟨(j : Int), rfl, .inr ⟨hj0, unhide R2⟩⟩, unhide F1⟩
    · obtain rfl : j = m := by omega
      have R2 := hide (show l.any pick = false by have := unhide hr; rwa [List.take_of_length_le (by rw [unhide HM]; exact Nat.le_refl _)] at this)
      go_wp2
      go_ret
      exact ⟨⟨-1, rfl, .inl ⟨rfl, unhide R2⟩⟩, unhide F⟩
theorem containsFunc_calls (h : IntsAt w a l) (m : Nat) (hm : l.length = m) (hx : m ≤ maxLen) {K : Nat} {caps : Array Value} {pick : Int → Bool} (hK : PickI K caps pick w) :
    Calls Try.prog 25 #[.slice a m c, .func (.func K) #[] caps] w fun e w' => e = .returned (.bool (l.any pick)) ∧ Below w.heap.size w w' := by
  have H := hide h
  have HM := hide hm
  have HK := hide hK
  clear h hm hK
  go_enter Try.func25, Try.ntmps25
  go_wp2_with fail
  refine (indexFuncI_calls (unhide H) m (unhide HM) hx (unhide HK)).mono ?_
  rintro e w2 ⟨⟨r, rfl, ⟨rfl, hn⟩ | ⟨hr, hn⟩⟩, b2⟩
  · have e1 := hide hn
    have B2 := hide b2
    clear hn b2
    go_wp2
    go_ret
    exact ⟨by rw [unhide e1]; rfl, unhide B2⟩
  · have e1 := hide hn
    have B2 := hide b2
    clear hn b2
    go_wp2
    go_ret
    exact ⟨by rw [unhide e1]; first | rfl | simp [hr], unhide B2⟩
end
end Go.Proofs.Ytiapcpcdhonefaa
