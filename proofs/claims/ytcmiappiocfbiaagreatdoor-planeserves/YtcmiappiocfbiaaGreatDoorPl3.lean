/- Plane: the document's weights and sums. -/
import Derived.Test.YtcmiappiocfbiaaGreatDoorPl2
import Derived.Laws.Externs
namespace Go.Proofs.YtcmiappiocfbiaaGreatDoor
open Go.ChangeShapes Go.WideShapes Go.ChangeAt Go.RowKit

def cntN (x : Nat) : Nat := if x < fI then x else 0
theorem cntN_lt (x : Nat) : cntN x < fI := by
  unfold cntN
  split
  · assumption
  · decide
theorem cnt_wt (k x : Nat) : mulN (cntN x) k = wt k x := by
  have hz : mulN 0 k = 0 := by
    unfold mulN
    rw [show val 0 = 0 from by decide, Nat.zero_mul, near_zero]
  unfold cntN wt
  by_cases h : x < fI
  · rw [if_pos h]
    by_cases h0 : 0 < x
    · rw [if_pos ⟨h0, h⟩]
    · rw [if_neg (by omega)]
      have : x = 0 := by omega
      rw [this, hz]
  · rw [if_neg h, if_neg (by omega), hz]
theorem run_bits (x : Nat) (w : World) : (Extern.MathFloatBits.float64bits #[.float .f64 x]).run Tryz.prog w = .ok (.int .u64 (x : Int)) w := rfl
set_option maxRecDepth 20000 in
set_option maxHeartbeats 2000000 in
theorem rweight_calls (x : Nat) (w : World) (hx : x < 18446744073709551616) : Calls Tryz.prog 56 #[.float .f64 x] w fun e w' => e = .returned (.bool (decide (x < fI))) ∧ w' = w := by
  have hl : decide ((x : Int) < 9218868437227405312) = decide (x < fI) := decide_eq_decide.2 (by simp only [fI]; omega)
  go_enter Tryz.func56, Tryz.ntmps56
  go_wp2_with fail
  rw [run_callFunc_extern Tryz.func44 (by kernel_rfl) (by kernel_rfl) (by kernel_rfl) (e := Extern.MathFloatBits.float64bits) (by kernel_rfl)]
  rw [run_bits]
  simp only [Result.andThen]
  rw [Oper.upon_value]
  go_wp2
  go_ret
  exact ⟨rfl, rfl⟩
set_option maxRecDepth 20000 in
set_option maxHeartbeats 2000000 in
theorem counts_calls (x : Nat) (w : World) (hx : x < 18446744073709551616) : Calls Tryz.prog 43 #[.float .f64 x] w fun e w' => e = .returned (.float .f64 (cntN x)) ∧ w' = w := by
  have WC := hide (rweight_calls x w hx)
  by_cases h : x < fI
  · rw [decide_eq_true h] at WC
    have E := hide (show cntN x = x by unfold cntN; rw [if_pos h])
    clear h hx
    go_enter Tryz.func43, Tryz.ntmps43
    go_wp2_with (go_at_call 56; refine (unhide WC).mono ?_; rintro e w' ⟨rfl, rfl⟩)
    go_ret
    exact ⟨by rw [unhide E]; rfl, rfl⟩
  · rw [decide_eq_false h] at WC
    have E := hide (show cntN x = 0 by unfold cntN; rw [if_neg h])
    clear h hx
    go_enter Tryz.func43, Tryz.ntmps43
    go_wp2_with (go_at_call 56; refine (unhide WC).mono ?_; rintro e w' ⟨rfl, rfl⟩)
    go_ret
    exact ⟨by rw [unhide E]; rfl, rfl⟩
section
variable {w : World} {a : Option Addr} {l : List Tg}
set_option maxRecDepth 20000 in
set_option maxHeartbeats 4000000 in
theorem rsum_calls (k : Nat) (hk : k < fI) (h : TgsAt w a l) (n c m : Nat) (hn : l.length = n) (hx : n ≤ maxLen) (hm : m ≤ n) :
    Calls Tryz.prog 42 #[.slice a n c, .int .i64 (m : Int), .float .f64 k] w fun e w' => e = .returned (.float .f64 (sumN k (l.take m))) ∧ Below w.heap.size w w' := by
  have H := hide h
  have HN := hide hn
  simp only [maxLen] at hx
  clear h hn
  go_enter Tryz.func42, Tryz.ntmps42
  go_wp2_with fail
  go_loopw [7, 8] (fun s i wr => ∃ j : Nat, j ≤ m ∧ i = .int .i64 (j : Int) ∧ s = .float .f64 (sumN k (l.take j)) ∧ Hid (Below w.heap.size w wr)) (fun _ i _ => m - (intOf i).toNat)
  case atStart => exact ⟨0, by omega, rfl, rfl, hide (Below.refl _ _)⟩
  case round =>
    obtain ⟨j, hj, rfl, rfl, B⟩ := hrel
    by_cases hjm : j < m
    · have y0 : (0 : Int) ≤ (j : Int) := by omega
      have y1 : (j : Int) < (m : Int) := by omega
      have y2 : (j : Int) < (n : Int) := by omega
      have hjl : j < l.length := by rw [unhide HN]; omega
      obtain ⟨b, off, rfl, q0, q1⟩ := (unhide H).cell j hjl
      have p1 := cell_later (unhide B) q1
      have ht := (unhide H).lt _ (List.getElem_mem hjl)
      have ST := hide (sumN_take k l j hjl)
      have ha := run_addF (sumN_le k (l.take j)) (wt_le k l[j].2)
      have hmu := run_mulF (cntN_lt l[j].2) hk
      rw [cnt_wt] at hmu
      generalize l[j] = t at *
      obtain ⟨s, x⟩ := t
      simp only at p1 ht ha ST hmu
      have CC := hide (counts_calls x wr ht)
      generalize sumN k (l.take j) = sm at *
      generalize wt k x = y at *
      generalize cntN x = z at *
      clear q0 q1 ht
      go_wp2_with (go_at_call 43; refine (unhide CC).mono ?_; rintro e wr' ⟨rfl, rfl⟩)
      exact ⟨⟨j + 1, by omega, by go_num, by rw [unhide ST], unhide B⟩, by simp [intOf]; omega⟩
    · have hjj : ¬ (j : Int) < (m : Int) := by omega
      obtain rfl : j = m := by omega
      go_wp2
      go_ret
      exact ⟨rfl, unhide B⟩
end
end Go.Proofs.YtcmiappiocfbiaaGreatDoor
