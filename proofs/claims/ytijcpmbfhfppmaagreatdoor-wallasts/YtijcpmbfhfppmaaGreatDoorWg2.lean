/- Logs: is a name among names? -/
import Derived.Test.YtijcpmbfhfppmaaGreatDoorWn2
namespace Go.Proofs.YtijcpmbfhfppmaaGreatDoor
open Go.ChangeShapes Go.WideShapes Go.ChangeAt Go.RowKit
set_option linter.unusedVariables false

def IdxIs (s : Nm) (l : List Nm) (i : Int) : Prop := decide (0 ≤ i) = decide (s ∈ l) ∧ i ≤ 1000 ∧ -1 ≤ i
section
variable {base : Nat} {w : World} {sp : Option Addr} {n c : Nat} {l : List Nm}
set_option maxRecDepth 20000 in
set_option maxHeartbeats 8000000 in
theorem indexS_calls (h : OwnN base w sp c l) (hn : l.length = n) (hm : n ≤ 1000) (s : Nm) :
    Calls Tryz.prog 159 #[.slice sp n c, .string (str s)] w fun e w' => (∃ i : Int, e = .returned (.int .i64 i) ∧ IdxIs s l i) ∧ w' = w := by
  have H := hide h
  have HN := hide hn
  clear h hn
  go_enter Tryz.func159, Tryz.ntmps159
  go_wp2_with fail
  go_loopw [8] (fun i wr => ∃ j : Nat, j ≤ n ∧ i = .int .i64 (j : Int) ∧ Hid (s ∉ l.take j) ∧ Hid (wr = w)) (fun i _ => n - (intOf i).toNat)
  case atStart => exact ⟨0, by omega, rfl, hide (by simp), hide rfl⟩
  case round =>
    obtain ⟨j, hj, rfl, HT, HW⟩ := hrel
    have hw := unhide HW
    subst hw
    by_cases hjn : j < n
    · have y0 : (0 : Int) ≤ (j : Int) := by omega
      have y1 : (j : Int) < (n : Int) := by omega
      have hjl : j < l.length := by rw [unhide HN]; exact hjn
      obtain ⟨g, rfl, q0⟩ := (unhide H).cell j hjl
      have EQ := str_eqN s l[j]
      have TS := hide (show l.take (j + 1) = l.take j ++ [l[j]] by rw [List.take_succ_eq_append_getElem hjl])
      have ME := hide (List.getElem_mem hjl)
      generalize l[j] = x at *
      by_cases hx : s = x
      · rw [decide_eq_true hx] at EQ
        have FE := hide (show decide ((0 : Int) ≤ (j : Int)) = decide (s ∈ l) by
          rw [decide_eq_true y0, decide_eq_true (by rw [hx]; exact unhide ME)])
        clear hx
        generalize str x = sx at *
        generalize str s = sy at *
        go_wp2
        go_ret
        exact ⟨⟨_, rfl, unhide FE, by omega, by omega⟩, rfl⟩
      · rw [decide_eq_false hx] at EQ
        have HT' := hide (show s ∉ l.take (j + 1) by
          rw [unhide TS]
          intro hm
          rcases List.mem_append.1 hm with h | h
          · exact unhide HT h
          · rw [List.mem_singleton] at h
            exact hx h)
        clear hx
        generalize str x = sx at *
        generalize str s = sy at *
        go_wp2
        exact ⟨⟨j + 1, by omega, by go_num, HT', by first | exact HW | exact hide trivial | exact hide rfl⟩, by simp [intOf]; omega⟩
    · have hjj : ¬ (j : Int) < (n : Int) := by omega
      obtain rfl : j = n := by omega
      have FE := hide (show decide ((0 : Int) ≤ (-1 : Int)) = decide (s ∈ l) by
        have h := unhide HT
        rw [List.take_of_length_le (by rw [unhide HN]; exact Nat.le_refl _)] at h
        rw [decide_eq_false h]
        rfl)
      go_wp2
      go_ret
      exact ⟨⟨-1, rfl, unhide FE, by omega, by omega⟩, rfl⟩
set_option maxRecDepth 20000 in
theorem contains_calls (h : OwnN base w sp c l) (hn : l.length = n) (hm : n ≤ 1000) (s : Nm) :
    Calls Tryz.prog 129 #[.slice sp n c, .string (str s)] w fun e w' => e = .returned (.bool (decide (s ∈ l))) ∧ w' = w := by
  have IC := hide (indexS_calls h hn hm s)
  obtain ⟨dd, hdd⟩ : ∃ dd, decide (s ∈ l) = dd := ⟨_, rfl⟩
  have DD := hide hdd
  rw [hdd]
  clear hdd h
  generalize str s = sy at *
  go_enter Tryz.func129, Tryz.ntmps129
  go_wp2_with fail
  go_at_call 159
  refine (unhide IC).mono ?_
  rintro e V ⟨⟨i, rfl, hi⟩, rfl⟩
  obtain ⟨hd, h1, h2⟩ := hi
  have HD := hide (hd.trans (unhide DD))
  clear hd
  go_wp2
  go_ret
  exact ⟨by rw [← unhide HD]; rfl, rfl⟩
end
end Go.Proofs.YtijcpmbfhfppmaaGreatDoor
