/- The contract of wire.Number. -/
import Derived.Test.YtpkpnedcecjlbaaGreatDoorB03
import Derived.Deep.RegionHeld3
namespace Go.Proofs.YtpkpnedcecjlbaaGreatDoor
open Go.ChangeShapes Go.WideShapes Go.ChangeAt Go.RowKit

theorem number_no (n : Int) (w : World) (h : ¬ (0 ≤ n ∧ n ≤ 1099511627776)) :
    Calls Tryz.prog 55 #[.int .i64 n] w fun e w' => e = .returned (.tuple #[.slice none 0 0, .int .i64 2]) ∧ w' = w := by
  have H := hide h
  clear h
  go_enter Tryz.func55, Tryz.ntmps55
  go_wp2_with fail
  refine (within_no n 0 1099511627776 _ (unhide H)).mono ?_
  rintro e w' ⟨rfl, rfl⟩
  go_wp2
  go_ret2
  exact ⟨rfl, rfl⟩
theorem number_yes (n : Nat) (w : World) (h : n ≤ 1099511627776) :
    Calls Tryz.prog 55 #[.int .i64 (n : Int)] w fun e w' => ∃ sp n' c', e = .returned (.tuple #[.slice sp n' c', .int .i64 0]) ∧ Hid ((numB n).length = n') ∧ OwnB w.heap.size w' sp c' (numB n) ∧ Below w.heap.size w w' := by
  go_enter Tryz.func55, Tryz.ntmps55
  go_wp2_with fail
  refine (within_yes n 0 1099511627776 _ ⟨by omega, by omega⟩).mono ?_
  rintro e w1 ⟨rfl, rfl⟩
  go_wp2_with fail
  refine (addNumber_calls w1.heap.size none 0 0 [] n _ rfl (OwnB.ofNil _ _) (by simp) h (Nat.le_refl _)).mono ?_
  rintro e w' ⟨sp, n', c', rfl, hn, ho, hb⟩
  rw [List.nil_append] at hn ho
  go_wp2
  go_ret2
  exact ⟨sp, n', c', rfl, hn, ho, hb⟩
end Go.Proofs.YtpkpnedcecjlbaaGreatDoor
