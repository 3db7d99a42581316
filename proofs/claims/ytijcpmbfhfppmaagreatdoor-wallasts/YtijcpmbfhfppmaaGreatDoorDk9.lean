/- Disk: names. -/
import Derived.Test.YtijcpmbfhfppmaaGreatDoorDk8
import Derived.Lib.ConvBytes
namespace Go.Proofs.YtijcpmbfhfppmaaGreatDoor
open Go.ChangeShapes Go.WideShapes Go.ChangeAt Go.RowKit

def stands (c : Nat) : Bool := (decide (97 ≤ c) && decide (c ≤ 122)) || ((decide (48 ≤ c) && decide (c ≤ 57)) || (decide (c = 45) || decide (c = 46)))
theorem mayStand_calls (c : Nat) (w : World) : Calls Tryz.prog 112 #[.int .u8 (c : Int)] w fun e w' => e = .returned (.bool (stands c)) ∧ w' = w := by
  go_enter Tryz.func112, Tryz.ntmps112
  go_wp2
  all_goals
    go_ret
    refine ⟨congrArg (fun b => Ending.returned (Value.bool b)) (?_ : _ = stands c), rfl⟩
    rw [Bool.eq_iff_iff]
    simp [stands]
    try omega
def nameOk (s : ByteArray) : Bool := decide (1 ≤ s.size) && (decide (s.size ≤ 64) && s.data.toList.all (fun b => stands b.toNat))
theorem bytesWorld_below (w : World) (s : ByteArray) : Below w.heap.size w (Lib.bytesWorld w 5 s) :=
  ⟨rfl, rfl, rfl, by rw [Lib.bytesWorld_size]; omega, fun j hj => Lib.bytesWorld_at_old w _ s j hj⟩
set_option maxRecDepth 20000 in
set_option maxHeartbeats 40000000 in
theorem isName_calls (s : ByteArray) (w : World) : Calls Tryz.prog 78 #[.string s] w fun e w' => e = .returned (.bool (nameOk s)) ∧ Below w.heap.size w w' := by
  have hcv := fun (u : World) => Lib.run_convert_string_bytes (P := Tryz.prog) u 9 58 5 s Tryz.underlying9 Tryz.underlying58 under5
  by_cases h1 : s.size < 1
  · have hi : (s.size : Int) < 1 := by omega
    have HN := hide (show nameOk s = false by simp [nameOk]; omega)
    go_enter Tryz.func78, Tryz.ntmps78
    go_wp2
    go_ret
    exact ⟨by rw [unhide HN]; rfl, Below.refl _ _⟩
  · by_cases h2 : 64 < s.size
    · have hi : ¬ (s.size : Int) < 1 := by omega
      have hi2 : (64 : Int) < (s.size : Int) := by omega
      have HN := hide (show nameOk s = false by simp [nameOk]; omega)
      go_enter Tryz.func78, Tryz.ntmps78
      go_wp2
      go_ret
      exact ⟨by rw [unhide HN]; rfl, Below.refl _ _⟩
    · have hi : ¬ (s.size : Int) < 1 := by omega
      have hi2 : ¬ (64 : Int) < (s.size : Int) := by omega
      have hlen : s.data.toList.length = s.size := by simp
      have HC := hide (fun j hj => Lib.bytesWorld_cell w 5 s j hj)
      have HB := hide (bytesWorld_below w s)
      go_enter Tryz.func78, Tryz.ntmps78
      go_wp2_with fail
      generalize Lib.bytesWorld w 5 s = W at *
      go_loopw [16] (fun i wr => ∃ j : Nat, j ≤ s.size ∧ i = .int .i64 (j : Int) ∧ Hid ((s.data.toList.take j).all (fun b => stands b.toNat) = true) ∧ Hid (wr = W)) (fun i _ => s.size - (intOf i).toNat)
      case atStart => exact ⟨0, by omega, rfl, by exact hide (by simp), hide rfl⟩
      case round =>
        obtain ⟨j, hj, rfl, HA, HW⟩ := hrel
        have hW := unhide HW
        subst hW
        by_cases hjn : j < s.size
        · have hj0 : (0 : Int) ≤ (j : Int) := by omega
          have hj1 : (j : Int) < (s.size : Int) := by omega
          have p0 := unhide HC j hjn
          have HT := hide (show s.data.toList.take (j + 1) = s.data.toList.take j ++ [s.data.toList.getD j 0] by
            rw [List.take_succ_eq_append_getElem (by omega), List.getD_eq_getElem?_getD, List.getElem?_eq_getElem (by omega)]; rfl)
          have HM := hide (show s.data.toList.getD j 0 ∈ s.data.toList by
            rw [List.getD_eq_getElem?_getD, List.getElem?_eq_getElem (by omega)]; exact List.getElem_mem (by omega))
          generalize s.data.toList.getD j 0 = b at *
          go_wp2_with fail
          refine (mayStand_calls b.toNat _).mono ?_
          rintro e w1 ⟨rfl, rfl⟩
          cases hp : stands b.toNat
          · have HN := hide (show nameOk s = false by
              have : s.data.toList.all (fun b => stands b.toNat) = false := by
                rw [List.all_eq_false]; exact ⟨b, unhide HM, by simp [hp]⟩
              simp [nameOk, this])
            go_wp2
            go_ret
            exact ⟨by rw [unhide HN]; rfl, unhide HB⟩
          · have HA2 := hide (show (s.data.toList.take (j + 1)).all (fun b => stands b.toNat) = true by
              rw [unhide HT, List.all_append, unhide HA]; simp [hp])
            go_wp2
            exact ⟨⟨j + 1, by omega, by go_num, unhide HA2, by first | exact hide trivial | exact hide rfl⟩, by simp [intOf]; omega⟩
        · have HN := hide (show nameOk s = true by
            have h3 := unhide HA
            rw [List.take_of_length_le (by omega)] at h3
            simp only [nameOk, h3, Bool.and_true, Bool.and_eq_true, decide_eq_true_eq]
            omega)
          go_wp2
          go_ret
          exact ⟨by rw [unhide HN]; rfl, unhide HB⟩
end Go.Proofs.YtijcpmbfhfppmaaGreatDoor
