/- Snapshots: fileOf; how two files are compared. -/
import Derived.Test.YtagncghpfdjkmaaGreatDoorB20
namespace Go.Proofs.YtagncghpfdjkmaaGreatDoor
open Go.ChangeShapes Go.WideShapes Go.ChangeAt Go.RowKit
set_option linter.unusedVariables false

theorem isNaN_int (x : Int) (w : World) : Calls Tryz.prog 145 #[.int .i64 x] w fun e w' => e = .returned (.bool false) ∧ w' = w := by
  have h : (x == x) = true := by simp
  go_enter Tryz.func145, Tryz.ntmps145
  go_wp2
  go_ret
  exact ⟨by simp, rfl⟩
theorem compare_int (x y : Int) (w : World) : Calls Tryz.prog 123 #[.int .i64 x, .int .i64 y] w fun e w' => e = .returned (.int .i64 (Lib.compareInt x y)) ∧ w' = w := by
  have key : Lib.compareInt x y = if x < y then -1 else if y < x then 1 else 0 := by unfold Lib.compareInt; rfl
  have K := hide key
  generalize Lib.compareInt x y = r at *
  clear key
  by_cases h1 : x < y
  · have R := hide (show r = -1 by rw [unhide K]; rw [if_pos h1])
    clear K
    go_enter Tryz.func123, Tryz.ntmps123
    go_wp2_with (go_at_call 145; refine (isNaN_int _ _).mono ?_; rintro e V ⟨rfl, rfl⟩)
    go_ret
    exact ⟨by rw [unhide R]; rfl, rfl⟩
  · by_cases h2 : y < x
    · have R := hide (show r = 1 by rw [unhide K]; rw [if_neg h1, if_pos h2])
      clear K
      go_enter Tryz.func123, Tryz.ntmps123
      go_wp2_with (go_at_call 145; refine (isNaN_int _ _).mono ?_; rintro e V ⟨rfl, rfl⟩)
      go_ret
      exact ⟨by rw [unhide R]; rfl, rfl⟩
    · have R := hide (show r = 0 by rw [unhide K]; rw [if_neg h1, if_neg h2])
      clear K
      go_enter Tryz.func123, Tryz.ntmps123
      go_wp2_with (go_at_call 145; refine (isNaN_int _ _).mono ?_; rintro e V ⟨rfl, rfl⟩)
      go_ret
      exact ⟨by rw [unhide R]; rfl, rfl⟩
set_option maxRecDepth 20000 in
set_option maxHeartbeats 4000000 in
theorem fileOf_calls (n : Nat) (hn : n < 10000000000000) (w : World) (hz : Tz w) : Calls Tryz.prog 71 #[.int .i64 (n : Int)] w fun e w' => e = .returned (.agg #[.string (str (snNm n)), .int .i64 (n : Int)]) ∧ Below w.heap.size w w' := by
  have u1 := hide (show Below w.heap.size w (w.alloc (.cells #[.string ⟨#[]⟩, .int .i64 0] 111)) from (Below.refl _ _).alloc (Nat.le_refl _) _)
  have Y1 := hide (heap_new w (.cells #[.string ⟨#[]⟩, .int .i64 0] 111))
  have IC := hide (itoa_calls n (by omega) (w.alloc (.cells #[.string ⟨#[]⟩, .int .i64 0] 111)) (hz.later (unhide u1)))
  have hsz : (str (Lib.decDigits n)).size ≤ 13 := by rw [str_size]; exact dec_len 12 n hn
  have HS := hide (show (⟨#[115, 110, 97, 112, 45]⟩ : ByteArray) ++ str (Lib.decDigits n) = str (snNm n) from str_append snapW _)
  generalize str (Lib.decDigits n) = ds at *
  generalize str (snNm n) = nm at *
  clear hz
  go_enter Tryz.func71, Tryz.ntmps71
  go_wp2_with fail
  generalize w.alloc _ = W1 at *
  generalize hD : w.heap.size = D at *
  go_at_call 110
  refine (unhide IC).mono ?_
  rintro e V ⟨rfl, v1⟩
  have Y2 := hide (later_block v1 (unhide Y1))
  have U2 := hide (show Below w.heap.size w V from by
    have := (unhide u1).trans (v1.mono (by rw [← hD]; exact (unhide u1).size))
    rw [hD]
    exact this)
  obtain ⟨W, y0, y1, gW, hW⟩ := two_sets (unhide Y2) (.string nm) (.int .i64 (n : Int))
  have HW := hide hW
  have z0 := box_cell (unhide Y2) 0 _ rfl
  have z1 := box_cell (unhide Y2) 1 _ rfl
  have z2 := mbox_free (unhide Y2) 0
  have z3 := mbox_free (unhide Y2) 1
  have BW := hide (below_grown (unhide U2) gW (by omega) (unhide U2).size)
  rw [← unhide HS] at HW
  clear v1 gW hW IC
  go_wp2_with fail
  rw [unhide HW]
  go_wp2
  refine bodyPost_ret (v := .agg #[.string nm, .int .i64 (n : Int)]) (by simp [results, Tryz.results71, go_sem, y0, y1]) rfl ?_
  exact ⟨rfl, by first | exact unhide BW | (rw [hD]; exact unhide BW)⟩
end Go.Proofs.YtagncghpfdjkmaaGreatDoor
