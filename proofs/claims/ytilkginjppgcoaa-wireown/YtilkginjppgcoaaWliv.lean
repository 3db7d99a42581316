/- The contract of tollgatelaw02.live. -/
import Derived.Test.YtilkginjppgcoaaRhard
import Derived.Test.YtilkginjppgcoaaWent
namespace Go.Proofs.Ytilkginjppgcoaa
open Go.ChangeShapes Go.WideShapes Go.ChangeAt Go.RowKit

theorem numB_300 : numB 300 = [172, 2] := by decide +kernel
theorem numB_5 : numB 5 ++ numB 2 = [5, 2] := by decide +kernel
theorem entryB_1 : entryB 1 1 1 [] = [1, 1, 1, 0] := by decide +kernel
theorem hard_52 : wholeE [5, 2] (hardE [5, 2] 0) = .ok (5, 2) := by kernel_rfl
theorem str_300 : (strOf [172, 2]).toList = [172, 2] := by decide +kernel
theorem str_52 : (strOf [5, 2]).toList = [5, 2] := by decide +kernel
theorem str_1110 : (strOf [1, 1, 1, 0]).toList = [1, 1, 1, 0] := by decide +kernel
set_option maxHeartbeats 1000000 in
theorem live2_calls (w : World) : Calls Try.prog 6 #[] w fun e w' => e = .returned (.bool true) ∧ Below w.heap.size w w' := by
  go_enter Try.func6, Try.ntmps6
  go_wp2_with fail
  refine (number_yes 300 _ (by decide)).mono ?_
  rintro e W1 ⟨sp1, n1, c1, rfl, hn1, ho1, hb1⟩
  rw [numB_300] at hn1 ho1
  obtain rfl := (unhide hn1)
  have B1 := hide ho1.bytes
  have F1 := hide hb1
  clear ho1 hb1 hn1
  go_wp2_with fail
  refine (putHard_yes 5 2 _ (by decide) (by decide)).mono ?_
  rintro e W2 ⟨sp2, n2, c2, rfl, hn2, ho2, hb2⟩
  rw [numB_5] at hn2 ho2
  obtain rfl := (unhide hn2)
  have B2 := hide ho2.bytes
  have B1' := hide ((unhide B1).later hb2)
  have F2 := hide ((unhide F1).trans (hb2.mono (unhide F1).size))
  clear ho2 hb2 hn2 B1 F1
  go_wp2_with fail
  refine (putEntry_yes 1 1 1 none 0 0 [] _ ⟨by decide, by decide, by decide, .inr rfl⟩ rfl ⟨by simp, by simp⟩ (fun _ => rfl) (by decide)).mono ?_
  rintro e W3 ⟨sp3, n3, c3, rfl, hn3, ho3, hb3⟩
  rw [entryB_1] at hn3 ho3
  obtain rfl := (unhide hn3)
  have B3 := hide ho3.bytes
  have B1 := hide ((unhide B1').later hb3)
  have B2' := hide ((unhide B2).later hb3)
  have F3 := hide ((unhide F2).trans (hb3.mono (unhide F2).size))
  clear ho3 hb3 hn3 B1' B2 F2
  have B4 := hide (bytesAt_block (l := [5, 2]) (heap_new W3 (.cells #[.int .u8 5, .int .u8 2] 5)) (by decide))
  have b4 := hide (show Below W3.heap.size W3 (W3.alloc (.cells #[.int .u8 5, .int .u8 2] 5)) from (Below.refl _ _).alloc (Nat.le_refl _) _)
  go_wp2_with fail
  generalize W3.alloc _ = W4 at *
  refine (getHard_calls _ 2 2 [5, 2] _ rfl (by decide) (unhide B4)).mono ?_
  rintro e W5 ⟨rfl, hb5⟩
  rw [hard_52]
  simp only [hardV]
  have F5 := hide ((unhide F3).trans (((unhide b4).trans (hb5.mono (unhide b4).size)).mono (unhide F3).size))
  have b6 := hide (show Below W5.heap.size W5 (W5.alloc (.cells #[.int .i64 5, .int .i64 2] 52)) from (Below.refl _ _).alloc (Nat.le_refl _) _)
  have h6 := heap_new W5 (.cells #[.int .i64 5, .int .i64 2] 52)
  obtain ⟨p0, p1, _, _⟩ := pair_cells h6
  have s1 := run_string8 (c := c1) 2 rfl ((((unhide B1).later (unhide b4)).later hb5).later (unhide b6))
  have s2 := run_string8 (c := c2) 2 rfl ((((unhide B2').later (unhide b4)).later hb5).later (unhide b6))
  have s3 := run_string8 (c := c3) 4 rfl ((((unhide B3).later (unhide b4)).later hb5).later (unhide b6))
  have t1 := str_300
  have t2 := str_52
  have t3 := str_1110
  clear h6 hb5
  go_wp2
  go_ret
  exact ⟨rfl, (unhide F5).trans ((unhide b6).mono (unhide F5).size)⟩
end Go.Proofs.Ytilkginjppgcoaa
