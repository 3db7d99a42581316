/- Flight: live. -/
import Derived.Test.YticemhnfcelpmaaFl10
import Derived.Test.YticemhnfcelpmaaFl11
import Derived.Lib.SlBytesConst
namespace Go.Proofs.Yticemhnfcelpmaa
open Go.ChangeShapes Go.WideShapes Go.ChangeAt Go.RowKit Go.Maps

theorem in64 (n : Nat) (h : n ≤ 9 := by omega) : In64 (n : Int) := ⟨by omega, by omega⟩
theorem keep_live (h1 h2 h3 : Hdl) : keep (ofLink 1 2) [((1, 1, 2, [97, 98]), h1), ((2, 2, 1, []), h2), ((3, 1, 2, [97, 98]), h3)] = [((2, 2, 1, []), h2)] := by
  simp [keep, ofLink]
set_option maxRecDepth 20000 in
set_option maxHeartbeats 4000000 in
theorem live4_calls (w : World) : Calls Try.prog 12 #[] w fun e w' => e = .returned (.bool true) ∧ Below w.heap.size w w' := by
  have kc := fun (w : World) (C : Array Value) (n c : Nat) => Lib.run_convert_bytes_const (P := Try.prog) w 28 5 C n c Try.underlying28 Try.underlying5
  go_enter Try.func12, Try.ntmps12
  go_wp2_with fail
  refine (new_calls _).mono ?_
  rintro e W1 ⟨N, M, rfl, h1, b1⟩
  have H1 := hide h1
  have B1 := hide b1
  clear h1 b1
  have BA := hide (bytesAt_block (l := [97, 98]) (heap_new W1 (.cells #[.int .u8 97, .int .u8 98] 5 (2, 3))) (by decide))
  have bA := hide (show Below W1.heap.size W1 (W1.alloc (.cells #[.int .u8 97, .int .u8 98] 5 (2, 3))) from (Below.refl _ _).alloc (Nat.le_refl _) _)
  go_wp2_with fail
  have H2 := hide ((unhide H1).later (unhide bA))
  have hNl := hide (unhide H1).ltN
  have B2 := hide ((unhide B1).trans ((unhide bA).mono (unhide B1).size))
  generalize W1.alloc (.cells #[.int .u8 97, .int .u8 98] 5 (2, 3)) = W2 at *
  refine (send_yes (unhide H2) 1 2 (by constructor <;> decide) (by constructor <;> decide) _ 2 2 [97, 98] rfl (unhide BA) (fun b off _ e e' => by cases e; have := unhide hNl; omega) (fun e => by cases e) (by decide) (by decide) (by decide)).mono ?_
  rintro e W3 ⟨rfl, sp3, c3, hd3, h3, g3⟩
  have H3 := hide h3
  have B3 := hide ((unhide B2).trans ((unhide H2).below g3))
  clear h3 g3
  simp only [List.nil_append, Int.zero_add] at H3
  go_wp2_with fail
  refine (send_yes (unhide H3) 2 1 (by constructor <;> decide) (by constructor <;> decide) none 0 0 [] rfl ⟨by simp, by simp⟩ (fun b off h0 _ => by simp at h0) (fun _ => rfl) (by decide) (by decide) (by simp; decide)).mono ?_
  rintro e W4 ⟨rfl, sp4, c4, hd4, h4, g4⟩
  have H4 := hide h4
  have B4 := hide ((unhide B3).trans ((unhide H3).below g4))
  clear h4 g4
  simp only [List.cons_append, List.nil_append] at H4
  rw [show (1 : Int) + 1 = 2 from rfl] at H4
  go_wp2_with fail
  refine (double_yes (unhide H4) 0 (by simp) (by simp) (by decide) (by decide) (by simp)).mono ?_
  rintro e W5 ⟨rfl, sp5, c5, hd5, h5, g5⟩
  have H5 := hide h5
  have B5 := hide ((unhide B4).trans ((unhide H4).below g5))
  clear h5 g5
  simp only [List.cons_append, List.nil_append, List.getElem_cons_zero] at H5
  rw [show (2 : Int) + 1 = 3 from rfl] at H5
  go_wp2_with fail
  refine (part_yes (unhide H5) 1 2 (by constructor <;> decide) (by constructor <;> decide) (by simp [maxLen]) (by simp) (by decide)).mono ?_
  rintro e W6 ⟨rfl, h6, g6⟩
  have H6 := hide h6
  have B6 := hide ((unhide B5).trans ((unhide H5).below g6))
  clear h6 g6
  rw [keep_live] at H6
  go_wp2_with fail
  refine (under_calls (unhide H6) (by simp) (by simp)).mono ?_
  rintro e W7 ⟨sp7, c7, ys, rfl, hys, ho7, b7⟩
  have B7 := hide ((unhide B6).trans (b7.mono (unhide B6).size))
  have hy1 : ys.length = 1 := by have := congrArg List.length hys; simpa using this
  obtain ⟨g, rfl, p0, _, _, _⟩ := ho7.cell 0 (by omega)
  have hid : ys[0].1.1 = 2 := by
    have := congrArg (fun l => (l.map (·.1)).getD 0 0) hys
    simpa [List.getD_eq_getElem?_getD, hy1] using this
  rw [hid] at p0
  clear hys ho7 b7 hid
  go_wp2
  go_ret
  exact ⟨rfl, unhide B7⟩
end Go.Proofs.Yticemhnfcelpmaa
