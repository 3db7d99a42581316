/- Logs: live. -/
import Derived.Test.YtijcpmbfhfppmaaGreatDoorWlv
namespace Go.Proofs.YtijcpmbfhfppmaaGreatDoor
open Go.ChangeShapes Go.WideShapes Go.ChangeAt Go.RowKit
set_option linter.unusedVariables false
theorem wal1_is : str (walNm 1) = ⟨#[119, 97, 108, 45, 49]⟩ := by kernel_rfl
theorem lvTerm : termW lvc 1 = (2, true) := by kernel_rfl
theorem one_ents {W : World} {E : Nat} (h : W.heap[E]? = some (.cells #[.int .i64 1, .int .i64 2, .int .i64 1, .slice none 0 0] 60 (0, 0))) : EntsAt W (some ⟨E, 0, none⟩) [(1, 2, 1, [])] :=
  ⟨fun i hi => by
    obtain rfl : i = 0 := by simp at hi; omega
    exact ⟨E, 0, none, 0, rfl, box_cell h 0 _ rfl, box_cell h 1 _ rfl, box_cell h 2 _ rfl, box_cell h 3 _ rfl, ⟨by simp, fun j hj => by simp at hj⟩, fun _ => rfl⟩⟩
theorem one_in {P : Nat → Prop} {W : World} {E : Nat} (h : W.heap[E]? = some (.cells #[.int .i64 1, .int .i64 2, .int .i64 1, .slice none 0 0] 60 (0, 0))) (hP : P E) : EntsIn P W (some ⟨E, 0, none⟩) [(1, 2, 1, [])] := by
  refine ⟨one_ents h, fun b off e h0 => ?_, fun i hi b off dp dc n e hc g o e1 h0 => ?_⟩
  · cases e
    exact hP
  · obtain rfl : i = 0 := by simp at hi; omega
    simp at h0
set_option maxRecDepth 20000 in
set_option maxHeartbeats 16000000 in
theorem live6_calls (w : World) (ht : Tz w) : Calls Tryz.prog 18 #[] w fun e w' => e = .returned (.bool true) ∧ Below w.heap.size w w' := by
  have HT := hide ht
  have NC := hide (anew_calls w 1000)
  rw [show ((1000 : Int).toNat) = 1000 from rfl] at NC
  clear ht
  go_enter Tryz.func18, Tryz.ntmps18
  go_wp2_with fail
  go_at_call 24
  refine (unhide NC).mono ?_
  rintro e V1 ⟨d, M, rfl, h1, v1⟩
  have D1 := hide h1
  have A1 := hide (show Asd (fun _ => False) w.heap.size w V1 from ⟨fun g hg => hg.elim, v1⟩)
  have TT := hide (show ∀ W, Asd (fun _ => False) w.heap.size w W → ∃ w0 : World, w0.heap.size = w.heap.size ∧ Tz w0 ∧ Below w.heap.size w0 W from fun W a => ⟨w, rfl, unhide HT, a.bel⟩)
  have OC := hide (open_calls (unhide D1) (unhide TT _ (unhide A1)) (by omega))
  rw [lv1_is] at OC
  clear h1 v1 NC
  go_wp2_with fail
  go_at_call 25
  refine (unhide OC).mono ?_
  rintro e V2 ⟨a2, L, ep, ec, hs, rfl, z2, _⟩
  have A2 := hide ((unhide A1).trans a2)
  have Z2 := hide z2
  clear a2 z2 OC
  have U3 := hide ((Below.refl V2.heap.size V2).alloc (Nat.le_refl _) (.cells #[.int .i64 1, .int .i64 2, .int .i64 1, .slice none 0 0] 60))
  have X3 := hide (heap_new V2 (.cells #[.int .i64 1, .int .i64 2, .int .i64 1, .slice none 0 0] 60))
  have Z3 := hide ((unhide Z2).more (unhide U3))
  have A3 := hide ((unhide A2).trans (((unhide Z2).asdB (unhide U3)).sub (Bv := fun _ => False) (fun g hg => hg.elim)))
  have S3 := hide (show V2.heap.size < (V2.alloc (.cells #[.int .i64 1, .int .i64 2, .int .i64 1, .slice none 0 0] 60)).heap.size from (Array.getElem?_eq_some_iff.1 (unhide X3)).1)
  have AC := hide (append_calls (unhide Z3) (by omega) (some ⟨V2.heap.size, 0, none⟩) 1 1 [(1, 2, 1, [])] rfl (one_in (unhide X3) (.inr (.inr ⟨Nat.le_refl _, unhide S3⟩))) (by simp [wc0]))
  rw [lv2_is] at AC
  go_wp2_with fail
  generalize V2.alloc _ = V3 at *
  generalize V2.heap.size = E at *
  go_at_call 27
  refine (unhide AC).mono ?_
  rintro e V4 ⟨rfl, z4, a4⟩
  obtain ⟨ep4, ec4, hs4, z4⟩ := z4
  have Z4 := hide (z4.sub (Bv := fun _ => False) (fun g hg => hg.elim))
  have A4 := hide ((unhide A3).trans (a4.sub (Bv := fun _ => False) (fun g hg => hg.elim)))
  clear z4 a4 AC
  have SC := hide (wsync_calls (unhide Z4))
  try dsimp only at SC
  rw [lv3_is] at SC
  try dsimp only
  rw [show ((0 : Nat) : Int) = 0 from rfl]
  go_wp2_with fail
  go_at_call 29
  refine (unhide SC).mono ?_
  rintro e V5 ⟨rfl, z5, a5⟩
  have Z5 := hide z5
  have A5 := hide ((unhide A4).trans (a5.sub (Bv := fun _ => False) (fun g hg => hg.elim)))
  clear z5 a5 SC
  have HC := hide (setHard_yes (unhide Z5) (by omega) 3 1 (by omega) (by omega))
  try dsimp only at HC
  rw [lv4_is, show ((3 : Nat) : Int) = 3 from rfl, show ((1 : Nat) : Int) = 1 from rfl] at HC
  try dsimp only
  rw [show ((0 : Nat) : Int) = 0 from rfl]
  go_wp2_with fail
  go_at_call 28
  refine (unhide HC).mono ?_
  rintro e V6 ⟨rfl, z6, a6⟩
  obtain ⟨ep6, ec6, hs6, z6⟩ := z6
  have D6 := hide (z6.dk.av (Bv := fun _ => False) (fun g hg => hg.elim))
  have A6 := hide ((unhide A5).trans a6)
  clear z6 a6 HC
  have CC := hide (acrash_calls (unhide D6) none 0 0 [] rfl ⟨by simp, by simp⟩ (fun b off e => by cases e))
  try dsimp only at CC
  rw [show crashS [] 0 lv4 = lv5 from rfl] at CC
  try dsimp only
  rw [show ((0 : Nat) : Int) = 0 from rfl]
  go_wp2_with fail
  go_at_call 32
  refine (unhide CC).mono ?_
  rintro e V7 ⟨rfl, d7, a7⟩
  have A7 := hide ((unhide A6).trans a7)
  have OC := hide (open_calls d7 (unhide TT _ (unhide A7)) (by omega))
  rw [lv6_is] at OC
  clear d7 a7 CC
  go_wp2_with fail
  go_at_call 25
  refine (unhide OC).mono ?_
  rintro e V8 ⟨a8, L8, ep8, ec8, hs8, rfl, z8, _⟩
  have A8 := hide ((unhide A7).trans a8)
  have Z8 := hide z8
  clear a8 z8 OC
  have TC := hide (wterm_calls (unhide Z8) 1 (by omega))
  try dsimp only at TC
  rw [lvTerm] at TC
  go_wp2_with fail
  go_at_call 19
  refine (unhide TC).mono ?_
  rintro e V9 ⟨rfl, v9⟩
  have Z9 := hide ((unhide Z8).later v9)
  have A9 := hide ((unhide A8).trans (((unhide Z8).asdB v9).sub (Bv := fun _ => False) (fun g hg => hg.elim)))
  clear v9 TC
  have LC := hide (show Calls Tryz.prog 39 #[.pointer (some ⟨L8, 0, none⟩)] V9 fun e w' => e = .returned (.int .i64 1) ∧ Below V9.heap.size V9 w' from wlast_calls (unhide Z9))
  have HC := hide (show ∀ W, Below V9.heap.size V9 W → Calls Tryz.prog 40 #[.pointer (some ⟨L8, 0, none⟩)] W fun e w' => e = .returned (.agg #[.int .i64 0, .int .i64 0]) ∧ Below W.heap.size W w' from fun W u => whard_calls ((unhide Z9).later u))
  have FC := hide (fun (W : World) (u : Below V9.heap.size V9 W) => file_calls ((unhide Z9).later u))
  rw [wal1_is] at FC
  try dsimp only
  go_wp2_with fail
  go_at_call 39
  refine (unhide LC).mono ?_
  rintro e Va ⟨rfl, va⟩
  have Ba := hide va
  clear va LC
  go_wp2_with fail
  go_at_call 40
  refine (unhide HC _ (unhide Ba)).mono ?_
  rintro e Vb ⟨rfl, vb⟩
  have Bb := hide ((unhide Ba).trans (vb.mono (unhide Ba).size))
  clear vb HC
  go_wp2_with fail
  go_at_call 34
  refine (unhide FC _ (unhide Bb)).mono ?_
  rintro e Vc ⟨rfl, vc⟩
  have Bc := hide ((unhide Bb).trans (vc.mono (unhide Bb).size))
  have FE := hide ((unhide A9).bel.trans ((unhide Bc).mono (unhide A9).bel.size))
  clear vc FC
  go_wp2
  go_ret
  exact ⟨rfl, unhide FE⟩
end Go.Proofs.YtijcpmbfhfppmaaGreatDoor
