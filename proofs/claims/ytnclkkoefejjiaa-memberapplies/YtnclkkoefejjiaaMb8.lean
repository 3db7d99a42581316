/- Member: what must be whatever is asked. -/
import Derived.Test.YtnclkkoefejjiaaMb7
namespace Go.Proofs.Ytnclkkoefejjiaa
open Go.ChangeShapes Go.WideShapes Go.ChangeAt Go.RowKit Go.Maps

theorem ints_block {w : World} {g : Nat} {l : List Int} {T : TypeId} {fr : Nat × Nat} (h : w.heap[g]? = some (.cells (l.map (Value.int .i64)).toArray T fr)) (hl : ∀ n ∈ l, -9223372036854775808 ≤ n ∧ n ≤ 9223372036854775807) : IntsAt w (some ⟨g, 0, none⟩) l :=
  ⟨hl, fun i hi => ⟨g, 0, rfl, by rw [cell_of_row _ _ _ _ _ _ h]; simp [hi]⟩⟩
theorem ints_nil (w : World) (a : Option Addr) : IntsAt w a [] := ⟨by simp, by simp⟩
set_option maxRecDepth 20000 in
set_option maxHeartbeats 4000000 in
theorem live3_calls (w : World) : Calls Try.prog 16 #[] w fun e w' => e = .returned (.bool true) ∧ Below w.heap.size w w' := by
  have V := hide (ints_block (l := [1, 2, 3]) (heap_old (mB (some ⟨w.heap.size, 0, none⟩) 3 3 none 0 0) (heap_new w (.cells #[.int .i64 1, .int .i64 2, .int .i64 3] 3))) (by decide))
  have b1 := hide (show Below w.heap.size w ((w.alloc (.cells #[.int .i64 1, .int .i64 2, .int .i64 3] 3)).alloc (mB (some ⟨w.heap.size, 0, none⟩) 3 3 none 0 0)) from ((Below.refl _ _).alloc (Nat.le_refl _) _).alloc (by simp) _)
  have X1 := hide (show ((w.alloc (.cells #[.int .i64 1, .int .i64 2, .int .i64 3] 3)).alloc (mB (some ⟨w.heap.size, 0, none⟩) 3 3 none 0 0)).heap[w.heap.size + 1]? = some (mB (some ⟨w.heap.size, 0, none⟩) 3 3 none 0 0) by
    have := heap_new (w.alloc (.cells #[.int .i64 1, .int .i64 2, .int .i64 3] 3)) (mB (some ⟨w.heap.size, 0, none⟩) 3 3 none 0 0)
    rwa [World.size_alloc] at this)
  go_enter Try.func16, Try.ntmps16
  go_wp2_with fail
  generalize hD : w.heap.size = D at *
  generalize (w.alloc (.cells #[.int .i64 1, .int .i64 2, .int .i64 3] 3)).alloc (mB (some ⟨D, 0, none⟩) 3 3 none 0 0) = w1 at *
  refine (mput_yes (unhide V) (ints_nil _ _) 3 0 rfl rfl (by decide) (by decide) (by decide)).mono ?_
  rintro e w2 ⟨sp, n, c, rfl, hn, ho, b2⟩
  have O2 := hide ho
  have N2 := hide (show [3, 1, 2, 3, 0].length = n from unhide hn)
  have V2 := hide ((unhide V).later b2)
  have X2 := hide (later_block b2 (unhide X1))
  have B2 := hide ((unhide b1).trans (b2.mono (by have := (unhide b1).size; omega)))
  have c0 := box_cell (unhide X2) 0 _ rfl
  have c1 := box_cell (unhide X2) 1 _ rfl
  clear ho b2 hn V X1
  -- the first quorum
  have b3 := hide (show Below w2.heap.size w2 (w2.alloc (.cells #[.int .i64 1, .int .i64 3] 3)) from (Below.refl _ _).alloc (Nat.le_refl _) _)
  have Y3 := hide (ints_block (l := [1, 3]) (heap_new w2 (.cells #[.int .i64 1, .int .i64 3] 3)) (by decide))
  have V3 := hide ((unhide V2).later (unhide b3))
  have X3 := hide (later_block (unhide b3) (unhide X2))
  have O3 := hide ((unhide O2).later (unhide b3))
  have B3 := hide ((unhide B2).trans ((unhide b3).mono (by have := (unhide B2).size; omega)))
  clear V2 O2
  go_wp2_with fail
  generalize w2.alloc (.cells #[.int .i64 1, .int .i64 3] 3) = w3 at *
  refine (quorum_calls (unhide V3) (ints_nil _ _) (unhide Y3) 3 0 2 rfl rfl rfl (by decide) (by decide) (by decide)).mono ?_
  rintro e w4 ⟨rfl, b4⟩
  rw [show quorumM [1, 2, 3] [] [1, 3] = true by decide]
  have V4 := hide ((unhide V3).later b4)
  have X4 := hide (later_block b4 (unhide X3))
  have O4 := hide ((unhide O3).later b4)
  have B4 := hide ((unhide B3).trans (b4.mono (by have := (unhide B3).size; omega)))
  clear b4 V3 X3 O3 X2 c0 c1 Y3 b3
  have c0 := box_cell (unhide X4) 0 _ rfl
  have c1 := box_cell (unhide X4) 1 _ rfl
  have b5 := hide (show Below w4.heap.size w4 (w4.alloc (.cells #[.int .i64 1, .int .i64 4] 3)) from (Below.refl _ _).alloc (Nat.le_refl _) _)
  have Y5 := hide (ints_block (l := [1, 4]) (heap_new w4 (.cells #[.int .i64 1, .int .i64 4] 3)) (by decide))
  have V5 := hide ((unhide V4).later (unhide b5))
  have X5 := hide (later_block (unhide b5) (unhide X4))
  have O5 := hide ((unhide O4).later (unhide b5))
  have B5 := hide ((unhide B4).trans ((unhide b5).mono (by have := (unhide B4).size; omega)))
  clear V4 O4
  go_wp2_with fail
  generalize w4.alloc (.cells #[.int .i64 1, .int .i64 4] 3) = w5 at *
  refine (quorum_calls (unhide V5) (ints_nil _ _) (unhide Y5) 3 0 2 rfl rfl rfl (by decide) (by decide) (by decide)).mono ?_
  rintro e w6 ⟨rfl, b6⟩
  rw [show quorumM [1, 2, 3] [] [1, 4] = false by decide]
  have V6 := hide ((unhide V5).later b6)
  have X6 := hide (later_block b6 (unhide X5))
  have O6 := hide ((unhide O5).later b6)
  have B6 := hide ((unhide B5).trans (b6.mono (by have := (unhide B5).size; omega)))
  clear b6 V5 X5 O5 X4 c0 c1 Y5 b5
  have c0 := box_cell (unhide X6) 0 _ rfl
  have c1 := box_cell (unhide X6) 1 _ rfl
  have b7 := hide (show Below w6.heap.size w6 (w6.alloc (.cells #[.int .i64 1, .int .i64 5, .int .i64 2, .int .i64 7] 36)) from (Below.refl _ _).alloc (Nat.le_refl _) _)
  have Y7 := hide (show AtsAt (w6.alloc (.cells #[.int .i64 1, .int .i64 5, .int .i64 2, .int .i64 7] 36)) (some ⟨w6.heap.size, 0, none⟩) [(1, 5), (2, 7)] from
    ⟨by simp [In64], fun i hi => ⟨w6.heap.size, 0, rfl, by
      have h := heap_new w6 (.cells #[.int .i64 1, .int .i64 5, .int .i64 2, .int .i64 7] 36)
      have : i = 0 ∨ i = 1 := by simp at hi; omega
      rcases this with rfl | rfl
      · exact ⟨by rw [cell_of_row _ _ _ _ _ _ h]; rfl, by rw [cell_of_row _ _ _ _ _ _ h]; rfl⟩
      · exact ⟨by rw [cell_of_row _ _ _ _ _ _ h]; rfl, by rw [cell_of_row _ _ _ _ _ _ h]; rfl⟩⟩⟩)
  have V7 := hide ((unhide V6).later (unhide b7))
  have X7 := hide (later_block (unhide b7) (unhide X6))
  have O7 := hide ((unhide O6).later (unhide b7))
  have B7 := hide ((unhide B6).trans ((unhide b7).mono (by have := (unhide B6).size; omega)))
  clear V6 O6
  go_wp2_with fail
  generalize w6.alloc (.cells #[.int .i64 1, .int .i64 5, .int .i64 2, .int .i64 7] 36) = w7 at *
  refine (agreed_calls (unhide V7) (ints_nil _ _) (unhide Y7) 3 0 2 rfl rfl rfl (by decide) (by decide) (by decide)).mono ?_
  rintro e w8 ⟨rfl, b8⟩
  rw [show agreedM [1, 2, 3] [] [(1, 5), (2, 7)] = 5 by decide]
  have O8 := hide ((unhide O7).later b8)
  have B8 := hide ((unhide B7).trans (b8.mono (by have := (unhide B7).size; omega)))
  have hst := run_string8 n c (unhide N2) (unhide O8).bytes
  have hs5 : strOf [3, 1, 2, 3, 0] = { data := #[3, 1, 2, 3, 0] } := rfl
  rw [hs5] at hst
  clear b8
  go_wp2
  go_ret
  exact ⟨rfl, by rw [hD]; exact unhide B8⟩
end Go.Proofs.Ytnclkkoefejjiaa
