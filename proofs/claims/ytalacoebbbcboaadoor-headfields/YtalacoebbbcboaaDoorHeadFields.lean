/- MaxFields fields may be, one more is ErrLimit, and each is told in its place: tollgatelaw09.HeadFields answers true, however many there are. No condition. The tables of the library's are as the card ties them (lz_of). -/
import Derived.Test.YtalacoebbbcboaaDoorHdi
import Derived.Test.YtalacoebbbcboaaDoorHdj
import Derived.Test.YtalacoebbbcboaaDoorHld
import Derived.Test.YtalacoebbbcboaaDoorArg
import Derived.Test.YtalacoebbbcboaaDoorTie
import Derived.Test.YtalacoebbbcboaaDoorCards
import Derived.Lay
import Derived.MakeChecks
import Derived.SevenTiedAt
import Derived.Stop.Joined
namespace Go.Proofs.YtalacoebbbcboaaDoor.headFields
open Go.ChangeShapes Go.WideShapes Go.ChangeAt Go.RowKit
set_option linter.unusedVariables false

theorem own : ownKnob Tryd.prog.godebug = none := by kernel_rfl
theorem laidOut : laidOutB Tryd.prog = true := by kernel_rfl

theorem u8_nat {n : Int} (h : (Lit.int .u8 n).wf = true) : ∃ m : Nat, n = (m : Int) ∧ m < 256 := by
  have := bounds_u8 h
  exact ⟨n.toNat, by omega, by omega⟩
theorem let_nat (j : Nat) : (letN j).toNat = 65 + j % 26 := by unfold letN; simp; omega
theorem many_next (j : Nat) : stS (manyX j) ++ (((⟨#[120, 58, 32]⟩ : ByteArray) ++ stS [letN j]) ++ (⟨#[13, 10]⟩ : ByteArray)) = stS (manyX (j + 1)) := by
  rw [← stS_self (stS (manyX j) ++ _)]
  congr 1
theorem str_let (j : Nat) : strOf [65 + j % 26] = stS [letN j] := rfl
set_option maxRecDepth 20000 in
set_option maxHeartbeats 8000000 in
theorem walk (n : Nat) (w : World) (hn : n < 256) (hLz : Lz w) : Calls Tryd.prog 11 #[.int .u8 (n : Int)] w fun e w' => e = .returned (.bool true) ∧ Below w.heap.size w w' := by
  have HZ := hide hLz
  clear hLz
  have hw : IntKind.i64.wrap (n : Int) = (n : Int) := by rw [IntKind.wrap_i64]; omega
  have hr : (n : Int).tmod 40 = ((n % 40 : Nat) : Int) := by rw [Int.tmod_eq_emod_of_nonneg (by omega)]; omega
  obtain ⟨k, hk⟩ : ∃ k, n % 40 = k := ⟨_, rfl⟩
  have hk2 : k < 40 := by omega
  rw [hk] at hr
  clear hk
  go_enter Tryd.func11, Tryd.ntmps11
  go_wp2_with fail
  go_loopw [4, 5] (fun s i wr => ∃ j : Nat, s = .string (stS (manyX j)) ∧ i = .int .i64 (j : Int) ∧ j ≤ k ∧ Hid (Below w.heap.size w wr)) (fun _ i _ => k - (intOf i).toNat)
  case atStart => exact ⟨0, rfl, rfl, by omega, hide (Below.refl _ _)⟩
  case round =>
    obtain ⟨j, rfl, rfl, hj, B⟩ := hrel
    have hml := many_len j
    have hz0 : (stS (manyX j)).size = 25 + 6 * j := by rw [stS_size, hml]
    by_cases hjk : j < k
    · have q1 : (j : Int) < (k : Int) := by omega
      have q2 : IntKind.i64.wrap ((j : Int) + 1) = ((j + 1 : Nat) : Int) := by rw [IntKind.wrap_i64]; omega
      have q3 : (j : Int).tmod 26 = ((j % 26 : Nat) : Int) := by rw [Int.tmod_eq_emod_of_nonneg (by omega)]; omega
      have q4 : IntKind.i64.wrap (65 + ((j % 26 : Nat) : Int)) = ((65 + j % 26 : Nat) : Int) := by rw [IntKind.wrap_i64]; omega
      have q5 : IntKind.u8.wrap ((65 + j % 26 : Nat) : Int) = ((65 + j % 26 : Nat) : Int) := by rw [IntKind.wrap_u8']; omega
      obtain ⟨x, hx⟩ : ∃ x, 65 + j % 26 = x := ⟨_, rfl⟩
      obtain ⟨y, hy⟩ : ∃ y, j % 26 = y := ⟨_, rfl⟩
      have hst := run_string8 (w := wr.alloc (.cells #[.int .u8 (x : Int)] 5)) (a := some ⟨wr.heap.size, 0, none⟩) 1 1 (l := [x]) rfl (bytesAt_block (l := [x]) (heap_new _ _) (fun c hc => by rw [List.mem_singleton.1 hc]; omega))
      rw [show strOf [x] = stS [letN j] by rw [← hx]; rfl] at hst
      have B2 := hide ((unhide B).alloc (unhide B).size (.cells #[.int .u8 (x : Int)] 5))
      have hnx := many_next j
      have hz1 : (stS [letN j]).size = 1 := rfl
      have hz2 : ((⟨#[120, 58, 32]⟩ : ByteArray) ++ stS [letN j]).size = 4 := by rw [ByteArray.size_append]; rfl
      have hz3 : (((⟨#[120, 58, 32]⟩ : ByteArray) ++ stS [letN j]) ++ (⟨#[13, 10]⟩ : ByteArray)).size = 6 := by rw [ByteArray.size_append, hz2]; rfl
      rw [hx] at q4 q5
      rw [hy] at q3 q4
      clear hx hy
      go_wp2_with fail
      go_roundw
      case rel => exact ⟨j + 1, by first | rfl | (rw [hnx]), by first | rfl | (rw [q2]), by omega, B2⟩
      case measure => simp [intOf]; omega
    · have hjk2 : j = k := by omega
      subst hjk2
      have q1 : ¬ (j : Int) < (j : Int) := by omega
      have hz1 : (⟨#[13, 10]⟩ : ByteArray).size = 2 := rfl
      have hz2 : (stS (manyX j) ++ (⟨#[13, 10]⟩ : ByteArray)).size = 27 + 6 * j := by rw [ByteArray.size_append, hz0]; show 25 + 6 * j + 2 = _; omega
      have hsS : (stS (manyX j) ++ (⟨#[13, 10]⟩ : ByteArray)).data.toList = manyX j ++ crlf := by simp [stS, crlf]
      obtain ⟨c, W7, hcv, hc7, hb7, hB7⟩ := conv_bytes wr (stS (manyX j) ++ (⟨#[13, 10]⟩ : ByteArray))
      have PC := hide (parseB_calls w W7 _ wr.heap.size c hc7 hb7 ((unhide HZ).later ((unhide B).trans (hB7.mono (unhide B).size))))
      have B7 := hide ((unhide B).trans (hB7.mono (unhide B).size))
      rw [hsS, hz2] at PC
      have LV := hide (show ∀ U, Below w.heap.size w U → Calls Tryd.prog 15 #[] U fun e w' => e = .returned (.bool true) ∧ Below U.heap.size U w' from fun U hb => live9_calls U ((unhide HZ).later hb))
      have q2 : IntKind.i64.wrap ((j : Int) + 1) = (j : Int) + 1 := by rw [IntKind.wrap_i64]; omega
      clear hb7 hB7 hsS
      by_cases hbig : 32 < j + 1
      · have PB := hide (show Calls Tryd.prog 13 #[.slice (some ⟨wr.heap.size, 0, none⟩) (27 + 6 * j) c] W7 fun e w' => e = .returned (.tuple #[.agg #[.string ⟨#[]⟩, .string ⟨#[]⟩, .string ⟨#[]⟩, .string ⟨#[]⟩, .slice none 0 0], .int .i64 0, .int .i64 6]) ∧ Below W7.heap.size W7 w' from (unhide PC).mono fun e w' h => by
          obtain ⟨h1, h2⟩ := h
          unfold ParseRes at h1; rw [many_parse j hk2, wantX, if_pos hbig] at h1
          exact ⟨h1, h2⟩)
        have hl1 : (32 : Int) < (j : Int) + 1 := by omega
        clear PC
        go_wp2_with (first
          | (go_at_call 13; refine (unhide PB).mono ?_; rintro e W8 ⟨rfl, hb8⟩; have B8 := hide (unhide (chain B7 hb8)); have B9 := hide ((unhide B8).alloc (unhide B8).size (.cells #[.string ⟨#[]⟩, .string ⟨#[]⟩, .string ⟨#[]⟩, .string ⟨#[]⟩, .slice none 0 0] 25)))
          | (go_at_call 15; refine (unhide LV _ (unhide B9)).mono ?_; rintro e W10 ⟨rfl, hb10⟩; have B10 := chain B9 hb10))
        go_ret
        exact ⟨rfl, unhide B10⟩
      · have PB := hide (show Calls Tryd.prog 13 #[.slice (some ⟨wr.heap.size, 0, none⟩) (27 + 6 * j) c] W7 fun e w' => (∃ sp cc, e = .returned (.tuple #[.agg #[.string (stS [71, 69, 84]), .string (stS [47]), .string (stS []), .string (stS [97]), .slice sp (j + 1) cc], .int .i64 ((27 + 6 * j : Nat) : Int), .int .i64 0]) ∧ FdsAt w' sp (fdsX j)) ∧ Below W7.heap.size W7 w' from (unhide PC).mono fun e w' h => by
          obtain ⟨h1, h2⟩ := h
          unfold ParseRes at h1; rw [many_parse j hk2, wantX, if_neg hbig] at h1
          obtain ⟨sp, cc, h3, h4, _⟩ := h1
          have hl : (fdsX j).length = j + 1 := by simp [fdsX]
          simp only [hl] at h3
          exact ⟨⟨sp, cc, h3, h4⟩, h2⟩)
        have hl1 : ¬ (32 : Int) < (j : Int) + 1 := by omega
        have hl2 : IntKind.i64.wrap (25 + 6 * (j : Int) + 2) = 27 + 6 * (j : Int) := by rw [IntKind.wrap_i64]; omega
        clear PC
        go_wp2_with (first
          | (go_at_call 13; refine (unhide PB).mono ?_; rintro e W8 ⟨⟨sp, cc, rfl, hfd⟩, hb8⟩
             have hfd0 := hfd 0 (by simp [fdsX])
             obtain ⟨b, off, rfl, _, _⟩ := hfd0
             have B8 := hide (unhide (chain B7 hb8))
             have B9 := hide ((unhide B8).alloc (unhide B8).size (.cells #[.string (stS [71, 69, 84]), .string (stS [47]), .string (stS []), .string (stS [97]), .slice (some ⟨b, off, none⟩) (j + 1) cc] 25))
             have N9 := hide (heap_new W8 (.cells #[.string (stS [71, 69, 84]), .string (stS [47]), .string (stS []), .string (stS [97]), .slice (some ⟨b, off, none⟩) (j + 1) cc] 25))
             have F9 := hide (hfd.later ((Below.refl _ _).alloc (Nat.le_refl _) (.cells #[.string (stS [71, 69, 84]), .string (stS [47]), .string (stS []), .string (stS [97]), .slice (some ⟨b, off, none⟩) (j + 1) cc] 25)))
             have c9 := box_cell (unhide N9) 4 (.slice (some ⟨b, off, none⟩) (j + 1) cc) rfl
             clear hfd hb8))
        generalize hH : W8.heap.size = H at *
        generalize W8.alloc (.cells #[.string (stS [71, 69, 84]), .string (stS [47]), .string (stS []), .string (stS [97]), .slice (some ⟨b, off, none⟩) (j + 1) cc] 25) = W9 at *
        go_loopw [9] (fun v wr => ∃ i : Nat, v = .int .i64 (i : Int) ∧ i ≤ j ∧ Hid (Below W9.heap.size W9 wr)) (fun v _ => j - (intOf v).toNat)
        case atStart => exact ⟨0, rfl, by omega, hide (Below.refl _ _)⟩
        case round =>
          obtain ⟨i, rfl, hij, G⟩ := hrel
          by_cases hi : i < j
          · have y1 : (i : Int) < (j : Int) := by omega
            have y2 : IntKind.i64.wrap ((i : Int) + 1) = (i : Int) + 1 := by rw [IntKind.wrap_i64]; omega
            have y3 : (0 : Int) ≤ (i : Int) + 1 := by omega
            have y4 : (i : Int) + 1 < (j : Int) + 1 := by omega
            have y5 : ((i : Int) + 1).toNat = i + 1 := by omega
            have q3 : (i : Int).tmod 26 = ((i % 26 : Nat) : Int) := by rw [Int.tmod_eq_emod_of_nonneg (by omega)]; omega
            have q4 : IntKind.i64.wrap (65 + ((i % 26 : Nat) : Int)) = ((65 + i % 26 : Nat) : Int) := by rw [IntKind.wrap_i64]; omega
            have q5 : IntKind.u8.wrap ((65 + i % 26 : Nat) : Int) = ((65 + i % 26 : Nat) : Int) := by rw [IntKind.wrap_u8']; omega
            have hlen : i + 1 < (fdsX j).length := by simp [fdsX]; omega
            obtain ⟨b', off', e', p0, p1⟩ := unhide F9 (i + 1) hlen
            simp only [Option.some.injEq, Addr.mk.injEq, and_true] at e'
            obtain ⟨rfl, rfl⟩ := e'
            have hf : (fdsX j)[i + 1] = ⟨[120], [letN i]⟩ := by simp [fdsX]
            rw [hf] at p0 p1
            have k0 := cell_later (unhide G) c9
            have k1 := cell_later (unhide G) p0
            have k2 := cell_later (unhide G) p1
            simp only at k1 k2
            obtain ⟨x, hx⟩ : ∃ x, 65 + i % 26 = x := ⟨_, rfl⟩
            obtain ⟨y, hy⟩ : ∃ y, i % 26 = y := ⟨_, rfl⟩
            have hst := run_string8 (w := wr.alloc (.cells #[.int .u8 (x : Int)] 5)) (a := some ⟨wr.heap.size, 0, none⟩) 1 1 (l := [x]) rfl (bytesAt_block (l := [x]) (heap_new _ _) (fun c hc => by rw [List.mem_singleton.1 hc]; omega))
            rw [show strOf [x] = stS [letN i] by rw [← hx]; rfl] at hst
            have HST := hide (show (convert 22 9 (.slice (some ⟨wr.heap.size, 0, none⟩) 1 1)).run Tryd.prog (wr.alloc (.cells #[.int .u8 (x : Int)] 5)).drew = .ok (.string (stS [letN i])) (wr.alloc (.cells #[.int .u8 (x : Int)] 5)).drew from run_string8 (w := (wr.alloc (.cells #[.int .u8 (x : Int)] 5)).drew) (a := some ⟨wr.heap.size, 0, none⟩) 1 1 (l := [x]) rfl (bytesAt_block (l := [x]) (heap_new wr (.cells #[.int .u8 (x : Int)] 5)) (fun c hc => by rw [List.mem_singleton.1 hc]; omega)) |>.trans (by rw [show strOf [x] = stS [letN i] by rw [← hx]; rfl]))
            have bl : Below wr.heap.size wr (wr.alloc (.cells #[.int .u8 (x : Int)] 5)) := (Below.refl _ _).alloc (Nat.le_refl _) _
            have G2 := hide ((unhide G).trans (bl.mono (unhide G).size)).drew
            have e0 := cell_later bl k0
            have e1 := cell_later bl k1
            have e2 := cell_later bl k2
            have hz5 : (stS [120]).size = 1 := rfl
            have hz6 : (stS [letN i]).size = 1 := rfl
            have hn1 : ((stS [120]).toList == [120]) = true := by rw [ByteArray.toList_eq]; rfl
            rw [hx] at q4 q5
            rw [hy] at q3 q4
            clear hx hy hst p0 p1 hf hlen bl
            go_wp2_with fail
            refine wp_region_held_drew (S := fun w' => w'.cell? ⟨H, 4, none⟩ = some (.slice (some ⟨b, off, none⟩) (j + 1) cc) ∧ w'.cell? ⟨b, off + (i + 1) * 2, none⟩ = some (.string (stS [120])) ∧ w'.cell? ⟨b, off + (i + 1) * 2 + 1, none⟩ = some (.string (stS [letN i]))) (by kernel_rfl) ?_ (fun hHeld => ?_)
            · try dsimp only
              first | (have hV := M20; clear hV; exact ⟨e0, e1, e2⟩) | exact ⟨k0, k1, k2⟩
            refine held_take 0 (oi := { dst := some 70, op := Op.fieldAddr 25 (Operand.tmp 6) 4, type := 0, pos := "law.go:187", after := #[], guard := none }) (v := ?_) (by kernel_rfl) rfl (by rfl) (by kernel_rfl) (by kernel_rfl) (fun _ _ _ h => h) ?_ (by assumption) ?_
            rotate_left
            · (intro w hSw; (try dsimp only at hSw); go_simp; try with_reducible rfl)
            try simp only [Act.put, List.setIfInBounds_toArray, List.set_cons_zero, List.set_cons_succ]
            refine held_take 1 (oi := { dst := some 71, op := Op.load 23 (Operand.tmp 70), type := 23, pos := "law.go:187", after := #[{ on := 0, ground := Ground.data }], guard := none }) (v := ?_) (by kernel_rfl) rfl (by rfl) (by kernel_rfl) (by kernel_rfl) (fun _ _ _ h => h) ?_ (by assumption) ?_
            rotate_left
            · (intro w hSw; (try dsimp only at hSw); go_simp; try with_reducible rfl)
            try simp only [Act.put, List.setIfInBounds_toArray, List.set_cons_zero, List.set_cons_succ]
            refine held_take 2 (oi := { dst := some 72, op := Op.move (Operand.tmp 9), type := 3, pos := "law.go:187", after := #[], guard := none }) (v := ?_) (by kernel_rfl) rfl (by rfl) (by kernel_rfl) (by kernel_rfl) (fun _ _ _ h => h) ?_ (by assumption) ?_
            rotate_left
            · (intro w hSw; (try dsimp only at hSw); go_simp; try with_reducible rfl)
            try simp only [Act.put, List.setIfInBounds_toArray, List.set_cons_zero, List.set_cons_succ]
            refine held_take 3 (oi := { dst := some 73, op := Op.binOp BinOp.add 3 (Operand.tmp 72) (Operand.const (Value.int IntKind.i64 1)) 3, type := 3, pos := "law.go:187", after := #[{ on := 2, ground := Ground.data }], guard := none }) (v := ?_) (by kernel_rfl) rfl (by rfl) (by kernel_rfl) (by kernel_rfl) (fun _ _ _ h => h) ?_ (by assumption) ?_
            rotate_left
            · (intro w hSw; (try dsimp only at hSw); go_simp; try with_reducible rfl)
            try simp only [Act.put, List.setIfInBounds_toArray, List.set_cons_zero, List.set_cons_succ]
            refine held_take 4 (oi := { dst := some 74, op := Op.indexAddr 23 (Operand.tmp 71) (Operand.tmp 73), type := 0, pos := "law.go:187", after := #[{ on := 1, ground := Ground.data }, { on := 3, ground := Ground.data }], guard := none }) (v := ?_) (by kernel_rfl) rfl (by rfl) (by kernel_rfl) (by kernel_rfl) (fun _ _ _ h => h) ?_ (by assumption) ?_
            rotate_left
            · (intro w hSw; (try dsimp only at hSw); go_simp; try with_reducible rfl)
            try simp only [Act.put, List.setIfInBounds_toArray, List.set_cons_zero, List.set_cons_succ]
            refine held_take 5 (oi := { dst := some 75, op := Op.fieldAddr 43 (Operand.tmp 74) 0, type := 0, pos := "law.go:187", after := #[{ on := 4, ground := Ground.data }], guard := none }) (v := ?_) (by kernel_rfl) rfl (by rfl) (by kernel_rfl) (by kernel_rfl) (fun _ _ _ h => h) ?_ (by assumption) ?_
            rotate_left
            · (intro w hSw; (try dsimp only at hSw); go_simp; try with_reducible rfl)
            try simp only [Act.put, List.setIfInBounds_toArray, List.set_cons_zero, List.set_cons_succ]
            refine held_take 6 (oi := { dst := some 76, op := Op.load 9 (Operand.tmp 75), type := 9, pos := "law.go:187", after := #[{ on := 5, ground := Ground.data }], guard := none }) (v := ?_) (by kernel_rfl) rfl (by rfl) (by kernel_rfl) (by kernel_rfl) (fun _ _ _ h => h) ?_ (by assumption) ?_
            rotate_left
            · (intro w hSw; (try dsimp only at hSw); go_simp; try with_reducible rfl)
            try simp only [Act.put, List.setIfInBounds_toArray, List.set_cons_zero, List.set_cons_succ]
            refine held_take 7 (oi := { dst := some 77, op := Op.binOp BinOp.neq 9 (Operand.tmp 76) (Operand.const (Value.string { data := #[120] })) 9, type := 4, pos := "law.go:187", after := #[{ on := 6, ground := Ground.data }], guard := none }) (v := ?_) (by kernel_rfl) rfl (by rfl) (by kernel_rfl) (by kernel_rfl) (fun _ _ _ h => h) ?_ (by assumption) ?_
            rotate_left
            · (intro w hSw; (try dsimp only at hSw); go_simp; try with_reducible rfl)
            try simp only [Act.put, List.setIfInBounds_toArray, List.set_cons_zero, List.set_cons_succ]
            refine held_take 8 (oi := { dst := some 78, op := Op.move (Operand.tmp 77), type := 4, pos := "law.go:187", after := #[{ on := 7, ground := Ground.data }], guard := none }) (v := ?_) (by kernel_rfl) rfl (by rfl) (by kernel_rfl) (by kernel_rfl) (fun _ _ _ h => h) ?_ (by assumption) ?_
            rotate_left
            · (intro w hSw; (try dsimp only at hSw); go_simp; try with_reducible rfl)
            try simp only [Act.put, List.setIfInBounds_toArray, List.set_cons_zero, List.set_cons_succ]
            refine held_take 9 (oi := { dst := some 79, op := Op.fieldAddr 25 (Operand.tmp 6) 4, type := 0, pos := "law.go:187", after := #[{ on := 8, ground := Ground.guard }], guard := some (8, false) }) (v := ?_) (by kernel_rfl) rfl (by rfl) (by kernel_rfl) (by kernel_rfl) (fun _ _ _ h => h) ?_ (by assumption) ?_
            rotate_left
            · (intro w hSw; (try dsimp only at hSw); go_simp; try with_reducible rfl)
            try simp only [Act.put, List.setIfInBounds_toArray, List.set_cons_zero, List.set_cons_succ]
            refine held_take 10 (oi := { dst := some 80, op := Op.load 23 (Operand.tmp 79), type := 23, pos := "law.go:187", after := #[{ on := 9, ground := Ground.data }, { on := 8, ground := Ground.guard }], guard := some (8, false) }) (v := ?_) (by kernel_rfl) rfl (by rfl) (by kernel_rfl) (by kernel_rfl) (fun _ _ _ h => h) ?_ (by assumption) ?_
            rotate_left
            · (intro w hSw; (try dsimp only at hSw); go_simp; try with_reducible rfl)
            try simp only [Act.put, List.setIfInBounds_toArray, List.set_cons_zero, List.set_cons_succ]
            refine held_take 11 (oi := { dst := some 81, op := Op.move (Operand.tmp 9), type := 3, pos := "law.go:187", after := #[{ on := 8, ground := Ground.guard }], guard := some (8, false) }) (v := ?_) (by kernel_rfl) rfl (by rfl) (by kernel_rfl) (by kernel_rfl) (fun _ _ _ h => h) ?_ (by assumption) ?_
            rotate_left
            · (intro w hSw; (try dsimp only at hSw); go_simp; try with_reducible rfl)
            try simp only [Act.put, List.setIfInBounds_toArray, List.set_cons_zero, List.set_cons_succ]
            refine held_take 12 (oi := { dst := some 82, op := Op.binOp BinOp.add 3 (Operand.tmp 81) (Operand.const (Value.int IntKind.i64 1)) 3, type := 3, pos := "law.go:187", after := #[{ on := 11, ground := Ground.data }, { on := 8, ground := Ground.guard }], guard := some (8, false) }) (v := ?_) (by kernel_rfl) rfl (by rfl) (by kernel_rfl) (by kernel_rfl) (fun _ _ _ h => h) ?_ (by assumption) ?_
            rotate_left
            · (intro w hSw; (try dsimp only at hSw); go_simp; try with_reducible rfl)
            try simp only [Act.put, List.setIfInBounds_toArray, List.set_cons_zero, List.set_cons_succ]
            refine held_take 13 (oi := { dst := some 83, op := Op.indexAddr 23 (Operand.tmp 80) (Operand.tmp 82), type := 0, pos := "law.go:187", after := #[{ on := 10, ground := Ground.data }, { on := 12, ground := Ground.data }, { on := 8, ground := Ground.guard }], guard := some (8, false) }) (v := ?_) (by kernel_rfl) rfl (by rfl) (by kernel_rfl) (by kernel_rfl) (fun _ _ _ h => h) ?_ (by assumption) ?_
            rotate_left
            · (intro w hSw; (try dsimp only at hSw); go_simp; try with_reducible rfl)
            try simp only [Act.put, List.setIfInBounds_toArray, List.set_cons_zero, List.set_cons_succ]
            refine held_take 14 (oi := { dst := some 84, op := Op.fieldAddr 43 (Operand.tmp 83) 1, type := 0, pos := "law.go:187", after := #[{ on := 13, ground := Ground.data }, { on := 8, ground := Ground.guard }], guard := some (8, false) }) (v := ?_) (by kernel_rfl) rfl (by rfl) (by kernel_rfl) (by kernel_rfl) (fun _ _ _ h => h) ?_ (by assumption) ?_
            rotate_left
            · (intro w hSw; (try dsimp only at hSw); go_simp; try with_reducible rfl)
            try simp only [Act.put, List.setIfInBounds_toArray, List.set_cons_zero, List.set_cons_succ]
            refine held_take 15 (oi := { dst := some 85, op := Op.load 9 (Operand.tmp 84), type := 9, pos := "law.go:187", after := #[{ on := 14, ground := Ground.data }, { on := 8, ground := Ground.guard }], guard := some (8, false) }) (v := ?_) (by kernel_rfl) rfl (by rfl) (by kernel_rfl) (by kernel_rfl) (fun _ _ _ h => h) ?_ (by assumption) ?_
            rotate_left
            · (intro w hSw; (try dsimp only at hSw); go_simp; try with_reducible rfl)
            try simp only [Act.put, List.setIfInBounds_toArray, List.set_cons_zero, List.set_cons_succ]
            refine held_take 16 (oi := { dst := some 86, op := Op.move (Operand.tmp 9), type := 3, pos := "law.go:187", after := #[{ on := 8, ground := Ground.guard }], guard := some (8, false) }) (v := ?_) (by kernel_rfl) rfl (by rfl) (by kernel_rfl) (by kernel_rfl) (fun _ _ _ h => h) ?_ (by assumption) ?_
            rotate_left
            · (intro w hSw; (try dsimp only at hSw); go_simp; try with_reducible rfl)
            try simp only [Act.put, List.setIfInBounds_toArray, List.set_cons_zero, List.set_cons_succ]
            refine held_take 17 (oi := { dst := some 87, op := Op.binOp BinOp.rem 3 (Operand.tmp 86) (Operand.const (Value.int IntKind.i64 26)) 3, type := 3, pos := "law.go:187", after := #[{ on := 16, ground := Ground.data }, { on := 8, ground := Ground.guard }], guard := some (8, false) }) (v := ?_) (by kernel_rfl) rfl (by rfl) (by kernel_rfl) (by kernel_rfl) (fun _ _ _ h => h) ?_ (by assumption) ?_
            rotate_left
            · (intro w hSw; (try dsimp only at hSw); go_simp; try with_reducible rfl)
            try simp only [Act.put, List.setIfInBounds_toArray, List.set_cons_zero, List.set_cons_succ]
            refine held_take 18 (oi := { dst := some 88, op := Op.binOp BinOp.add 3 (Operand.const (Value.int IntKind.i64 65)) (Operand.tmp 87) 3, type := 3, pos := "law.go:187", after := #[{ on := 17, ground := Ground.data }, { on := 8, ground := Ground.guard }], guard := some (8, false) }) (v := ?_) (by kernel_rfl) rfl (by rfl) (by kernel_rfl) (by kernel_rfl) (fun _ _ _ h => h) ?_ (by assumption) ?_
            rotate_left
            · (intro w hSw; (try dsimp only at hSw); go_simp; try with_reducible rfl)
            try simp only [Act.put, List.setIfInBounds_toArray, List.set_cons_zero, List.set_cons_succ]
            refine held_take 19 (oi := { dst := some 89, op := Op.convert 3 5 (Operand.tmp 88), type := 5, pos := "law.go:187", after := #[{ on := 18, ground := Ground.data }, { on := 8, ground := Ground.guard }], guard := some (8, false) }) (v := ?_) (by kernel_rfl) rfl (by rfl) (by kernel_rfl) (by kernel_rfl) (fun _ _ _ h => h) ?_ (by assumption) ?_
            rotate_left
            · (intro w hSw; (try dsimp only at hSw); go_simp; try with_reducible rfl)
            try simp only [Act.put, List.setIfInBounds_toArray, List.set_cons_zero, List.set_cons_succ]
            refine wpAnyH_ready (rs := [20]) (by kernel_rfl) (by simp) ?_
            refine AllReadyH.cons (o := { dst := some 90, op := Op.buildSlice 22 1 #[(0, Operand.tmp 89)], type := 22, pos := "law.go:187", after := #[{ on := 19, ground := Ground.data }, { on := 8, ground := Ground.guard }], guard := some (8, false) }) rfl (fun K hK => ?_) ?_
            · go_simp
              go_wp2_with fail
              have M20 : True := trivial
              refine hK.out _ _ ?_ (fun hHeld => ?_)
              · try dsimp only
                first | (have hV := M20; clear hV; exact ⟨e0, e1, e2⟩) | exact ⟨k0, k1, k2⟩
              clear hK K
              try simp only [Act.put, List.setIfInBounds_toArray, List.set_cons_zero, List.set_cons_succ]
              refine wpAnyH_ready (rs := [21]) (by kernel_rfl) (by simp) ?_
              refine AllReadyH.cons (o := { dst := some 91, op := Op.convert 22 9 (Operand.tmp 90), type := 9, pos := "law.go:187", after := #[{ on := 20, ground := Ground.data }, { on := 8, ground := Ground.guard }], guard := some (8, false) }) rfl (fun K hK => ?_) ?_
              · have hst2 := unhide HST
                go_simp
                clear hst2
                refine hK.out _ _ ?_ (fun hHeld => ?_)
                · try dsimp only
                  first | (have hV := M20; clear hV; exact ⟨e0, e1, e2⟩) | exact ⟨k0, k1, k2⟩
                clear hK K
                try simp only [Act.put, List.setIfInBounds_toArray, List.set_cons_zero, List.set_cons_succ]
                refine held_take 22 (oi := { dst := some 92, op := Op.binOp BinOp.neq 9 (Operand.tmp 85) (Operand.tmp 91) 9, type := 4, pos := "law.go:187", after := #[{ on := 15, ground := Ground.data }, { on := 21, ground := Ground.data }, { on := 8, ground := Ground.guard }], guard := some (8, false) }) (v := ?_) (by kernel_rfl) rfl (by rfl) (by kernel_rfl) (by kernel_rfl) (fun _ _ _ h => h) ?_ (by assumption) ?_
                rotate_left
                · (intro w hSw; (try dsimp only at hSw); go_simp; try with_reducible rfl)
                try simp only [Act.put, List.setIfInBounds_toArray, List.set_cons_zero, List.set_cons_succ]
                refine held_take 23 (oi := { dst := some 93, op := Op.pick (Operand.tmp 78) (Operand.const (Value.bool true)) (Operand.tmp 92), type := 4, pos := "law.go:187", after := #[{ on := 8, ground := Ground.data }, { on := 22, ground := Ground.data }], guard := none }) (v := ?_) (by kernel_rfl) rfl (by rfl) (by kernel_rfl) (by kernel_rfl) (fun _ _ _ h => h) ?_ (by assumption) ?_
                rotate_left
                · (intro w hSw; (try dsimp only at hSw); go_simp; try with_reducible rfl)
                try simp only [Act.put, List.setIfInBounds_toArray, List.set_cons_zero, List.set_cons_succ]
                refine wpAnyH_done (by kernel_rfl) ?_ _
                go_wp2_with fail
                go_roundw
                case rel => exact ⟨i + 1, by first | rfl | (rw [y2]; rfl), by omega, G2⟩
                case measure => simp [intOf]; omega
              exact AllReadyH.nil
            exact AllReadyH.nil
          · have y1 : ¬ (i : Int) < (j : Int) := by omega
            have B11 := chain B9 (unhide G)
            go_wp2_with (first
              | (go_at_call 15; refine (unhide LV _ (unhide B11)).mono ?_; rintro e W12 ⟨rfl, hb12⟩; have B12 := chain B11 hb12))
            go_ret
            exact ⟨rfl, unhide B12⟩

set_option maxRecDepth 100000 in
theorem lifted (os : Os) (started : os.Started) (H : Type) (enc : TypeId × Value → H) :
    ReturnsInHanded {} Tryd.checked os 11 .any (fun w args => (Rows.headFieldsSpec.pre enc Tryd.prog Tryd.f11 Rows.headFieldsRow.domain false w args ∧ laidMetH Tryd.prog Rows.headFieldsRow.laid w) ∧ sizedMet enc Tryd.prog Tryd.f11 (OpenSpec.ofChange Rows.headFieldsSpec) false w args)
      (Rows.headFieldsSpec.post enc Tryd.prog Tryd.f11 false true false false) := by
  refine handed_both (C := Tryd.checked) (X := fun w _ => laidMetH Tryd.prog Rows.headFieldsRow.laid w) (fun _ _ _ hh h => h.of_heap hh) own started (by kernel_rfl) Tryd.func11
    (ChangeSpec.witness_shaped (enc := enc) (C := Tryd.checked) (os := os) (X := fun w _ => laidMetH Tryd.prog Rows.headFieldsRow.laid w) false (World.laidAll Tryd.prog os Rows.headFieldsRow.laid) #[.int .u8 0] 8 (World.laidAll_os _ _ _)
      (World.shaped_of_ZipB (by kernel_rfl) (by kernel_rfl)) (by kernel_rfl) (by kernel_rfl) (by kernel_rfl)
      (by rw [MakeChecks.laidMetH_plain _ _ _ (by kernel_rfl)]; exact laidMet_laidAll _ (by kernel_rfl) (by kernel_rfl))) ?_
  intro W base args ds gs before hval0 hW hcnd hsz hL hsh _
  have hLz : Lz W := lz_of (by rw [MakeChecks.laidMetH_plain _ _ _ (by kernel_rfl)] at hL; exact hL) hsh
  have hval : ∀ (j : Nat) t v, Tryd.f11.params[j]? = some t → args[j]? = some v → Value.okWide Tryd.prog W .any base t v := hval0
  have hW' := hW
  obtain ⟨p, q, hA0, hV, rfl, hfz, hnd⟩ := hW
  have hA : DataW.TrodAll enc Tryd.prog W 0 (fun _ => true) true Tryd.f11.params.toList args.toList ds p := hA0
  rw [Tryd.params11] at hA hval
  obtain ⟨v0, vs0, d0, ds0, p0, q0, hargs, rfl, rfl, h0, r0⟩ := trodAll_cons hA
  obtain ⟨rfl, rfl, rfl⟩ := trodAll_nil r0
  obtain rfl : args = #[v0] := by cases args; simp_all
  obtain ⟨rfl, rfl⟩ := trodVars_none hV
  obtain ⟨n0, rfl, rfl, rfl, w0⟩ := open_int Tryd.underlying5 (hval 0 5 v0 rfl rfl) h0
  obtain ⟨n0, rfl, hn0⟩ := u8_nat w0
  clear hA0 hval0
  refine (walk n0 W hn0 hLz).mono fun e W' ⟨he, bel⟩ => ?_
  subst he
  exact ⟨_, rfl, _, _, _, [], _, [], hW', trodAll_mk1 (shut_bool Tryd.underlying4 _), (trodAll_cons_mk (shut_int Tryd.underlying5 w0) trodAll_mk0), rfl, bel.frame _, fun h => by cases h⟩

theorem proved : Rows.HeadFieldsSaid :=
  OpenClaim.holds_of_wide 11 Tryd.f11 rfl rfl rfl rfl rfl rfl rfl ⟨rfl, rfl, rfl, rfl, rfl⟩ rfl rfl rfl rfl rfl (by kernel_rfl) Tryd.func11 (by kernel_rfl)
    (of_decide_eq_true (by kernel_rfl)) (by unfold Func.isWrapper; first | (rw [if_pos (by decide +kernel)]; kernel_rfl) | (rw [if_neg (by decide +kernel)]; exact ⟨rfl, rfl⟩))
    (fun os started H enc _ => lifted os started H enc)
theorem card : Rows.HeadFieldsCardSaid :=
  Claim7.holds_tied_plain_at .later [] [.data, .pinned, .pinned] true (true, "2cf869cf5398f97f81daaceca3590596dba7a7a0c92dd152567cde0423139ccb") false proved (fun _ h => by cases h) (by kernel_rfl) (fun _ h => by cases h) headFields_row_tie rfl ⟨rfl, rfl⟩ (by kernel_rfl) rfl
    (fun f fn hf hfn => by
      obtain rfl : f = 11 := Option.some.inj ((show Tryd.prog.funcNamed "tollgate/tollgatelaw09.HeadFields" = some 11 by kernel_rfl).symm.trans hf) |>.symm
      obtain rfl : fn = Tryd.f11 := (Option.some.inj (Tryd.func11.symm.trans hfn)).symm
      exact ⟨by kernel_rfl, fun j t ht => by
        rw [Tryd.params11] at ht
        have hm : t ∈ [5] := by simpa using Array.mem_of_getElem? ht
        have hall : ([5].all fun u => !Tryd.prog.wantsStandIn u) = true := by kernel_rfl
        exact (show Tryd.prog.wantsStandIn t = false by simpa using List.all_eq_true.1 hall t hm)⟩)
    (by kernel_rfl)
end Go.Proofs.YtalacoebbbcboaaDoor.headFields
namespace Go.Proofs.YtalacoebbbcboaaDoor
theorem headFields_holds : Rows.HeadFieldsCardSaid := headFields.card
#print axioms headFields_holds
end Go.Proofs.YtalacoebbbcboaaDoor
