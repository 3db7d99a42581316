/- The document's heads: Lower, cut, trimmed, begins. -/
import Derived.Test.YtcmiappiocfbiaaGreatDoorHr1
import Derived.Test.YtcmiappiocfbiaaGreatDoorHdq
import Derived.Test.YtcmiappiocfbiaaGreatDoorHdd
namespace Go.Proofs.YtcmiappiocfbiaaGreatDoor
open Go.ChangeShapes Go.WideShapes Go.ChangeAt Go.RowKit
set_option linter.unusedVariables false

theorem lower_byte (x : UInt8) : ((Lib.lowerB x).toNat : Int) = if 65 ≤ (x.toNat : Int) ∧ (x.toNat : Int) ≤ 90 then (x.toNat : Int) + 32 else (x.toNat : Int) := by
  have h := each8 (p := fun x => decide ((Lib.lowerB x).toNat = if 65 ≤ x.toNat ∧ x.toNat ≤ 90 then x.toNat + 32 else x.toNat)) (by decide +kernel) x
  have h1 := of_decide_eq_true h
  rw [h1]
  by_cases hc : 65 ≤ x.toNat ∧ x.toNat ≤ 90
  · rw [if_pos hc, if_pos (by omega)]; omega
  · rw [if_neg hc, if_neg (by omega)]
theorem low_take (s : ByteArray) (j : Nat) (h : j < s.size) : numsT (lowL (s.data.toList.take (j + 1))) = numsT (lowL (s.data.toList.take j)) ++ [(Lib.lowerB (s[j]'h)).toNat] := by
  have hl : j < s.data.toList.length := by rw [Array.length_toList]; exact h
  rw [List.take_add_one, List.getElem?_eq_getElem hl, Option.toList_some]
  unfold lowL Lib.toLowerA numsT
  rw [List.map_append, List.map_append]
  congr 1
set_option maxRecDepth 20000 in
set_option maxHeartbeats 4000000 in
theorem lowerR_calls (s : ByteArray) (hs : s.size ≤ 140737488355328) (w : World) : Calls Tryz.prog 39 #[.string s] w fun e w' => e = .returned (.string (stS (lowL s.data.toList))) ∧ Below w.heap.size w w' := by
  have o1 := hide (OwnB.empty w w.heap.size (Nat.le_refl _))
  have b1 := hide (show Below w.heap.size w (w.alloc (.cells #[] 5)) from (Below.refl _ _).alloc (Nat.le_refl _) _)
  go_enter Tryz.func39, Tryz.ntmps39
  go_wp2
  go_loopw [3, 4] (fun b i wr => ∃ (j : Nat) (sp : Option Addr) (c : Nat), j ≤ s.size ∧ b = .slice sp j c ∧ i = .int .i64 (j : Int) ∧ Hid (OwnB w.heap.size wr sp c (numsT (lowL (s.data.toList.take j)))) ∧ Hid (Below w.heap.size w wr)) (fun _ i _ => s.size - (intOf i).toNat)
  case atStart => exact ⟨0, _, 0, by omega, rfl, rfl, o1, b1⟩
  case round =>
    obtain ⟨j, sp, c, hj, rfl, rfl, O, B⟩ := hrel
    have HM := hide (show (numsT (lowL (s.data.toList.take j))).length = j by rw [numsT_len, low_len, List.length_take, Array.length_toList]; exact Nat.min_eq_left hj)
    by_cases h : j < s.size
    · have hE := hide (low_take s j h)
      generalize hx : (s[j]'h) = x at *
      have hx2 : ∀ hh, (s[j]'hh) = x := fun _ => hx
      have hw : IntKind.i64.wrap ((j : Int) + 1) = ((j + 1 : Nat) : Int) := by rw [IntKind.wrap_i64]; omega
      have hlt : (j : Int) < (s.size : Int) := by omega
      have hxl : x.toNat < 256 := x.toNat_lt
      have hlb := lower_byte x
      have hyl : (Lib.lowerB x).toNat < 256 := (Lib.lowerB x).toNat_lt
      generalize hy : (Lib.lowerB x).toNat = y at *
      have hlit := hide (bytesAt_block (l := [y]) (heap_new wr (.cells #[.int .u8 (y : Int)] 5)) (by intro c hc; simp only [List.mem_cons, List.not_mem_nil, or_false] at hc; omega))
      have bA := hide (show Below wr.heap.size wr (wr.alloc (.cells #[.int .u8 (y : Int)] 5)) from (Below.refl _ _).alloc (Nat.le_refl _) _)
      have hsz := hide (show j + 1 ≤ 140737488355328 by omega)
      clear hy
      by_cases hc1 : 65 ≤ (x.toNat : Int)
      · by_cases hc2 : (x.toNat : Int) ≤ 90
        · rw [if_pos ⟨hc1, hc2⟩] at hlb
          have hwr : IntKind.u8.wrap ((x.toNat : Int) + 32) = (y : Int) := by rw [IntKind.wrap_u8, hlb]; omega
          clear hlb
          go_wp2_with (at_builtin; refine wpList_append8 rfl (.tmp 24) (.tmp 26) rfl w.heap.size sp j c (numsT (lowL (s.data.toList.take j))) rfl (unhide HM) (by exact (unhide O).later (unhide bA)) (some ⟨wr.heap.size, 0, none⟩) 1 1 rfl [y] rfl (by exact unhide hlit) (fun h => by cases h) (by rw [unhide HM]; exact unhide hsz) (by exact Nat.le_trans (unhide B).size (unhide bA).size) ?_; intro sp2 n2 c2 W2 hn2 ho2 hg2 hb2)
          rw [← unhide hE] at hn2 ho2
          obtain rfl : n2 = j + 1 := by rw [← unhide hn2, numsT_len, low_len, List.length_take, Array.length_toList]; exact Nat.min_eq_left h
          go_wp2
          go_roundw
          case rel => exact ⟨j + 1, sp2, c2, by omega, rfl, by first | rfl | (rw [hw]), hide ho2, hide ((unhide B).trans (((unhide bA).mono (unhide B).size).trans hb2))⟩
          case measure => simp [intOf]; omega
        · rw [if_neg (fun hh => hc2 hh.2)] at hlb
          have hlit2 := hlit
          rw [hlb] at hlit2 bA
          go_wp2_with (at_builtin; refine wpList_append8 rfl (.tmp 24) (.tmp 26) rfl w.heap.size sp j c (numsT (lowL (s.data.toList.take j))) rfl (unhide HM) (by exact (unhide O).later (unhide bA)) (some ⟨wr.heap.size, 0, none⟩) 1 1 rfl [y] rfl (by exact unhide hlit2) (fun h => by cases h) (by rw [unhide HM]; exact unhide hsz) (by exact Nat.le_trans (unhide B).size (unhide bA).size) ?_; intro sp2 n2 c2 W2 hn2 ho2 hg2 hb2)
          rw [← unhide hE] at hn2 ho2
          obtain rfl : n2 = j + 1 := by rw [← unhide hn2, numsT_len, low_len, List.length_take, Array.length_toList]; exact Nat.min_eq_left h
          go_wp2
          go_roundw
          case rel => exact ⟨j + 1, sp2, c2, by omega, rfl, by first | rfl | (rw [hw]), hide ho2, hide ((unhide B).trans (((unhide bA).mono (unhide B).size).trans hb2))⟩
          case measure => simp [intOf]; omega
      · rw [if_neg (fun hh => hc1 hh.1)] at hlb
        have hlit2 := hlit
        rw [hlb] at hlit2 bA
        go_wp2_with (at_builtin; refine wpList_append8 rfl (.tmp 24) (.tmp 26) rfl w.heap.size sp j c (numsT (lowL (s.data.toList.take j))) rfl (unhide HM) (by exact (unhide O).later (unhide bA)) (some ⟨wr.heap.size, 0, none⟩) 1 1 rfl [y] rfl (by exact unhide hlit2) (fun h => by cases h) (by rw [unhide HM]; exact unhide hsz) (by exact Nat.le_trans (unhide B).size (unhide bA).size) ?_; intro sp2 n2 c2 W2 hn2 ho2 hg2 hb2)
        rw [← unhide hE] at hn2 ho2
        obtain rfl : n2 = j + 1 := by rw [← unhide hn2, numsT_len, low_len, List.length_take, Array.length_toList]; exact Nat.min_eq_left h
        go_wp2
        go_roundw
        case rel => exact ⟨j + 1, sp2, c2, by omega, rfl, by first | rfl | (rw [hw]), hide ho2, hide ((unhide B).trans (((unhide bA).mono (unhide B).size).trans hb2))⟩
        case measure => simp [intOf]; omega
    · obtain rfl : j = s.size := by omega
      have hlt : ¬ (s.size : Int) < (s.size : Int) := by omega
      have hst := run_string8 (w := wr) s.size c (unhide HM) (unhide O).bytes
      rw [strOf_tx, numsT_tx, List.take_of_length_le (by rw [Array.length_toList]; exact Nat.le_refl _)] at hst
      go_wp2
      go_ret
      exact ⟨rfl, unhide B⟩
theorem cut1_at (s : ByteArray) (c : UInt8) : ∀ (j : Nat), j ≤ s.size → c ∉ s.data.toList.take j → (h : j < s.size) → (s[j]'h) = c → (cutL [c] s.data.toList) = (s.data.toList.take j, some (s.data.toList.drop (j + 1))) := by
  intro j hj hn h hx
  have e : s.data.toList = s.data.toList.take j ++ c :: s.data.toList.drop (j + 1) := by
    rw [← hx, ← drop_at s j h, List.take_append_drop]
  have := cut1_app hn (s.data.toList.drop (j + 1))
  rw [← e] at this
  exact this
theorem ext_drop' (s : ByteArray) (j : Nat) : s.extract j s.size = stS (s.data.toList.drop j) := by
  rw [← stS_self (s.extract j s.size)]
  congr 1
  rw [ext_drop]
theorem ext_take (s : ByteArray) (j : Nat) : s.extract 0 j = stS (s.data.toList.take j) := by
  rw [← stS_self (s.extract 0 j)]
  congr 1
  simp [ByteArray.data_extract]
set_option maxHeartbeats 4000000 in
theorem cutR_calls (s : ByteArray) (c : UInt8) (hs : s.size ≤ 140737488355328) (w : World) : Calls Tryz.prog 35 #[.string s, .int .u8 (c.toNat : Int)] w fun e w' => e = .returned (cutV1 c s.data.toList) ∧ Below w.heap.size w w' := by
  go_enter Tryz.func35, Tryz.ntmps35
  go_wp2
  go_loopw [7] (fun i wr => ∃ j : Nat, i = .int .i64 (j : Int) ∧ j ≤ s.size ∧ Hid (c ∉ s.data.toList.take j) ∧ Hid (wr = w)) (fun i _ => s.size - (intOf i).toNat)
  case atStart => exact ⟨0, rfl, by omega, hide (by simp), hide rfl⟩
  case round =>
    obtain ⟨j, rfl, hj, hN, hB⟩ := hrel
    by_cases h : j < s.size
    · have hC := hide (fun hx => cut1_at s c j hj (unhide hN) h hx)
      have hS := hide (show (s[j]'h) ≠ c → c ∉ s.data.toList.take (j + 1) from fun hne e => by
        have hl : j < s.data.toList.length := by rw [Array.length_toList]; exact h
        rw [List.take_add_one, List.getElem?_eq_getElem hl, Option.toList_some] at e
        rcases List.mem_append.1 e with e | e
        · exact unhide hN e
        · exact hne (List.mem_singleton.1 e).symm)
      generalize hx : (s[j]'h) = x at *
      have hx2 : ∀ hh, (s[j]'hh) = x := fun _ => hx
      have hw : IntKind.i64.wrap ((j : Int) + 1) = (j : Int) + 1 := by rw [IntKind.wrap_i64]; omega
      have hlt : (j : Int) < (s.size : Int) := by omega
      have hq := byte_eq x c
      cases hi : decide (x = c) with
      | false =>
        rw [hi] at hq
        have hS2 := hide (unhide hS (of_decide_eq_false hi))
        clear hi hC hS
        go_wp2
        go_roundw
        case rel => exact ⟨j + 1, by first | rfl | (rw [hw]; rfl), by omega, hS2, hB⟩
        case measure => simp [intOf]; omega
      | true =>
        rw [hi] at hq
        have hC2 := unhide hC (of_decide_eq_true hi)
        have E := hide (show cutV1 c s.data.toList = .tuple #[.string (stS (s.data.toList.take j)), .string (stS (s.data.toList.drop (j + 1))), .bool true] by unfold cutV1 behindL; rw [hC2]; rfl)
        have hs1 : ∀ W, (Instr.slice 9 (.string s) none (some (.int .i64 (j : Int))) none).run Tryz.prog W = .ok (.string (stS (s.data.toList.take j))) W := fun W => by
          rw [run_slice_string_h _ _ _ Tryz.underlying9 _ _ (by omega) (by omega), Int.toNat_natCast, ext_take]
        have hs2 : ∀ W, (Instr.slice 9 (.string s) (some (.int .i64 ((j : Int) + 1))) none none).run Tryz.prog W = .ok (.string (stS (s.data.toList.drop (j + 1)))) W := fun W => by
          rw [run_slice_string_l _ _ _ Tryz.underlying9 _ _ (by omega) (by omega), show ((j : Int) + 1).toNat = j + 1 by omega, ext_drop']
        clear hi hC hS hC2
        generalize stS (s.data.toList.take j) = st at *
        generalize stS (s.data.toList.drop (j + 1)) = sd at *
        have q1 : (0 : Int) ≤ (j : Int) := by omega
        have q2 : (j : Int) ≤ (s.size : Int) := by omega
        have q4 : (j : Int) + 1 ≤ (s.size : Int) := by omega
        go_wp2_with fail
        go_region_held3 (fun w' => True) (trivial) (fail)
        go_wp2_with fail
        go_ret3
        exact ⟨by rw [unhide E]; rfl, by rw [← unhide hB]; exact (Below.refl _ _).drew⟩
    · obtain rfl : j = s.size := by omega
      have hlt : ¬ (s.size : Int) < (s.size : Int) := by omega
      have E := hide (show cutV1 c s.data.toList = .tuple #[.string s, .string ⟨#[]⟩, .bool false] by
        have hn := unhide hN
        rw [List.take_of_length_le (by rw [Array.length_toList]; exact Nat.le_refl _)] at hn
        unfold cutV1 behindL
        rw [cut1_no hn, stS_self]
        rfl)
      go_wp2
      go_ret3
      exact ⟨by rw [unhide E]; rfl, by rw [unhide hB]; exact Below.refl _ _⟩
end Go.Proofs.YtcmiappiocfbiaaGreatDoor
