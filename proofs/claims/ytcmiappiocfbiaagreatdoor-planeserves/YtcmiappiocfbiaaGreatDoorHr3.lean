/- The document's heads: trimmed, begins, Host. -/
import Derived.Test.YtcmiappiocfbiaaGreatDoorHr2
namespace Go.Proofs.YtcmiappiocfbiaaGreatDoor
open Go.ChangeShapes Go.WideShapes Go.ChangeAt Go.RowKit
set_option linter.unusedVariables false

theorem blank_is (c : UInt8) : (decide (c = 9) || decide (c = 32)) = blank c := by
  have h := each8 (p := fun c => (decide (c = 9) || decide (c = 32)) == blank c) (by decide +kernel) c
  exact eq_of_beq h
theorem st_cons (c : UInt8) (t : Tx) : (stS (c :: t)).size = t.length + 1 := rfl
theorem st_last (t : Tx) (c : UInt8) : (stS (t ++ [c])).size = t.length + 1 := by rw [stS_size]; simp
theorem st_last_get (t : Tx) (c : UInt8) (h : t.length < (stS (t ++ [c])).size) : (stS (t ++ [c]))[t.length]'h = c := by
  show (t ++ [c]).toArray[t.length]'(by simp) = c
  simp
def strLen : Value → Nat | .string s => s.size | _ => 0
set_option maxHeartbeats 4000000 in
theorem trimR_calls (s : ByteArray) (hs : s.size ≤ 140737488355328) (w : World) : Calls Tryz.prog 36 #[.string s] w fun e w' => e = .returned (.string (stS (trimB s.data.toList))) ∧ w' = w := by
  have HT := hide (trimR_is s.data.toList)
  rw [← stS_self s]
  rw [stS_list]
  rw [← stS_self s] at hs
  generalize s.data.toList = l at *
  rw [stS_size] at hs
  go_enter Tryz.func36, Tryz.ntmps36
  go_wp2
  go_loopw [0] (fun v wr => ∃ m : Tx, v = .string (stS m) ∧ m.length ≤ l.length ∧ Hid (m.dropWhile blank = l.dropWhile blank) ∧ Hid (wr = w)) (fun v _ => strLen v)
  case atStart => exact ⟨l, rfl, Nat.le_refl _, hide rfl, hide rfl⟩
  case round =>
    obtain ⟨m, rfl, hm, hD, hB⟩ := hrel
    have tail2 := hide (show ∀ n : Tx, (n = [] ∨ ∃ c t, n = c :: t ∧ blank c = false) → n.dropWhile blank = n from fun n hn => by
      rcases hn with rfl | ⟨c, t, rfl, hc⟩
      · rfl
      · rw [List.dropWhile_cons, if_neg (by rw [hc]; decide)])
    by_cases hcc : ∃ c t, m = c :: t ∧ blank c = true
    · obtain ⟨c, t, rfl, hc⟩ := hcc
      have hD2 := hide (show t.dropWhile blank = l.dropWhile blank by rw [← unhide hD, List.dropWhile_cons, if_pos hc])
      have hz := st_cons c t
      have hx2 : ∀ hh, (stS (c :: t))[0]'hh = c := fun _ => rfl
      have hq9 : (((c.toNat : Nat) : Int) == 9) = decide (c = 9) := byte_eq c 9
      have hq32 : (((c.toNat : Nat) : Int) == 32) = decide (c = 32) := byte_eq c 32
      rw [← blank_is] at hc
      have hs1 : ∀ W, (Instr.slice 9 (.string (stS (c :: t))) (some (.int .i64 1)) none none).run Tryz.prog W = .ok (.string (stS t)) W := fun W => by
        rw [run_slice_string_l _ _ _ Tryz.underlying9 _ _ (by omega) (by rw [hz]; omega), show ((1 : Int)).toNat = 1 from rfl, ext_drop', stS_list]
        rfl
      simp only [List.length_cons] at hm
      have hgt : (0 : Int) < ((stS (c :: t)).size : Int) := by rw [hz]; omega
      have hgt0 : 0 < (stS (c :: t)).size := by rw [hz]; omega
      have hsl : strLen (.string (stS t)) < strLen (.string (stS (c :: t))) := by simp [strLen, stS_size]
      generalize stS (c :: t) = S at *
      cases h9 : decide (c = 9) with
      | true =>
        rw [h9] at hq9
        clear h9 hc
        go_wp2
        go_roundw
        case rel => exact ⟨t, rfl, by omega, hD2, hB⟩
        case measure => exact hsl
      | false =>
        rw [h9] at hq9 hc
        rw [show decide (c = 32) = true from hc] at hq32
        clear h9 hc
        go_wp2
        go_roundw
        case rel => exact ⟨t, rfl, by omega, hD2, hB⟩
        case measure => exact hsl
    · have hm0 : m = [] ∨ ∃ c t, m = c :: t ∧ blank c = false := by
        cases m with
        | nil => exact .inl rfl
        | cons c t =>
          refine .inr ⟨c, t, rfl, ?_⟩
          cases hb : blank c with
          | false => rfl
          | true => exact absurd ⟨c, t, rfl, hb⟩ hcc
      have hm1 := hide (show l.dropWhile blank = m by rw [← unhide hD, unhide tail2 m hm0])
      clear hcc hD
      have second := hide (show ∀ n : Tx, (n = [] ∨ ∃ c t, n = t ++ [c] ∧ blank c = false) → Hid (n.reverse.dropWhile blank = m.reverse.dropWhile blank) → stS n = stS (trimB l) from fun n hn hd => by
        have e : n.reverse.dropWhile blank = n.reverse := by
          rcases hn with rfl | ⟨c, t, rfl, hc⟩
          · rfl
          · rw [List.reverse_append]
            show List.dropWhile blank (c :: t.reverse) = _
            rw [List.dropWhile_cons, if_neg (by rw [hc]; decide)]
            rfl
        have e2 : n = trimR l := by
          unfold trimR
          rw [unhide hm1, ← unhide hd, e, List.reverse_reverse]
        rw [e2, unhide HT])
      rcases hm0 with hme | ⟨c, t, hme, hc⟩
      focus
        have hgt : ¬ (0 : Int) < ((stS m).size : Int) := by rw [hme]; exact of_decide_eq_false rfl
        have HME := hide hme
        clear hme
        go_wp2_with fail
      rotate_left
      focus
        have hgt : (0 : Int) < ((stS m).size : Int) := by rw [hme, st_cons]; omega
        have hgt0 : 0 < (stS m).size := by rw [hme, st_cons]; omega
        have hx2 : ∀ hh, (stS m)[0]'hh = c := by subst hme; exact fun _ => rfl
        have hq9 : (((c.toNat : Nat) : Int) == 9) = decide (c = 9) := byte_eq c 9
        have hq32 : (((c.toNat : Nat) : Int) == 32) = decide (c = 32) := byte_eq c 32
        rw [← blank_is] at hc
        rw [show decide (c = 9) = false by revert hc; cases decide (c = 9) <;> simp] at hq9
        rw [show decide (c = 32) = false by revert hc; cases decide (c = 32) <;> simp] at hq32
        have HME := hide hme
        clear hme hc
        go_wp2_with fail
      all_goals
        go_loopw [0] (fun v wr => ∃ n : Tx, v = .string (stS n) ∧ n.length ≤ l.length ∧ Hid (n.reverse.dropWhile blank = m.reverse.dropWhile blank) ∧ Hid (wr = w)) (fun v _ => strLen v)
        case atStart => exact ⟨m, rfl, hm, hide rfl, hB⟩
        case round =>
          obtain ⟨n, rfl, hn, hD3, hB3⟩ := hrel
          by_cases hcc : ∃ c t, n = t ++ [c] ∧ blank c = true
          · obtain ⟨d, t2, hne, hc⟩ := hcc
            have hD4 := hide (show t2.reverse.dropWhile blank = m.reverse.dropWhile blank by
              rw [← unhide hD3, hne, List.reverse_append]
              show _ = List.dropWhile blank (d :: t2.reverse)
              rw [List.dropWhile_cons, if_pos hc])
            have hz : (stS n).size = t2.length + 1 := by rw [hne]; exact st_last t2 d
            have hx3 : ∀ hh, (stS n)[t2.length]'hh = d := by subst hne; exact fun hh => st_last_get t2 d hh
            have hq9' : (((d.toNat : Nat) : Int) == 9) = decide (d = 9) := byte_eq d 9
            have hq32' : (((d.toNat : Nat) : Int) == 32) = decide (d = 32) := byte_eq d 32
            rw [← blank_is] at hc
            have hw : IntKind.i64.wrap (((stS n).size : Int) - 1) = (t2.length : Int) := by rw [IntKind.wrap_i64, hz]; have : t2.length + 1 ≤ l.length := by { rw [hne] at hn; simpa using hn }; omega
            have hs1 : ∀ W, (Instr.slice 9 (.string (stS n)) none (some (.int .i64 (t2.length : Int))) none).run Tryz.prog W = .ok (.string (stS t2)) W := fun W => by
              rw [run_slice_string_h _ _ _ Tryz.underlying9 _ _ (by omega) (by rw [hz]; omega), Int.toNat_natCast, ext_take, stS_list, hne, List.take_left]
            have hgt : (0 : Int) < ((stS n).size : Int) := by rw [hz]; omega
            have hlt1 : (t2.length : Int) < ((stS n).size : Int) := by rw [hz]; omega
            have hlt2 : (0 : Int) ≤ (t2.length : Int) := by omega
            have hle1 : (t2.length : Int) ≤ ((stS n).size : Int) := by omega
            have hsl : strLen (.string (stS t2)) < strLen (.string (stS n)) := by simp only [strLen, hz, stS_size]; omega
            have hln : t2.length ≤ l.length := by rw [hne, List.length_append] at hn; omega
            have HLN := hide hln
            clear hn hz
            generalize stS n = S at *
            generalize t2.length = k at hx3 hw hs1 hlt1 hlt2 hle1 hln
            cases h9 : decide (d = 9) with
            | true =>
              rw [h9] at hq9'
              clear h9 hc
              go_wp2
              go_roundw
              case rel => exact ⟨t2, rfl, unhide HLN, hD4, hB3⟩
              case measure => exact hsl
            | false =>
              rw [h9] at hq9' hc
              rw [show decide (d = 32) = true from hc] at hq32'
              clear h9 hc
              go_wp2
              go_roundw
              case rel => exact ⟨t2, rfl, unhide HLN, hD4, hB3⟩
              case measure => exact hsl
          · have hn0 : n = [] ∨ ∃ c t, n = t ++ [c] ∧ blank c = false := by
              rcases List.eq_nil_or_concat n with rfl | ⟨t, c, rfl⟩
              · exact .inl rfl
              · refine .inr ⟨c, t, by simp, ?_⟩
                cases hb : blank c with
                | false => rfl
                | true => exact absurd ⟨c, t, by simp, hb⟩ hcc
            have hE := hide (unhide second n hn0 hD3)
            clear hcc
            rcases hn0 with hne | ⟨d, t2, hne, hc⟩
            · have hgt : ¬ (0 : Int) < ((stS n).size : Int) := by rw [hne]; exact of_decide_eq_false rfl
              clear hne
              go_wp2
              go_ret
              exact ⟨by rw [← unhide hE]; rfl, unhide hB3⟩
            · have hz : (stS n).size = t2.length + 1 := by rw [hne]; exact st_last t2 d
              have hx3 : ∀ hh, (stS n)[t2.length]'hh = d := by subst hne; exact fun hh => st_last_get t2 d hh
              have hq9' : (((d.toNat : Nat) : Int) == 9) = decide (d = 9) := byte_eq d 9
              have hq32' : (((d.toNat : Nat) : Int) == 32) = decide (d = 32) := byte_eq d 32
              rw [← blank_is] at hc
              rw [show decide (d = 9) = false by revert hc; cases decide (d = 9) <;> simp] at hq9'
              rw [show decide (d = 32) = false by revert hc; cases decide (d = 32) <;> simp] at hq32'
              have hw : IntKind.i64.wrap (((stS n).size : Int) - 1) = (t2.length : Int) := by rw [IntKind.wrap_i64, hz]; have : t2.length + 1 ≤ l.length := by { rw [hne] at hn; simpa using hn }; omega
              have hgt : (0 : Int) < ((stS n).size : Int) := by rw [hz]; omega
              have hlt1 : (t2.length : Int) < ((stS n).size : Int) := by rw [hz]; omega
              have hlt2 : (0 : Int) ≤ (t2.length : Int) := by omega
              clear hne hc hz hn
              generalize stS n = S at *
              generalize t2.length = k at *
              go_wp2
              go_ret
              exact ⟨by rw [← unhide hE]; rfl, unhide hB3⟩
end Go.Proofs.YtcmiappiocfbiaaGreatDoor
