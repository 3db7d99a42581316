/- Heads: hosts. -/
import Derived.Test.YtcmiappiocfbiaaGreatDoorHd5
namespace Go.Proofs.YtcmiappiocfbiaaGreatDoor
open Go.ChangeShapes Go.WideShapes Go.ChangeAt Go.RowKit Go.Lib
set_option linter.unusedVariables false

theorem isK4_high (x : UInt8) (h : 127 < x.toNat) : isK 4 x = false := by unfold isK; rw [kindsN_high _ h]; rfl
theorem hostGo_ascii {b : Bool} {l : Tx} (h : hostGo b l = true) : ∀ x ∈ l, x.toNat < 128 := by
  induction l generalizing b with
  | nil => intro x hx; cases hx
  | cons c t ih =>
    intro x hx
    unfold hostGo at h
    split at h
    · rename_i hc
      rw [Bool.and_eq_true] at h
      rcases List.mem_cons.1 hx with rfl | hx
      · subst hc; decide
      · exact ih h.2 x hx
    · rw [Bool.and_eq_true] at h
      rcases List.mem_cons.1 hx with rfl | hx
      · by_cases h8 : x.toNat < 128
        · exact h8
        · rw [isK4_high x (by omega)] at h; cases h.1
      · exact ih h.2 x hx
theorem byte46 (x : UInt8) : (((x.toNat : Nat) : Int) == 46) = decide (x = 46) := by
  rw [Bool.eq_iff_iff, beq_iff_eq, decide_eq_true_eq, ← UInt8.toNat_inj]
  have : (46 : UInt8).toNat = 46 := rfl
  omega
set_option maxRecDepth 20000 in
set_option maxHeartbeats 4000000 in
theorem isHost_calls (s : ByteArray) (hs : s.size ≤ maxLen) (w : World) : Calls Tryz.prog 103 #[.string s] w fun e w' => e = .returned (.bool (isHostL s.data.toList)) ∧ Below w.heap.size w w' := by
  simp only [maxLen] at hs
  have hE := hide (show isHostL s.data.toList = (decide (s.size ≤ 64) && hostGo false s.data.toList) by unfold isHostL; simp)
  by_cases h64 : s.size ≤ 64
  · have hE1 := hide (show isHostL s.data.toList = hostGo false s.data.toList by rw [unhide hE, decide_eq_true h64]; rfl)
    have g64 : ¬ (64 : Int) < (s.size : Int) := by omega
    have KO := hide (fun c hc W => kindsOf_any c hc W)
    go_enter Tryz.func103, Tryz.ntmps103
    go_wp2
    go_loopw [3] (fun v wr => ∃ (pos : Nat) (b : Bool), v = .bool b ∧ pos ≤ s.size ∧ Hid (wr.heap[w.heap.size]? = some (.stringIter s pos)) ∧ Hid (hostGo b (s.data.toList.drop pos) = hostGo false s.data.toList) ∧ Hid (Below w.heap.size w wr)) (fun _ wr => s.size - wr.iterPos w.heap.size)
    case atStart => exact ⟨0, false, rfl, by omega, hide (World.iter_heap w s 0), hide rfl, hide (below_iter w s 0)⟩
    case round =>
      obtain ⟨pos, b, rfl, hpos, hk, hE2, hB⟩ := hrel
      by_cases hp : pos < s.size
      · have hm0 := hide (show wr.iterPos w.heap.size = pos by unfold World.iterPos; rw [unhide hk])
        by_cases h8 : (s[pos]'hp).toNat < 128
        · have hnx : ∀ ty, (Instr.next (.pointer (some ⟨w.heap.size, 0, none⟩)) true ty).run Tryz.prog wr = _ := fun ty => run_next_ascii_at wr w.heap.size s pos ty (unhide hk) hp h8
          have hk2 := hide (iterAt_heap wr w.heap.size s pos (pos + 1) (unhide hk))
          have hB2 := hide (below_iterAt (unhide hB) (Nat.le_refl _) s (pos + 1))
          have hE3 := hide (show hostGo b (s.data.toList.drop pos) = (if (s[pos]'hp) = 46 then b && hostGo false (s.data.toList.drop (pos + 1)) else isK 4 (s[pos]'hp) && hostGo true (s.data.toList.drop (pos + 1))) by rw [drop_at s pos hp]; rfl)
          generalize hx : (s[pos]'hp) = x at *
          generalize hW : wr.iterAt w.heap.size s (pos + 1) = W1 at *
          by_cases h46 : x = 46
          · have h46b : (((x.toNat : Nat) : Int) == 46) = true := by rw [byte46, decide_eq_true h46]
            rw [if_pos h46] at hE3
            clear h46
            cases b with
            | true =>
              have hE4 := hide (show hostGo false (s.data.toList.drop (pos + 1)) = hostGo false s.data.toList by rw [← unhide hE2, unhide hE3]; rfl)
              go_wp2
              go_roundw
              case rel => exact ⟨pos + 1, false, rfl, by omega, hk2, hE4, hB2⟩
              case measure => rw [unhide hm0, show W1.iterPos w.heap.size = pos + 1 by unfold World.iterPos; rw [unhide hk2]]; omega
            | false =>
              have hE4 := hide (show hostGo false s.data.toList = false by rw [← unhide hE2, unhide hE3]; rfl)
              go_wp2
              go_ret
              exact ⟨by rw [unhide hE1, unhide hE4]; rfl, unhide hB2⟩
          · have h46b : (((x.toNat : Nat) : Int) == 46) = false := by rw [byte46, decide_eq_false h46]
            rw [if_neg h46] at hE3
            clear h46
            have ha : bits .and .i64 (kindsN x.toNat : Int) 4 = ((kindsN x.toNat &&& 4 : Nat) : Int) := and_is (kindsN x.toNat) 4 (kindsN_lt _) (by decide)
            have hb0 : ((((kindsN x.toNat &&& 4 : Nat) : Int)) == 0) = !isK 4 x := by
              unfold isK
              rw [Bool.eq_iff_iff]; simp
            have hxl := x.toNat_lt
            have KO2 := hide (fun W => unhide KO x.toNat (by omega) W)
            cases hi : isK 4 x with
            | true =>
              rw [hi] at hb0
              have hE4 := hide (show hostGo true (s.data.toList.drop (pos + 1)) = hostGo false s.data.toList by rw [← unhide hE2, unhide hE3, hi]; rfl)
              generalize kindsN x.toNat = n at *
              go_wp2_with (go_at_call 120; refine (unhide KO2 _).mono ?_; rintro e w' ⟨rfl, hb⟩; have HB := chain hB2 hb; have HK := hide (later_block hb (unhide hk2)))
              go_roundw
              case rel => exact ⟨pos + 1, true, rfl, by omega, HK, hE4, HB⟩
              case measure => rw [unhide hm0, show w'.iterPos w.heap.size = pos + 1 by unfold World.iterPos; rw [unhide HK]]; omega
            | false =>
              rw [hi] at hb0
              have hE4 := hide (show hostGo false s.data.toList = false by rw [← unhide hE2, unhide hE3, hi]; rfl)
              generalize kindsN x.toNat = n at *
              go_wp2_with (go_at_call 120; refine (unhide KO2 _).mono ?_; rintro e w' ⟨rfl, hb⟩; have HB := chain hB2 hb)
              go_ret
              exact ⟨by rw [unhide hE1, unhide hE4]; rfl, unhide HB⟩
        · have hnx : ∀ ty, (Instr.next (.pointer (some ⟨w.heap.size, 0, none⟩)) true ty).run Tryz.prog wr = _ := fun ty => run_next_any_at wr w.heap.size s pos ty (unhide hk) hp
          have hB2 := hide (below_iterAt (unhide hB) (Nat.le_refl _) s (pos + (Utf8.decode s pos).2))
          have hr1 := (decode_high s pos hp (by omega)).1
          have hr2 := decode_le s pos
          have hE4 := hide (show hostGo false s.data.toList = false by
            rw [← unhide hE2, drop_at s pos hp]
            unfold hostGo
            have hn : ¬ (s[pos]'hp) = 46 := fun e => by rw [e] at h8; exact h8 (by decide)
            rw [if_neg hn, isK4_high _ (by omega)]; rfl)
          generalize (Utf8.decode s pos).1 = r at *
          generalize wr.iterAt w.heap.size s (pos + (Utf8.decode s pos).2) = W1 at *
          have h46b : ((r : Int) == 46) = false := by simp; omega
          have hkr := kindsN_high r (by omega)
          have ha : bits .and .i64 64 4 = 0 := by have := and_is 64 4 (by decide) (by decide); simpa using this
          go_wp2_with (go_at_call 120; refine (unhide KO _ (by omega) _).mono ?_; rintro e w' ⟨rfl, hb⟩; rw [hkr]; have HB := chain hB2 hb)
          go_ret
          exact ⟨by rw [unhide hE1, unhide hE4]; rfl, unhide HB⟩
      · have hnx : ∀ ty, (Instr.next (.pointer (some ⟨w.heap.size, 0, none⟩)) true ty).run Tryz.prog wr = _ := fun ty => run_next_end_at wr w.heap.size s pos ty (unhide hk) hp
        have hE4 := hide (show hostGo false s.data.toList = b by rw [← unhide hE2, drop_end s pos hp]; rfl)
        go_wp2
        go_ret
        exact ⟨by rw [unhide hE1, unhide hE4]; rfl, unhide hB⟩
  · have hE1 := hide (show isHostL s.data.toList = false by rw [unhide hE, decide_eq_false h64]; rfl)
    have g64 : (64 : Int) < (s.size : Int) := by omega
    go_enter Tryz.func103, Tryz.ntmps103
    go_wp2
    go_ret
    exact ⟨by rw [unhide hE1]; rfl, Below.refl _ _⟩
def hostV (s : Tx) : Value := match hostL s with | some h => .tuple #[.string (stS h), .bool true] | none => .tuple #[.string ⟨#[]⟩, .bool false]
set_option maxRecDepth 20000 in
set_option maxHeartbeats 4000000 in
theorem host_calls (s : ByteArray) (hs : s.size ≤ maxLen) (w : World) : Calls Tryz.prog 83 #[.string s] w fun e w' => e = .returned (hostV s.data.toList) ∧ Below w.heap.size w w' := by
  have CC := hide (fun W => cut1_calls s 58 hs W)
  have hl1 : (cutL [58] s.data.toList).1.length ≤ s.size := by have := @cutL_len [58] s.data.toList; simpa using this
  have hl2 : (behindL [58] s.data.toList).length ≤ s.size := by have := @behindL_len [58] s.data.toList; simpa using this
  have hh : hostL s.data.toList = if 5 < (behindL [58] s.data.toList).length || !allK 1 (behindL [58] s.data.toList) || !isHostL (cutL [58] s.data.toList).1 then none else some (lowL (cutL [58] s.data.toList).1) := rfl
  simp only [maxLen] at hs
  unfold cutV1 at CC
  generalize (cutL [58] s.data.toList).1 = a at *
  generalize behindL [58] s.data.toList = b at *
  generalize (cutL [58] s.data.toList).2.isSome = d at *
  have AC := hide (fun W => all_calls (stS b) 1 (by decide) (by simp [maxLen, stS_size]; omega) W)
  have HC := hide (fun W => isHost_calls (stS a) (by simp [maxLen, stS_size]; omega) W)
  have hsz : (stS b).size = b.length := rfl
  rw [stS_list] at AC HC
  by_cases h5 : 5 < b.length
  · have E := hide (show hostV s.data.toList = .tuple #[.string ⟨#[]⟩, .bool false] by unfold hostV; rw [hh, decide_eq_true h5]; rfl)
    have h5i : (5 : Int) < (b.length : Int) := by omega
    clear hh
    generalize stS b = tb at *
    generalize stS a = ta at *
    go_enter Tryz.func83, Tryz.ntmps83
    go_wp2_with (go_at_call 66; refine (unhide CC _).mono ?_; rintro e W1 ⟨rfl, hb⟩; have H1 := hide hb)
    go_ret2
    exact ⟨by rw [unhide E]; rfl, unhide H1⟩
  · have h5i : ¬ (5 : Int) < (b.length : Int) := by omega
    cases ha : allK 1 b with
    | false =>
      have E := hide (show hostV s.data.toList = .tuple #[.string ⟨#[]⟩, .bool false] by unfold hostV; rw [hh, ha]; simp)
      clear hh
      generalize stS b = tb at *
      generalize stS a = ta at *
      go_enter Tryz.func83, Tryz.ntmps83
      go_wp2_with (first
        | (go_at_call 66; refine (unhide CC _).mono ?_; rintro e W1 ⟨rfl, hb⟩; have H1 := hide hb)
        | (go_at_call 89; refine (unhide AC _).mono ?_; rintro e W2 ⟨rfl, hb2⟩; rw [ha]; have H2 := chain H1 hb2))
      go_ret2
      exact ⟨by rw [unhide E]; rfl, unhide H2⟩
    | true =>
      cases hi : isHostL a with
      | false =>
        have E := hide (show hostV s.data.toList = .tuple #[.string ⟨#[]⟩, .bool false] by unfold hostV; rw [hh, ha, hi]; simp)
        clear hh
        generalize stS b = tb at *
        generalize stS a = ta at *
        go_enter Tryz.func83, Tryz.ntmps83
        go_wp2_with (first
          | (go_at_call 66; refine (unhide CC _).mono ?_; rintro e W1 ⟨rfl, hb⟩; have H1 := hide hb)
          | (go_at_call 89; refine (unhide AC _).mono ?_; rintro e W2 ⟨rfl, hb2⟩; rw [ha]; have H2 := chain H1 hb2)
          | (go_at_call 103; refine (unhide HC _).mono ?_; rintro e W3 ⟨rfl, hb3⟩; rw [hi]; have H3 := chain H2 hb3))
        go_ret2
        exact ⟨by rw [unhide E]; rfl, unhide H3⟩
      | true =>
        have hi2 : (decide (a.length ≤ 64) && hostGo false a) = true := hi
        rw [Bool.and_eq_true, decide_eq_true_eq] at hi2
        have LC := hide (fun W => lower_calls (stS a) (by rw [stS_size]; omega) (by rw [stS_list]; exact hostGo_ascii hi2.2) W)
        rw [stS_list] at LC
        have E := hide (show hostV s.data.toList = .tuple #[.string (stS (lowL a)), .bool true] by unfold hostV; rw [hh, ha, hi, decide_eq_false h5]; rfl)
        clear hh hi2
        generalize stS b = tb at *
        generalize stS a = ta at *
        generalize stS (lowL a) = tl at *
        go_enter Tryz.func83, Tryz.ntmps83
        go_wp2_with (first
          | (go_at_call 66; refine (unhide CC _).mono ?_; rintro e W1 ⟨rfl, hb⟩; have H1 := hide hb)
          | (go_at_call 89; refine (unhide AC _).mono ?_; rintro e W2 ⟨rfl, hb2⟩; rw [ha]; have H2 := chain H1 hb2)
          | (go_at_call 103; refine (unhide HC _).mono ?_; rintro e W3 ⟨rfl, hb3⟩; rw [hi]; have H3 := chain H2 hb3)
          | (go_at_call 81; refine (unhide LC _).mono ?_; rintro e W4 ⟨rfl, hb4⟩; have H4 := chain H3 hb4))
        go_ret2
        exact ⟨by rw [unhide E]; rfl, unhide H4⟩
end Go.Proofs.YtcmiappiocfbiaaGreatDoor
