/- The document's paths and queries (tollgateref09: in, such, Path, Query) are those of the plain words. -/
import Derived.Test.YtcmiappiocfbiaaGreatDoorHd4
namespace Go.Proofs.YtcmiappiocfbiaaGreatDoor
open Go.ChangeShapes Go.WideShapes Go.ChangeAt Go.RowKit
set_option linter.unusedVariables false

theorem byte_eq (x c : UInt8) : (((x.toNat : Nat) : Int) == ((c.toNat : Nat) : Int)) = decide (x = c) := by
  rw [Bool.eq_iff_iff, beq_iff_eq, decide_eq_true_eq, ← UInt8.toNat_inj]
  omega
def hasL (c : UInt8) (l : Tx) : Bool := l.contains c
theorem has_cons (c x : UInt8) (t : Tx) : hasL c (x :: t) = (decide (x = c) || hasL c t) := by
  unfold hasL
  rw [List.contains_cons]
  by_cases h : x = c
  · subst h; simp
  · have : ¬ c = x := fun e => h e.symm
    simp [h, this]
set_option maxHeartbeats 2000000 in
theorem in_calls (c : UInt8) (s : ByteArray) (hs : s.size ≤ maxLen) (w : World) : Calls Tryz.prog 71 #[.int .u8 (c.toNat : Int), .string s] w fun e w' => e = .returned (.bool (hasL c s.data.toList)) ∧ w' = w := by
  simp only [maxLen] at hs
  go_enter Tryz.func71, Tryz.ntmps71
  go_wp2
  go_loopw [5] (fun i wr => ∃ j : Nat, i = .int .i64 (j : Int) ∧ j ≤ s.size ∧ Hid (hasL c (s.data.toList.drop j) = hasL c s.data.toList) ∧ Hid (wr = w)) (fun i _ => s.size - (intOf i).toNat)
  case atStart => exact ⟨0, rfl, by omega, hide rfl, hide rfl⟩
  case round =>
    obtain ⟨j, rfl, hj, hE, hB⟩ := hrel
    by_cases h : j < s.size
    · have hE2 := hide (show hasL c (s.data.toList.drop j) = (decide ((s[j]'h) = c) || hasL c (s.data.toList.drop (j + 1))) by rw [drop_at s j h, has_cons])
      generalize hx : (s[j]'h) = x at *
      have hx2 : ∀ hh, (s[j]'hh) = x := fun _ => hx
      have hw : IntKind.i64.wrap ((j : Int) + 1) = ((j + 1 : Nat) : Int) := by rw [IntKind.wrap_i64]; omega
      have hlt : (j : Int) < (s.size : Int) := by omega
      have hq := byte_eq x c
      cases hi : decide (x = c) with
      | false =>
        have hE3 := hide (show hasL c (s.data.toList.drop (j + 1)) = hasL c s.data.toList by rw [← unhide hE, unhide hE2, hi]; rfl)
        rw [hi] at hq
        clear hi
        go_wp2
        go_roundw
        case rel => exact ⟨j + 1, by first | rfl | (rw [hw]), by omega, hE3, hB⟩
        case measure => simp [intOf]; omega
      | true =>
        have hE3 := hide (show hasL c s.data.toList = true by rw [← unhide hE, unhide hE2, hi]; rfl)
        rw [hi] at hq
        clear hi
        go_wp2
        go_ret
        exact ⟨by rw [unhide hE3]; rfl, unhide hB⟩
    · have hE3 := hide (show hasL c s.data.toList = false by rw [← unhide hE, drop_end s j h]; rfl)
      have hlt : ¬ (j : Int) < (s.size : Int) := by omega
      go_wp2
      go_ret
      exact ⟨by rw [unhide hE3]; rfl, unhide hB⟩
set_option quotPrecheck false
local notation "hex22" => (⟨#[48, 49, 50, 51, 52, 53, 54, 55, 56, 57, 97, 98, 99, 100, 101, 102, 65, 66, 67, 68, 69, 70]⟩ : ByteArray)
local notation "set80" => (⟨(List.append [97, 98, 99, 100, 101, 102, 103, 104, 105, 106, 107, 108, 109, 110, 111, 112, 113, 114, 115, 116, 117, 118, 119, 120, 121, 122, 65, 66, 67, 68, 69, 70, 71, 72, 73, 74, 75, 76, 77, 78] [79, 80, 81, 82, 83, 84, 85, 86, 87, 88, 89, 90, 48, 49, 50, 51, 52, 53, 54, 55, 56, 57, 47, 45, 46, 95, 126, 33, 36, 38, 39, 40, 41, 42, 43, 44, 59, 61, 58, 64]).toArray⟩ : ByteArray)
theorem each_byte {p q : UInt8 → Bool} (h : (List.range 256).all (fun n => p (UInt8.ofNat n) == q (UInt8.ofNat n)) = true) (x : UInt8) : p x = q x := by
  have h1 := List.all_eq_true.1 h x.toNat (List.mem_range.2 x.toNat_lt)
  rw [show UInt8.ofNat x.toNat = x from UInt8.ofNat_toNat] at h1
  exact eq_of_beq h1
theorem hex_is (x : UInt8) : hasL x (hex22).data.toList = isK 2 x := each_byte (p := fun x => hasL x (hex22).data.toList) (q := isK 2) (by decide +kernel) x
theorem set_is16 (x : UInt8) : hasL x (set80 ++ (⟨#[]⟩ : ByteArray)).data.toList = isK 16 x := each_byte (p := fun x => hasL x (set80 ++ (⟨#[]⟩ : ByteArray)).data.toList) (q := isK 16) (by decide +kernel) x
theorem set_is32 (x : UInt8) : hasL x (set80 ++ (⟨#[63]⟩ : ByteArray)).data.toList = isK 32 x := each_byte (p := fun x => hasL x (set80 ++ (⟨#[63]⟩ : ByteArray)).data.toList) (q := isK 32) (by decide +kernel) x
theorem hex16 (x : UInt8) (h : isK 2 x = true) : isK 16 x = true ∧ isK 32 x = true ∧ ¬ x = 37 := by
  have h1 := each_byte (p := fun x => isK 2 x && !(isK 16 x && isK 32 x && x != 37)) (q := fun _ => false) (by decide +kernel) x
  simp only [h, Bool.true_and, Bool.not_eq_false', Bool.and_eq_true, bne_iff_ne] at h1
  exact ⟨h1.1.1, h1.1.2, h1.2⟩
theorem allEsc_hex {k : Nat} (hk : ∀ x, isK 2 x = true → isK k x = true) (a b : UInt8) (t : Tx) (ha : isK 2 a = true) (hb : isK 2 b = true) : allEsc k (a :: b :: t) = allEsc k t := by
  show (okAt k a (b :: t) && (okAt k b t && allEsc k t)) = _
  unfold okAt
  rw [if_neg (hex16 a ha).2.2, if_neg (hex16 b hb).2.2, hk a ha, hk b hb]
  rfl
set_option maxHeartbeats 4000000 in
theorem such_calls (s more : ByteArray) (k : Nat) (hs : s.size ≤ 140737488355328) (hm : more.size ≤ 1) (hset : ∀ x, hasL x (set80 ++ more).data.toList = isK k x) (hk : ∀ x, isK 2 x = true → isK k x = true) (w : World) : Calls Tryz.prog 70 #[.string s, .string more] w fun e w' => e = .returned (.bool (allEsc k s.data.toList)) ∧ w' = w := by
  have hz0 : (set80).size = 80 := rfl
  have hz1 : (set80 ++ more).size = 80 + more.size := by rw [ByteArray.size_append, hz0]
  have I1 := hide (fun x W => show Calls Tryz.prog 71 #[.int .u8 (x.toNat : Int), .string (set80 ++ more)] W fun e w' => e = .returned (.bool (isK k x)) ∧ w' = W from by
    have := in_calls x (set80 ++ more) (by rw [hz1]; simp [maxLen]; omega) W
    rwa [hset x] at this)
  have I2 := hide (fun x W => show Calls Tryz.prog 71 #[.int .u8 (x.toNat : Int), .string hex22] W fun e w' => e = .returned (.bool (isK 2 x)) ∧ w' = W from by
    have := in_calls x hex22 (show 22 ≤ maxLen by simp [maxLen]) W
    rwa [hex_is x] at this)
  have HK := hide hk
  clear hk hset
  go_enter Tryz.func70, Tryz.ntmps70
  go_wp2
  go_loopw [5] (fun i wr => ∃ j : Nat, i = .int .i64 (j : Int) ∧ j ≤ s.size ∧ Hid (allEsc k (s.data.toList.drop j) = allEsc k s.data.toList) ∧ Hid (wr = w)) (fun i _ => s.size - (intOf i).toNat)
  case atStart => exact ⟨0, rfl, by omega, hide rfl, hide rfl⟩
  case round =>
    obtain ⟨j, rfl, hj, hE, hB⟩ := hrel
    by_cases h : j < s.size
    · have hE2 := hide (show allEsc k (s.data.toList.drop j) = (okAt k (s[j]'h) (s.data.toList.drop (j + 1)) && allEsc k (s.data.toList.drop (j + 1))) by rw [drop_at s j h]; rfl)
      generalize hx : (s[j]'h) = x at *
      have hx2 : ∀ hh, (s[j]'hh) = x := fun _ => hx
      have hw : IntKind.i64.wrap ((j : Int) + 1) = (j : Int) + 1 := by rw [IntKind.wrap_i64]; omega
      have hlt : (j : Int) < (s.size : Int) := by omega
      by_cases h37 : x = 37
      · have h37b : (((x.toNat : Nat) : Int) == 37) = true := by rw [byte37, decide_eq_true h37]
        have hok := hide (show okAt k x (s.data.toList.drop (j + 1)) = escL (s.data.toList.drop (j + 1)) by unfold okAt; rw [if_pos h37])
        clear h37
        have hw2 : IntKind.i64.wrap ((j : Int) + 2) = (j : Int) + 2 := by rw [IntKind.wrap_i64]; omega
        have hw3 : IntKind.i64.wrap ((j : Int) + 2 + 1) = (j : Int) + 3 := by rw [IntKind.wrap_i64]; omega
        by_cases h2 : j + 2 < s.size
        · have h1 : j + 1 < s.size := by omega
          have hd := hide (show s.data.toList.drop (j + 1) = (s[j + 1]'h1) :: (s[j + 2]'h2) :: s.data.toList.drop (j + 3) by rw [drop_at s (j + 1) h1, drop_at s (j + 1 + 1) h2])
          generalize hxa : (s[j + 1]'h1) = a at *
          generalize hxb : (s[j + 2]'h2) = b at *
          have hxa2 : ∀ hh, (s[j + 1]'hh) = a := fun _ => hxa
          have hxb2 : ∀ hh, (s[j + 2]'hh) = b := fun _ => hxb
          have q0 : ¬ (s.size : Int) ≤ (j : Int) + 2 := by omega
          have q1 : (j : Int) + 1 < (s.size : Int) := by omega
          have q2 : (j : Int) + 2 < (s.size : Int) := by omega
          have q3 : (0 : Int) ≤ (j : Int) + 1 := by omega
          have q4 : (0 : Int) ≤ (j : Int) + 2 := by omega
          have t1 : ((j : Int) + 1).toNat = j + 1 := by omega
          have t2 : ((j : Int) + 2).toNat = j + 2 := by omega
          have he := hide (show escL (s.data.toList.drop (j + 1)) = (isK 2 a && isK 2 b) by rw [unhide hd]; rfl)
          cases ha : isK 2 a with
          | false =>
            have hE3 := hide (show allEsc k s.data.toList = false by rw [← unhide hE, unhide hE2, unhide hok, unhide he, ha]; rfl)
            go_wp2_with (go_at_call 71; refine (unhide I2 _ _).mono ?_; rintro e w' ⟨rfl, hb2⟩; rw [ha]; rw [hb2]; clear hb2)
            go_ret
            exact ⟨by rw [unhide hE3]; rfl, unhide hB⟩
          | true =>
            cases hb : isK 2 b with
            | false =>
              have hE3 := hide (show allEsc k s.data.toList = false by rw [← unhide hE, unhide hE2, unhide hok, unhide he, ha, hb]; rfl)
              go_wp2_with (go_at_call 71; refine (unhide I2 _ _).mono ?_; rintro e w' ⟨rfl, hb2⟩; first | rw [ha] | rw [hb]; rw [hb2]; clear hb2)
              go_ret
              exact ⟨by rw [unhide hE3]; rfl, unhide hB⟩
            | true =>
              have hE3 := hide (show allEsc k (s.data.toList.drop (j + 3)) = allEsc k s.data.toList by rw [← unhide hE, unhide hE2, unhide hok, unhide he, ha, hb, unhide hd, allEsc_hex (unhide HK) a b _ ha hb]; rfl)
              go_wp2_with (go_at_call 71; refine (unhide I2 _ _).mono ?_; rintro e w' ⟨rfl, hb2⟩; first | rw [ha] | rw [hb]; rw [hb2]; clear hb2)
              go_roundw
              case rel => exact ⟨j + 3, by first | rfl | (rw [hw3]; rfl), by omega, hE3, hB⟩
              case measure => simp [intOf]; omega
        · have q0 : (s.size : Int) ≤ (j : Int) + 2 := by omega
          have he := hide (show escL (s.data.toList.drop (j + 1)) = false by
            have hl : (s.data.toList.drop (j + 1)).length < 2 := by simp; omega
            rw [two_or, decide_eq_false (by omega)]; rfl)
          have hE3 := hide (show allEsc k s.data.toList = false by rw [← unhide hE, unhide hE2, unhide hok, unhide he]; rfl)
          go_wp2
          go_ret
          exact ⟨by rw [unhide hE3]; rfl, unhide hB⟩
      · have h37b : (((x.toNat : Nat) : Int) == 37) = false := by rw [byte37, decide_eq_false h37]
        have hok := hide (show okAt k x (s.data.toList.drop (j + 1)) = isK k x by unfold okAt; rw [if_neg h37])
        clear h37
        cases hi : isK k x with
        | true =>
          have hE3 := hide (show allEsc k (s.data.toList.drop (j + 1)) = allEsc k s.data.toList by rw [← unhide hE, unhide hE2, unhide hok, hi]; rfl)
          go_wp2_with (go_at_call 71; refine (unhide I1 _ _).mono ?_; rintro e w' ⟨rfl, hb2⟩; rw [hi]; rw [hb2]; clear hb2)
          go_roundw
          case rel => exact ⟨j + 1, by first | rfl | (rw [hw]; rfl), by omega, hE3, hB⟩
          case measure => simp [intOf]; omega
        | false =>
          have hE3 := hide (show allEsc k s.data.toList = false by rw [← unhide hE, unhide hE2, unhide hok, hi]; rfl)
          go_wp2_with (go_at_call 71; refine (unhide I1 _ _).mono ?_; rintro e w' ⟨rfl, hb2⟩; rw [hi]; rw [hb2]; clear hb2)
          go_ret
          exact ⟨by rw [unhide hE3]; rfl, unhide hB⟩
    · have hE3 := hide (show allEsc k s.data.toList = true by rw [← unhide hE, drop_end s j h]; rfl)
      have hlt : ¬ (j : Int) < (s.size : Int) := by omega
      go_wp2
      go_ret
      exact ⟨by rw [unhide hE3]; rfl, unhide hB⟩
theorem pathR_is (s : ByteArray) (h : ¬ s.data.toList = []) : ∃ h0 : 0 < s.size, isPathL s.data.toList = (decide ((s[0]'h0) = 47) && allEsc 16 s.data.toList) := by
  have h0 : 0 < s.size := by
    have : 0 < s.data.toList.length := List.length_pos_iff.2 h
    simpa using this
  refine ⟨h0, ?_⟩
  have e := drop_at s 0 h0
  rw [List.drop_zero] at e
  unfold isPathL
  have e2 : [47].isPrefixOf s.data.toList = decide ((s[0]'h0) = 47) := by
    rw [e]
    by_cases hq : (s[0]'h0) = 47
    · simp [List.isPrefixOf, hq]
    · simp only [List.isPrefixOf, hq, decide_false, Bool.and_eq_false_iff, beq_eq_false_iff_ne, ne_eq]
      exact .inl fun e => hq e.symm
  rw [e2]
set_option maxHeartbeats 1000000 in
theorem pathR_calls (s : ByteArray) (hs : s.size ≤ 140737488355328) (w : World) : Calls Tryz.prog 53 #[.string s] w fun e w' => e = .returned (.bool (isPathL s.data.toList)) ∧ w' = w := by
  have SC := hide (fun W => such_calls s ⟨#[]⟩ 16 hs (by decide) set_is16 (fun x h => (hex16 x h).1) W)
  have hn := str_nil s
  have hnil : (⟨#[]⟩ : ByteArray).toList = [] := by rw [ByteArray.toList_eq]
  cases h : s.data.toList.isEmpty with
  | true =>
    rw [h] at hn
    have hE3 := hide (show isPathL s.data.toList = false by rw [List.isEmpty_iff.1 h]; rfl)
    clear h
    go_enter Tryz.func53, Tryz.ntmps53
    go_wp2
    go_ret
    exact ⟨by rw [unhide hE3]; rfl, rfl⟩
  | false =>
    rw [h] at hn
    obtain ⟨h0, hE⟩ := pathR_is s (fun e => by rw [e] at h; cases h)
    have HE := hide hE
    clear h hE
    generalize hx : (s[0]'h0) = x at *
    have hx2 : ∀ hh, (s[0]'hh) = x := fun _ => hx
    have hlt : (0 : Int) < (s.size : Int) := by omega
    have hq : (((x.toNat : Nat) : Int) == 47) = decide (x = 47) := byte_eq x 47
    cases hi : decide (x = 47) with
    | false =>
      have hE3 := hide (show isPathL s.data.toList = false by rw [unhide HE, hi]; rfl)
      rw [hi] at hq
      clear hi
      go_enter Tryz.func53, Tryz.ntmps53
      go_wp2
      go_ret
      exact ⟨by rw [unhide hE3]; rfl, rfl⟩
    | true =>
      have hE3 := hide (show isPathL s.data.toList = allEsc 16 s.data.toList by rw [unhide HE, hi]; rfl)
      rw [hi] at hq
      clear hi
      go_enter Tryz.func53, Tryz.ntmps53
      go_wp2_with (go_at_call 70; refine (unhide SC _).mono ?_; rintro e w' ⟨rfl, hb2⟩; rw [hb2]; clear hb2)
      go_ret
      exact ⟨by rw [unhide hE3]; rfl, rfl⟩
theorem queryR_calls (s : ByteArray) (hs : s.size ≤ 140737488355328) (w : World) : Calls Tryz.prog 54 #[.string s] w fun e w' => e = .returned (.bool (isQueryL s.data.toList)) ∧ w' = w := by
  have SC := hide (fun W => such_calls s ⟨#[63]⟩ 32 hs (by decide) set_is32 (fun x h => (hex16 x h).2.1) W)
  go_enter Tryz.func54, Tryz.ntmps54
  go_wp2_with (go_at_call 70; refine (unhide SC _).mono ?_; rintro e w' ⟨rfl, hb2⟩; rw [hb2]; clear hb2)
  go_ret
  exact ⟨rfl, rfl⟩
end Go.Proofs.YtcmiappiocfbiaaGreatDoor
