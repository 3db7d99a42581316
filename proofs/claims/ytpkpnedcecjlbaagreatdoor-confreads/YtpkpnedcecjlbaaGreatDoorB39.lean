/- Conf: the document's words: letters, PoolName, seen, Addr, Weight. -/
import Derived.Test.YtpkpnedcecjlbaaGreatDoorB02
import Derived.Test.YtpkpnedcecjlbaaGreatDoorB10
section
namespace Go.Proofs.YtpkpnedcecjlbaaGreatDoor
open Go.ChangeShapes Go.WideShapes Go.ChangeAt Go.RowKit
set_option linter.unusedVariables false

theorem dropK_at (s : ByteArray) (j : Nat) (h : j < s.size) : s.data.toList.drop j = (s[j]'h) :: s.data.toList.drop (j + 1) := by
  rw [List.drop_eq_getElem_cons (by simpa using h)]
  simp
  rfl
theorem dropK_end (s : ByteArray) (j : Nat) (h : ¬ j < s.size) : s.data.toList.drop j = [] := List.drop_of_length_le (by simp; omega)
/-- All of a row, behind a name that nothing rewrites. -/
def allC (q : UInt8 → Bool) (l : List UInt8) : Bool := l.all q
def letC (pt : Bool) (c : UInt8) : Bool := nameC c || (pt && decide (c.toNat = 46))
theorem letC_false : letC false = nameC := by funext c; simp [letC]
set_option maxHeartbeats 8000000 in
theorem letters_calls (s : ByteArray) (pt : Bool) (hs : s.size ≤ maxLen) (w : World) : Calls Tryz.prog 65 #[.string s, .bool pt] w fun e w' => e = .returned (.bool (allC (letC pt) s.data.toList)) ∧ w' = w := by
  simp only [maxLen] at hs
  go_enter Tryz.func65, Tryz.ntmps65
  go_wp2
  go_loopw [5, 6, 7] (fun i _ _ wr => ∃ j : Nat, i = .int .i64 (j : Int) ∧ j ≤ s.size ∧ Hid (allC (letC pt) (s.data.toList.drop j) = allC (letC pt) s.data.toList) ∧ Hid (wr = w)) (fun i _ _ _ => s.size - (intOf i).toNat)
  case atStart => exact ⟨0, rfl, by omega, hide rfl, hide rfl⟩
  case round =>
    obtain ⟨j, rfl, hj, hE, hB⟩ := hrel
    by_cases h : j < s.size
    · have hE2 := hide (show allC (letC pt) (s.data.toList.drop j) = (letC pt (s[j]'h) && allC (letC pt) (s.data.toList.drop (j + 1))) by rw [dropK_at s j h]; rfl)
      generalize hx : (s[j]'h) = x at *
      have hx2 : ∀ hh, (s[j]'hh) = x := fun _ => hx
      have hw : IntKind.i64.wrap ((j : Int) + 1) = ((j + 1 : Nat) : Int) := by rw [IntKind.wrap_i64]; omega
      have hlt : (j : Int) < (s.size : Int) := by omega
      have hn256 : x.toNat < 256 := x.toNat_lt
      have HL := hide (show letC pt x = ((decide (97 ≤ x.toNat) && decide (x.toNat ≤ 122)) || ((decide (48 ≤ x.toNat) && decide (x.toNat ≤ 57)) || decide (x.toNat = 45)) || (pt && decide (x.toNat = 46))) from rfl)
      generalize letC pt x = q at *
      generalize hn : x.toNat = n at *
      have done : q = true → Hid (allC (letC pt) (s.data.toList.drop (j + 1)) = allC (letC pt) s.data.toList) := fun hq => by rw [← unhide hE, unhide hE2, hq]; exact hide rfl
      have none : q = false → Hid (allC (letC pt) s.data.toList = false) := fun hq => by rw [← unhide hE, unhide hE2, hq]; exact hide rfl
      have D := hide done
      have N := hide none
      clear done none hx
      by_cases h1 : 97 ≤ n
      · have i1 : (97 : Int) ≤ (n : Int) := by omega
        by_cases h2 : n ≤ 122
        · have i2 : (n : Int) ≤ 122 := by omega
          have HQ := (unhide D (by rw [unhide HL]; simp <;> omega))
          clear D N HL hn256
          go_wp2
          exact ⟨⟨j + 1, by go_num, by omega, HQ, hB⟩, by simp [intOf]; omega⟩
        · have i2 : ¬ (n : Int) ≤ 122 := by omega
          have i3 : (48 : Int) ≤ (n : Int) := by omega
          have i4 : ¬ (n : Int) ≤ 57 := by omega
          have i5 : ¬ (n : Int) = 45 := by omega
          have i6 : ¬ (n : Int) = 46 := by omega
          have j5 : ((n : Int) == 45) = false := by simp; omega
          have j6 : ((n : Int) == 46) = false := by simp; omega
          cases pt with
          | true =>
            have HQ := (unhide N (by rw [unhide HL]; simp <;> omega))
            clear D N HL hn256
            go_wp2
            go_ret
            exact ⟨by first | (rw [unhide HQ]; done) | (rw [unhide HQ]; rfl), unhide hB⟩
          | false =>
            have HQ := (unhide N (by rw [unhide HL]; simp <;> omega))
            clear D N HL hn256
            go_wp2
            go_ret
            exact ⟨by first | (rw [unhide HQ]; done) | (rw [unhide HQ]; rfl), unhide hB⟩
      · have i1 : ¬ (97 : Int) ≤ (n : Int) := by omega
        by_cases h3 : 48 ≤ n
        · have i3 : (48 : Int) ≤ (n : Int) := by omega
          by_cases h4 : n ≤ 57
          · have i4 : (n : Int) ≤ 57 := by omega
            have HQ := (unhide D (by rw [unhide HL]; simp <;> omega))
            clear D N HL hn256
            go_wp2
            exact ⟨⟨j + 1, by go_num, by omega, HQ, hB⟩, by simp [intOf]; omega⟩
          · have i4 : ¬ (n : Int) ≤ 57 := by omega
            have i5 : ¬ (n : Int) = 45 := by omega
            have i6 : ¬ (n : Int) = 46 := by omega
            have j5 : ((n : Int) == 45) = false := by simp; omega
            have j6 : ((n : Int) == 46) = false := by simp; omega
            cases pt with
            | true =>
              have HQ := (unhide N (by rw [unhide HL]; simp <;> omega))
              clear D N HL hn256
              go_wp2
              go_ret
              exact ⟨by first | (rw [unhide HQ]; done) | (rw [unhide HQ]; rfl), unhide hB⟩
            | false =>
              have HQ := (unhide N (by rw [unhide HL]; simp <;> omega))
              clear D N HL hn256
              go_wp2
              go_ret
              exact ⟨by first | (rw [unhide HQ]; done) | (rw [unhide HQ]; rfl), unhide hB⟩
        · have i3 : ¬ (48 : Int) ≤ (n : Int) := by omega
          by_cases h5 : n = 45
          · subst h5
            have HQ := (unhide D (by rw [unhide HL]; simp <;> omega))
            clear D N HL hn256
            go_wp2
            exact ⟨⟨j + 1, by go_num, by omega, HQ, hB⟩, by simp [intOf]; omega⟩
          · have i5 : ¬ (n : Int) = 45 := by omega
            have j5 : ((n : Int) == 45) = false := by simp; omega
            by_cases h6 : n = 46
            · subst h6
              cases pt with
              | true =>
                have HQ := (unhide D (by rw [unhide HL]; simp <;> omega))
                clear D N HL hn256
                go_wp2
                exact ⟨⟨j + 1, by go_num, by omega, HQ, hB⟩, by simp [intOf]; omega⟩
              | false =>
                have HQ := (unhide N (by rw [unhide HL]; simp <;> omega))
                clear D N HL hn256
                go_wp2
                go_ret
                exact ⟨by first | (rw [unhide HQ]; done) | (rw [unhide HQ]; rfl), unhide hB⟩
            · have i6 : ¬ (n : Int) = 46 := by omega
              have j6 : ((n : Int) == 46) = false := by simp; omega
              cases pt with
              | true =>
                have HQ := (unhide N (by rw [unhide HL]; simp <;> omega))
                clear D N HL hn256
                go_wp2
                go_ret
                exact ⟨by first | (rw [unhide HQ]; done) | (rw [unhide HQ]; rfl), unhide hB⟩
              | false =>
                have HQ := (unhide N (by rw [unhide HL]; simp <;> omega))
                clear D N HL hn256
                go_wp2
                go_ret
                exact ⟨by first | (rw [unhide HQ]; done) | (rw [unhide HQ]; rfl), unhide hB⟩
    · have hE3 := hide (show allC (letC pt) s.data.toList = true by rw [← unhide hE, dropK_end s j h]; rfl)
      have hlt : ¬ (j : Int) < (s.size : Int) := by omega
      go_wp2
      go_ret
      exact ⟨by first | (rw [unhide hE3]; done) | (rw [unhide hE3]; rfl), unhide hB⟩
set_option maxHeartbeats 8000000 in
theorem seen_calls (s : ByteArray) (hs : s.size ≤ maxLen) (w : World) : Calls Tryz.prog 66 #[.string s] w fun e w' => e = .returned (.bool (allC addrC s.data.toList)) ∧ w' = w := by
  simp only [maxLen] at hs
  go_enter Tryz.func66, Tryz.ntmps66
  go_wp2
  go_loopw [3] (fun i wr => ∃ j : Nat, i = .int .i64 (j : Int) ∧ j ≤ s.size ∧ Hid (allC addrC (s.data.toList.drop j) = allC addrC s.data.toList) ∧ Hid (wr = w)) (fun i _ => s.size - (intOf i).toNat)
  case atStart => exact ⟨0, rfl, by omega, hide rfl, hide rfl⟩
  case round =>
    obtain ⟨j, rfl, hj, hE, hB⟩ := hrel
    by_cases h : j < s.size
    · have hE2 := hide (show allC addrC (s.data.toList.drop j) = (addrC (s[j]'h) && allC addrC (s.data.toList.drop (j + 1))) by rw [dropK_at s j h]; rfl)
      generalize hx : (s[j]'h) = x at *
      have hx2 : ∀ hh, (s[j]'hh) = x := fun _ => hx
      have hw : IntKind.i64.wrap ((j : Int) + 1) = ((j + 1 : Nat) : Int) := by rw [IntKind.wrap_i64]; omega
      have hlt : (j : Int) < (s.size : Int) := by omega
      have HL := hide (show addrC x = (decide (33 ≤ x.toNat) && decide (x.toNat ≤ 126)) from rfl)
      generalize addrC x = q at *
      generalize hn : x.toNat = n at *
      have D := hide (show q = true → Hid (allC addrC (s.data.toList.drop (j + 1)) = allC addrC s.data.toList) from fun hq => by rw [← unhide hE, unhide hE2, hq]; exact hide rfl)
      have N := hide (show q = false → Hid (allC addrC s.data.toList = false) from fun hq => by rw [← unhide hE, unhide hE2, hq]; exact hide rfl)
      clear hx
      by_cases h1 : n < 33
      · have i1 : (n : Int) < 33 := by omega
        have HQ := (unhide N (by rw [unhide HL]; simp <;> omega))
        clear D N HL
        go_wp2
        go_ret
        exact ⟨by first | (rw [unhide HQ]; done) | (rw [unhide HQ]; rfl), unhide hB⟩
      · have i1 : ¬ (n : Int) < 33 := by omega
        by_cases h2 : 126 < n
        · have i2 : (126 : Int) < (n : Int) := by omega
          have HQ := (unhide N (by rw [unhide HL]; simp <;> omega))
          clear D N HL
          go_wp2
          go_ret
          exact ⟨by first | (rw [unhide HQ]; done) | (rw [unhide HQ]; rfl), unhide hB⟩
        · have i2 : ¬ (126 : Int) < (n : Int) := by omega
          have HQ := (unhide D (by rw [unhide HL]; simp <;> omega))
          clear D N HL
          go_wp2
          exact ⟨⟨j + 1, by go_num, by omega, HQ, hB⟩, by simp [intOf]; omega⟩
    · have hE3 := hide (show allC addrC s.data.toList = true by rw [← unhide hE, dropK_end s j h]; rfl)
      have hlt : ¬ (j : Int) < (s.size : Int) := by omega
      go_wp2
      go_ret
      exact ⟨by first | (rw [unhide hE3]; done) | (rw [unhide hE3]; rfl), unhide hB⟩
theorem weightR8_calls (x : Nat) (w : World) : Calls Tryz.prog 67 #[.float .f64 x] w fun e w' => e = .returned (.bool (wtB x)) ∧ w' = w := by
  have hb := cbits_call x
  unfold wtB
  by_cases h : x < 9218868437227405312
  · have hi : (x : Int) < 9218868437227405312 := by omega
    rw [decide_eq_true h]
    go_enter Tryz.func67, Tryz.ntmps67
    go_wp2
    go_ret
    exact ⟨rfl, rfl⟩
  · have hi : ¬ (x : Int) < 9218868437227405312 := by omega
    rw [decide_eq_false h]
    go_enter Tryz.func67, Tryz.ntmps67
    go_wp2
    go_ret
    exact ⟨rfl, rfl⟩
set_option maxHeartbeats 4000000 in
theorem poolNameR_calls (s : ByteArray) (hs : s.size ≤ maxLen) (w : World) : Calls Tryz.prog 35 #[.string s] w fun e w' => e = .returned (.bool (nameT s)) ∧ w' = w := by
  have CC := hide (show Calls Tryz.prog 65 #[.string s, .bool false] w fun e w' => e = .returned (.bool (allC nameC s.data.toList)) ∧ w' = w from by have := letters_calls s false hs w; rw [letC_false] at this; exact this)
  have HE := hide (show nameT s = (decide (1 ≤ s.size) && decide (s.size ≤ 64) && allC nameC s.data.toList) from rfl)
  simp only [maxLen] at hs
  generalize allC nameC s.data.toList = b at *
  by_cases h1 : 1 ≤ s.size
  · have i1 : (1 : Int) ≤ (s.size : Int) := by omega
    by_cases h2 : s.size ≤ 64
    · have i2 : (s.size : Int) ≤ 64 := by omega
      rw [decide_eq_true h1, decide_eq_true h2, Bool.true_and, Bool.true_and] at HE
      rw [unhide HE]
      go_enter Tryz.func35, Tryz.ntmps35
      go_wp2_with fail
      refine (unhide CC).mono ?_
      rintro e w' ⟨rfl, rfl⟩
      go_wp2
      go_ret
      exact ⟨rfl, rfl⟩
    · have i2 : ¬ (s.size : Int) ≤ 64 := by omega
      rw [decide_eq_false h2, Bool.and_false, Bool.false_and] at HE
      rw [unhide HE]
      go_enter Tryz.func35, Tryz.ntmps35
      go_wp2
      go_ret
      exact ⟨rfl, rfl⟩
  · have i1 : ¬ (1 : Int) ≤ (s.size : Int) := by omega
    rw [decide_eq_false h1, Bool.false_and, Bool.false_and] at HE
    rw [unhide HE]
    go_enter Tryz.func35, Tryz.ntmps35
    go_wp2
    go_ret
    exact ⟨rfl, rfl⟩
set_option maxHeartbeats 4000000 in
theorem addrR_calls (s : ByteArray) (hs : s.size ≤ maxLen) (w : World) : Calls Tryz.prog 68 #[.string s] w fun e w' => e = .returned (.bool (addrT s)) ∧ w' = w := by
  have CC := hide (seen_calls s hs w)
  have HE := hide (show addrT s = (decide (1 ≤ s.size) && decide (s.size ≤ 64) && allC addrC s.data.toList) from rfl)
  simp only [maxLen] at hs
  generalize allC addrC s.data.toList = b at *
  by_cases h1 : 1 ≤ s.size
  · have i1 : (1 : Int) ≤ (s.size : Int) := by omega
    by_cases h2 : s.size ≤ 64
    · have i2 : (s.size : Int) ≤ 64 := by omega
      rw [decide_eq_true h1, decide_eq_true h2, Bool.true_and, Bool.true_and] at HE
      rw [unhide HE]
      go_enter Tryz.func68, Tryz.ntmps68
      go_wp2_with fail
      refine (unhide CC).mono ?_
      rintro e w' ⟨rfl, rfl⟩
      go_wp2
      go_ret
      exact ⟨rfl, rfl⟩
    · have i2 : ¬ (s.size : Int) ≤ 64 := by omega
      rw [decide_eq_false h2, Bool.and_false, Bool.false_and] at HE
      rw [unhide HE]
      go_enter Tryz.func68, Tryz.ntmps68
      go_wp2
      go_ret
      exact ⟨rfl, rfl⟩
  · have i1 : ¬ (1 : Int) ≤ (s.size : Int) := by omega
    rw [decide_eq_false h1, Bool.false_and, Bool.false_and] at HE
    rw [unhide HE]
    go_enter Tryz.func68, Tryz.ntmps68
    go_wp2
    go_ret
    exact ⟨rfl, rfl⟩
end Go.Proofs.YtpkpnedcecjlbaaGreatDoor
end
/- Conf: the document's Prefix and Host. -/
section
namespace Go.Proofs.YtpkpnedcecjlbaaGreatDoor
open Go.ChangeShapes Go.WideShapes Go.ChangeAt Go.RowKit
set_option linter.unusedVariables false

def noQ (c : UInt8) : Bool := !decide (c.toNat = 63) && !decide (c.toNat = 35)
theorem all_and2 (p q : UInt8 → Bool) : ∀ l : List UInt8, l.all (fun c => p c && q c) = (l.all p && l.all q)
  | [] => rfl
  | c :: l => by
    simp only [List.all_cons, all_and2 p q l]
    cases p c <;> cases q c <;> simp
theorem pref_all (l : List UInt8) : l.all prefC = (allC addrC l && allC noQ l) := by
  rw [show prefC = fun c => addrC c && noQ c from rfl]
  exact all_and2 _ _ l
def headB (s : ByteArray) : Bool := s.data.toList.head? == some 47
theorem head_at (s : ByteArray) (h : 0 < s.size) : headB s = decide ((s[0]'h).toNat = 47) := by
  unfold headB
  have h1 := dropK_at s 0 h
  rw [List.drop_zero] at h1
  rw [h1]
  simp only [List.head?_cons]
  generalize (s[0]'h) = x
  rw [Bool.eq_iff_iff, beq_iff_eq, decide_eq_true_eq, Option.some.injEq]
  constructor
  · intro e; rw [e]; rfl
  · intro e; exact UInt8.toNat_inj.1 e
theorem prefT_is (s : ByteArray) : prefT s = (allC noQ s.data.toList && (decide (1 ≤ s.size) && (decide (s.size ≤ 128) && (headB s && allC addrC s.data.toList)))) := by
  unfold prefT madeT
  rw [pref_all]
  unfold headB
  cases allC addrC s.data.toList <;> cases allC noQ s.data.toList <;> cases decide (1 ≤ s.size) <;> cases decide (s.size ≤ 128) <;> cases (s.data.toList.head? == some 47) <;> rfl
set_option maxHeartbeats 8000000 in
theorem prefixR_calls (s : ByteArray) (hs : s.size ≤ maxLen) (w : World) : Calls Tryz.prog 37 #[.string s] w fun e w' => e = .returned (.bool (prefT s)) ∧ w' = w := by
  have SC := hide (seen_calls s hs w)
  have PE := hide (prefT_is s)
  have HH := hide (head_at s)
  simp only [maxLen] at hs
  generalize allC addrC s.data.toList = sb at *
  generalize headB s = hb at *
  generalize prefT s = R at *
  go_enter Tryz.func37, Tryz.ntmps37
  go_wp2
  go_loopw [3] (fun i wr => ∃ j : Nat, i = .int .i64 (j : Int) ∧ j ≤ s.size ∧ Hid (allC noQ (s.data.toList.drop j) = allC noQ s.data.toList) ∧ Hid (wr = w)) (fun i _ => s.size - (intOf i).toNat)
  case atStart => exact ⟨0, rfl, by omega, hide rfl, hide rfl⟩
  case round =>
    obtain ⟨j, rfl, hj, hE, hB⟩ := hrel
    by_cases h : j < s.size
    · as_aux_lemma =>
      have hE2 := hide (show allC noQ (s.data.toList.drop j) = (noQ (s[j]'h) && allC noQ (s.data.toList.drop (j + 1))) by rw [dropK_at s j h]; rfl)
      generalize hx : (s[j]'h) = x at *
      have hx2 : ∀ hh, (s[j]'hh) = x := fun _ => hx
      have hw : IntKind.i64.wrap ((j : Int) + 1) = ((j + 1 : Nat) : Int) := by rw [IntKind.wrap_i64]; omega
      have hlt : (j : Int) < (s.size : Int) := by omega
      have HL := hide (show noQ x = (!decide (x.toNat = 63) && !decide (x.toNat = 35)) from rfl)
      generalize noQ x = q at *
      generalize hn : x.toNat = n at *
      have D := hide (show q = true → Hid (allC noQ (s.data.toList.drop (j + 1)) = allC noQ s.data.toList) from fun hq => by rw [← unhide hE, unhide hE2, hq]; exact hide rfl)
      have N := hide (show q = false → Hid (R = false) from fun hq => by
        have : allC noQ s.data.toList = false := by rw [← unhide hE, unhide hE2, hq]; rfl
        rw [unhide PE, this]; exact hide rfl)
      clear hx SC PE HH
      by_cases h1 : n = 63
      · have HQ := (unhide N (by rw [unhide HL]; simp [h1]))
        have h1' : (n : Int) = 63 := by omega
        subst h1
        clear D N HL
        go_wp2
        go_ret
        exact ⟨by first | (rw [unhide HQ]; done) | (rw [unhide HQ]; rfl), unhide hB⟩
      · have i1 : ¬ (n : Int) = 63 := by omega
        have i1' : ((n : Int) == 63) = false := by simp; omega
        by_cases h2 : n = 35
        · have HQ := (unhide N (by rw [unhide HL]; simp [h2]))
          subst h2
          clear D N HL
          go_wp2
          go_ret
          exact ⟨by first | (rw [unhide HQ]; done) | (rw [unhide HQ]; rfl), unhide hB⟩
        · have i2 : ¬ (n : Int) = 35 := by omega
          have i2' : ((n : Int) == 35) = false := by simp; omega
          have HQ := (unhide D (by rw [unhide HL]; simp [h1, h2]))
          clear D N HL
          go_wp2
          exact ⟨⟨j + 1, by go_num, by omega, HQ, hB⟩, by simp [intOf]; omega⟩
    · as_aux_lemma =>
      have hE3 : allC noQ s.data.toList = true := by rw [← unhide hE, dropK_end s j h]; rfl
      rw [hE3, Bool.true_and] at PE
      have hlt : ¬ (j : Int) < (s.size : Int) := by omega
      have hwr := unhide hB
      subst hwr
      clear hE hB hE3
      by_cases h1 : 1 ≤ s.size
      · have i1 : (1 : Int) ≤ (s.size : Int) := by omega
        by_cases h2 : s.size ≤ 128
        · have i2 : (s.size : Int) ≤ 128 := by omega
          have h0 : 0 < s.size := h1
          have H0 := hide (unhide HH h0)
          generalize hx : (s[0]'h0) = x at *
          have hx2 : ∀ hh, (s[0]'hh) = x := fun _ => hx
          generalize hn : x.toNat = n at *
          rw [decide_eq_true h1, decide_eq_true h2, Bool.true_and, Bool.true_and] at PE
          have z0 : (0 : Int) < (s.size : Int) := by omega
          clear hx HH
          by_cases h3 : n = 47
          · have i3 : (n : Int) = 47 := by omega
            rw [show hb = true by rw [unhide H0]; exact decide_eq_true h3, Bool.true_and] at PE
            subst h3
            clear H0
            go_wp2_with fail
            refine (unhide SC).mono ?_
            rintro e w' ⟨rfl, rfl⟩
            go_wp2
            go_ret
            exact ⟨by first | (rw [unhide PE]; done) | (rw [unhide PE]; rfl), rfl⟩
          · have i3 : ¬ (n : Int) = 47 := by omega
            have i3' : ((n : Int) == 47) = false := by simp; omega
            rw [show hb = false by rw [unhide H0]; exact decide_eq_false h3, Bool.false_and] at PE
            clear H0
            go_wp2
            go_ret
            exact ⟨by first | (rw [unhide PE]; done) | (rw [unhide PE]; rfl), rfl⟩
        · have i2 : ¬ (s.size : Int) ≤ 128 := by omega
          rw [decide_eq_false h2, Bool.false_and, Bool.and_false] at PE
          clear HH
          go_wp2
          go_ret
          exact ⟨by first | (rw [unhide PE]; done) | (rw [unhide PE]; rfl), rfl⟩
      · have i1 : ¬ (1 : Int) ≤ (s.size : Int) := by omega
        rw [decide_eq_false h1, Bool.false_and] at PE
        clear HH
        go_wp2
        go_ret
        exact ⟨by first | (rw [unhide PE]; done) | (rw [unhide PE]; rfl), rfl⟩
/-- No two points stand side by side; p: does one stand just ahead? -/
def noDD : Bool → List UInt8 → Bool
  | _, [] => true
  | p, c :: r => !(p && decide (c.toNat = 46)) && noDD (decide (c.toNat = 46)) r
def endD (b : Bool) (l : List UInt8) : Bool := match l.getLast? with
  | none => b
  | some c => !decide (c.toNat = 46)
theorem is46 (c : UInt8) : (c = 46) = (c.toNat = 46) := propext ⟨fun e => by rw [e]; rfl, fun e => UInt8.toNat_inj.1 e⟩
theorem name46 : ∀ c : UInt8, c.toNat = 46 → nameC c = false := fun c h => by unfold nameC; rw [h]; rfl
theorem endD_cons (b : Bool) (c : UInt8) (l : List UInt8) : endD b (c :: l) = endD (!decide (c.toNat = 46)) l := by
  cases l with
  | nil => rfl
  | cons x r => unfold endD; rw [List.getLast?_cons_cons]; simp [List.getLast?_cons]
theorem hostR_is : ∀ (l : List UInt8) (b : Bool), hostR b l = (allC (letC true) l && (noDD (!b) l && endD b l))
  | [], b => by simp [hostR, allC, noDD, endD]
  | c :: l, b => by
    unfold hostR
    rw [endD_cons]
    rw [show allC (letC true) (c :: l) = (letC true c && allC (letC true) l) from rfl, show noDD (!b) (c :: l) = (!((!b) && decide (c.toNat = 46)) && noDD (decide (c.toNat = 46)) l) from rfl]
    by_cases h : c.toNat = 46
    · rw [if_pos ((is46 c).mpr h), hostR_is l false, decide_eq_true h]
      have : letC true c = true := by unfold letC; rw [decide_eq_true h]; simp
      rw [this]
      cases b <;> simp
    · rw [if_neg (fun e => h ((is46 c).mp e)), hostR_is l true, decide_eq_false h]
      have : letC true c = nameC c := by unfold letC; rw [decide_eq_false h]; simp
      rw [this]
      cases b <;> cases nameC c <;> simp
theorem noDD_first (s : ByteArray) (h : 0 < s.size) (p : Bool) : noDD p s.data.toList = (!(p && decide ((s[0]'h).toNat = 46)) && noDD (decide ((s[0]'h).toNat = 46)) (s.data.toList.drop 1)) := by
  have h1 := dropK_at s 0 h
  rw [List.drop_zero] at h1
  conv => lhs; rw [h1]
  rfl
theorem endD_last (s : ByteArray) (h : 0 < s.size) (b : Bool) : endD b s.data.toList = !decide ((s[s.size - 1]'(by omega)).toNat = 46) := by
  have h1 := dropK_at s (s.size - 1) (by omega)
  rw [show s.size - 1 + 1 = s.size by omega, dropK_end s s.size (by omega)] at h1
  have h2 : s.data.toList = s.data.toList.take (s.size - 1) ++ [s[s.size - 1]'(by omega)] := by rw [← h1, List.take_append_drop]
  unfold endD
  rw [h2, List.getLast?_append]
  simp
theorem hostT_is (s : ByteArray) : hostT s = (decide (s.size ≤ 64) && (allC (letC true) s.data.toList && (noDD true s.data.toList && endD false s.data.toList))) := by
  unfold hostT
  rw [hostR_is]
  rfl
theorem getD_at8 (s : ByteArray) (k : Nat) (h : k < s.size) : s.data.toList.getD k 0 = s[k]'h := by
  have h1 := dropK_at s k h
  rw [List.getD_eq_getElem?_getD]
  have h2 : s.data.toList[k]? = some (s[k]'h) := by
    have := congrArg List.head? h1
    rw [List.head?_drop] at this
    exact this
  rw [h2]
  rfl
def dd (s : ByteArray) (j : Nat) : Bool := noDD (decide ((s.data.toList.getD (j - 1) 0).toNat = 46)) (s.data.toList.drop j)
theorem dd_step (s : ByteArray) (j : Nat) (h : j < s.size) : dd s j = (!(decide ((s[j - 1]'(by omega)).toNat = 46) && decide ((s[j]'h).toNat = 46)) && dd s (j + 1)) := by
  unfold dd
  rw [getD_at8 s (j - 1) (by omega), dropK_at s j h, Nat.add_sub_cancel, getD_at8 s j h]
  rfl
theorem dd_end (s : ByteArray) (j : Nat) (h : ¬ j < s.size) : dd s j = true := by
  unfold dd
  rw [dropK_end s j h]
  rfl
theorem dd_one (s : ByteArray) (h : 0 < s.size) : dd s 1 = noDD (decide ((s[0]'h).toNat = 46)) (s.data.toList.drop 1) := by
  unfold dd
  rw [getD_at8 s 0 h]
set_option maxHeartbeats 8000000 in
theorem hostR8_calls (s : ByteArray) (hs : s.size ≤ maxLen) (w : World) : Calls Tryz.prog 36 #[.string s] w fun e w' => e = .returned (.bool (hostT s)) ∧ w' = w := by
  have LC := hide (letters_calls s true hs w)
  have PE := hide (hostT_is s)
  simp only [maxLen] at hs
  generalize allC (letC true) s.data.toList = lb at *
  by_cases h1 : s.size < 1
  · as_aux_lemma =>
    have i1 : (s.size : Int) < 1 := by omega
    have e0 : s.data.toList = [] := (size0 s).1 (by omega)
    have HR : hostT s = false := by rw [hostT_is, e0]; simp [endD]
    clear e0 PE LC
    generalize hostT s = R at *
    subst HR
    go_enter Tryz.func36, Tryz.ntmps36
    go_wp2
    go_ret
    exact ⟨rfl, rfl⟩
  · have i1 : ¬ (s.size : Int) < 1 := by omega
    have h0 : 0 < s.size := by omega
    by_cases h2 : 64 < s.size
    · as_aux_lemma =>
      have i2 : (64 : Int) < (s.size : Int) := by omega
      rw [decide_eq_false (by omega), Bool.false_and] at PE
      generalize hostT s = R at *
      have HR := unhide PE
      subst HR
      clear LC PE
      go_enter Tryz.func36, Tryz.ntmps36
      go_wp2
      go_ret
      exact ⟨rfl, rfl⟩
    · have i2 : ¬ (64 : Int) < (s.size : Int) := by omega
      rw [decide_eq_true (show s.size ≤ 64 by omega), Bool.true_and, noDD_first s h0, ← dd_one s h0, endD_last s h0] at PE
      have DO := hide (dd_step s)
      have z0 : (0 : Int) < (s.size : Int) := by omega
      have zl : (0 : Int) ≤ (s.size : Int) - 1 := by omega
      have zl2 : (s.size : Int) - 1 < (s.size : Int) := by omega
      have hwl : IntKind.i64.wrap ((s.size : Int) - 1) = ((s.size - 1 : Nat) : Int) := by rw [IntKind.wrap_i64]; omega
      have zl3 : ((s.size - 1 : Nat) : Int) < (s.size : Int) := by omega
      generalize hx : (s[0]'h0) = x at *
      have hx2 : ∀ hh, (s[0]'hh) = x := fun _ => hx
      generalize hy : (s[s.size - 1]'(by omega)) = y at *
      have hy2 : ∀ hh, (s[s.size - 1]'hh) = y := fun _ => hy
      generalize hxn : x.toNat = xn at *
      generalize hyn : y.toNat = yn at *
      clear hx hy
      cases lb with
      | false =>
        as_aux_lemma =>
        have HR : hostT s = false := by rw [unhide PE]; simp
        generalize hostT s = R at *
        subst HR
        clear PE DO
        go_enter Tryz.func36, Tryz.ntmps36
        go_wp2_with fail
        refine (unhide LC).mono ?_
        rintro e w' ⟨rfl, rfl⟩
        go_wp2
        go_ret
        exact ⟨rfl, rfl⟩
      | true =>
        by_cases h3 : xn = 46
        · as_aux_lemma =>
          subst h3
          have HR : hostT s = false := by rw [unhide PE]; simp
          generalize hostT s = R at *
          subst HR
          clear PE DO
          go_enter Tryz.func36, Tryz.ntmps36
          go_wp2_with fail
          refine (unhide LC).mono ?_
          rintro e w' ⟨rfl, rfl⟩
          go_wp2
          go_ret
          exact ⟨rfl, rfl⟩
        · have i3 : ¬ (xn : Int) = 46 := by omega
          have i3' : ((xn : Int) == 46) = false := by simp; omega
          by_cases h4 : yn = 46
          · as_aux_lemma =>
            subst h4
            have HR : hostT s = false := by rw [unhide PE]; simp
            generalize hostT s = R at *
            subst HR
            clear PE DO
            go_enter Tryz.func36, Tryz.ntmps36
            go_wp2_with fail
            refine (unhide LC).mono ?_
            rintro e w' ⟨rfl, rfl⟩
            go_wp2
            go_ret
            exact ⟨rfl, rfl⟩
          · as_aux_lemma =>
            have i4 : ¬ (yn : Int) = 46 := by omega
            have i4' : ((yn : Int) == 46) = false := by simp; omega
            have HR := hide (show hostT s = dd s 1 by rw [unhide PE]; simp [h3, h4])
            generalize hostT s = R at *
            clear PE h3 h4
            go_enter Tryz.func36, Tryz.ntmps36
            go_wp2_with fail
            refine (unhide LC).mono ?_
            rintro e w' ⟨rfl, rfl⟩
            go_wp2_with fail
            go_loopw [3] (fun i wr => ∃ j : Nat, i = .int .i64 (j : Int) ∧ 1 ≤ j ∧ j ≤ s.size ∧ Hid (dd s j = R) ∧ Hid (wr = w')) (fun i _ => s.size - (intOf i).toNat)
            case atStart => exact ⟨1, rfl, by omega, by omega, hide (unhide HR).symm, hide rfl⟩
            case round =>
              obtain ⟨j, rfl, hj1, hj, hE, hB⟩ := hrel
              by_cases h : j < s.size
              · have hE2 := hide (unhide DO j h)
                have hp : j - 1 < s.size := by omega
                generalize hz : (s[j]'h) = z at *
                have hz2 : ∀ hh, (s[j]'hh) = z := fun _ => hz
                generalize hq : (s[j - 1]'hp) = zp at *
                have hq2 : ∀ hh, (s[j - 1]'hh) = zp := fun _ => hq
                have hw : IntKind.i64.wrap ((j : Int) + 1) = ((j + 1 : Nat) : Int) := by rw [IntKind.wrap_i64]; omega
                have hwm : IntKind.i64.wrap ((j : Int) - 1) = ((j - 1 : Nat) : Int) := by rw [IntKind.wrap_i64]; omega
                have hlt : (j : Int) < (s.size : Int) := by omega
                have hlp : ((j - 1 : Nat) : Int) < (s.size : Int) := by omega
                generalize hzn : z.toNat = zn at *
                generalize hqn : zp.toNat = qn at *
                clear hz hq
                by_cases g1 : zn = 46
                · subst g1
                  by_cases g2 : qn = 46
                  · subst g2
                    have HF := hide (show R = false by rw [← unhide hE, unhide hE2]; simp)
                    clear hE2 hE DO HR
                    go_wp2
                    go_ret
                    exact ⟨by first | (rw [unhide HF]; done) | (rw [unhide HF]; rfl), unhide hB⟩
                  · have k2 : ¬ (qn : Int) = 46 := by omega
                    have k2' : ((qn : Int) == 46) = false := by simp; omega
                    have HD := hide (show dd s (j + 1) = R by rw [← unhide hE, unhide hE2]; simp [g2])
                    clear hE2 hE
                    go_wp2
                    exact ⟨⟨j + 1, by go_num, by omega, by omega, HD, hB⟩, by simp [intOf]; omega⟩
                · have k1 : ¬ (zn : Int) = 46 := by omega
                  have k1' : ((zn : Int) == 46) = false := by simp; omega
                  have HD := hide (show dd s (j + 1) = R by rw [← unhide hE, unhide hE2]; simp [g1])
                  clear hE2 hE
                  go_wp2
                  exact ⟨⟨j + 1, by go_num, by omega, by omega, HD, hB⟩, by simp [intOf]; omega⟩
              · have HF := hide (show R = true by rw [← unhide hE, dd_end s j h])
                have hlt : ¬ (j : Int) < (s.size : Int) := by omega
                clear hE DO HR
                go_wp2
                go_ret
                exact ⟨by first | (rw [unhide HF]; done) | (rw [unhide HF]; rfl), unhide hB⟩
end Go.Proofs.YtpkpnedcecjlbaaGreatDoor
end
