/- Conf: Check's small functions: numbers, names, hosts, prefixes, addresses, weights. -/
import Derived.Test.YtpkpnedcecjlbaaGreatDoorB02
import Derived.Test.YtpkpnedcecjlbaaGreatDoorB07
import Derived.Test.YtpkpnedcecjlbaaGreatDoorB06
import Derived.Deep.RegionHeld3
section
namespace Go.Proofs.YtpkpnedcecjlbaaGreatDoor
open Go.ChangeShapes Go.WideShapes Go.ChangeAt Go.RowKit
set_option linter.unusedVariables false

theorem cwithin_calls (n a b : Int) (w : World) : Calls Tryz.prog 58 #[.int .i64 n, .int .i64 a, .int .i64 b] w fun e w' => e = .returned (.bool (decide (a ≤ n ∧ n ≤ b))) ∧ w' = w := by
  by_cases h1 : a ≤ n
  · by_cases h2 : n ≤ b
    · have e : decide (a ≤ n ∧ n ≤ b) = true := decide_eq_true ⟨h1, h2⟩
      rw [e]
      go_enter Tryz.func58, Tryz.ntmps58
      go_wp2
      go_ret
      exact ⟨by simp, rfl⟩
    · have e : decide (a ≤ n ∧ n ≤ b) = false := decide_eq_false fun h => h2 h.2
      rw [e]
      go_enter Tryz.func58, Tryz.ntmps58
      go_wp2
      go_ret
      exact ⟨by simp, rfl⟩
  · have e : decide (a ≤ n ∧ n ≤ b) = false := decide_eq_false fun h => h1 h.1
    rw [e]
    go_enter Tryz.func58, Tryz.ntmps58
    go_wp2
    go_ret
    exact ⟨by simp, rfl⟩
theorem ofRoute_calls (a : Int) (w : World) : Calls Tryz.prog 59 #[.int .i64 a] w fun e w' => e = .returned (.bool (isRoute a)) ∧ w' = w := by
  by_cases h1 : a = 3
  · subst h1
    go_enter Tryz.func59, Tryz.ntmps59
    go_wp2
    go_ret
    exact ⟨rfl, rfl⟩
  · by_cases h2 : a = 4
    · subst h2
      go_enter Tryz.func59, Tryz.ntmps59
      go_wp2
      go_ret
      exact ⟨by first | rfl | (simp; omega) | (simp; done) | (congr 2; rw [Bool.eq_iff_iff]; simp; omega), rfl⟩
    · have e : isRoute a = false := by simp [isRoute, h1, h2]
      rw [e]
      go_enter Tryz.func59, Tryz.ntmps59
      go_wp2
      go_ret
      exact ⟨by first | rfl | (simp; omega) | (simp; done) | (congr 2; rw [Bool.eq_iff_iff]; simp; omega), rfl⟩
theorem ofAddress_calls (c : UInt8) (w : World) : Calls Tryz.prog 107 #[.int .u8 (c.toNat : Int)] w fun e w' => e = .returned (.bool (addrC c)) ∧ w' = w := by
  unfold addrC
  generalize c.toNat = n
  by_cases h1 : 33 ≤ n
  · by_cases h2 : n ≤ 126
    · have i1 : (33 : Int) ≤ (n : Int) := by omega
      have i2 : (n : Int) ≤ 126 := by omega
      go_enter Tryz.func107, Tryz.ntmps107
      go_wp2
      go_ret
      exact ⟨by first | rfl | (simp; omega) | (simp; done) | (congr 2; rw [Bool.eq_iff_iff]; simp; omega), rfl⟩
    · have i1 : (33 : Int) ≤ (n : Int) := by omega
      have i2 : ¬ (n : Int) ≤ 126 := by omega
      go_enter Tryz.func107, Tryz.ntmps107
      go_wp2
      go_ret
      exact ⟨by first | rfl | (simp; omega) | (simp; done) | (congr 2; rw [Bool.eq_iff_iff]; simp; omega), rfl⟩
  · have i1 : ¬ (33 : Int) ≤ (n : Int) := by omega
    go_enter Tryz.func107, Tryz.ntmps107
    go_wp2
    go_ret
    exact ⟨by first | rfl | (simp; omega) | (simp; done) | (congr 2; rw [Bool.eq_iff_iff]; simp; omega), rfl⟩
theorem ofPrefix_calls (c : UInt8) (w : World) : Calls Tryz.prog 89 #[.int .u8 (c.toNat : Int)] w fun e w' => e = .returned (.bool (prefC c)) ∧ w' = w := by
  have HA := hide (fun w => ofAddress_calls c w)
  unfold prefC
  generalize addrC c = b at *
  generalize c.toNat = n at *
  cases b
  · go_enter Tryz.func89, Tryz.ntmps89
    go_wp2_with (go_at_call 107; refine (unhide HA _).mono ?_; rintro e w' ⟨rfl, rfl⟩)
    go_ret
    exact ⟨rfl, rfl⟩
  · by_cases h1 : n = 63
    · subst h1
      go_enter Tryz.func89, Tryz.ntmps89
      go_wp2_with (go_at_call 107; refine (unhide HA _).mono ?_; rintro e w' ⟨rfl, rfl⟩)
      go_ret
      exact ⟨by first | rfl | (simp; omega) | (simp; done) | (congr 2; rw [Bool.eq_iff_iff]; simp; omega), rfl⟩
    · have i1 : ¬ (n : Int) = 63 := by omega
      by_cases h2 : n = 35
      · subst h2
        go_enter Tryz.func89, Tryz.ntmps89
        go_wp2_with (go_at_call 107; refine (unhide HA _).mono ?_; rintro e w' ⟨rfl, rfl⟩)
        go_ret
        exact ⟨rfl, rfl⟩
      · have i2 : ¬ (n : Int) = 35 := by omega
        have j1 : ((n : Int) != 63) = true := by simp; omega
        have j2 : ((n : Int) != 35) = true := by simp; omega
        go_enter Tryz.func89, Tryz.ntmps89
        go_wp2_with (go_at_call 107; refine (unhide HA _).mono ?_; rintro e w' ⟨rfl, rfl⟩)
        go_ret
        exact ⟨by first | rfl | (simp; omega) | (simp; done) | (congr 2; rw [Bool.eq_iff_iff]; simp; omega), rfl⟩
theorem ofName_calls (c : UInt8) (w : World) : Calls Tryz.prog 90 #[.int .u8 (c.toNat : Int)] w fun e w' => e = .returned (.bool (nameC c)) ∧ w' = w := by
  unfold nameC
  generalize c.toNat = n
  by_cases h1 : 97 ≤ n
  · have i1 : (97 : Int) ≤ (n : Int) := by omega
    have i3 : (48 : Int) ≤ (n : Int) := by omega
    have i4 : ¬ (n : Int) ≤ 57 := by omega
    have i5 : ¬ (n : Int) = 45 := by omega
    have h5 : ¬ n = 45 := by omega
    have h4 : ¬ n ≤ 57 := by omega
    by_cases h2 : n ≤ 122
    · have i2 : (n : Int) ≤ 122 := by omega
      clear i3 i4 i5
      go_enter Tryz.func90, Tryz.ntmps90
      go_wp2
      go_ret
      exact ⟨by first | rfl | (simp; omega) | (simp; done) | (congr 2; rw [Bool.eq_iff_iff]; simp; omega), rfl⟩
    · have i2 : ¬ (n : Int) ≤ 122 := by omega
      go_enter Tryz.func90, Tryz.ntmps90
      go_wp2
      go_ret
      exact ⟨by first | rfl | (simp; omega) | (simp; done) | (congr 2; rw [Bool.eq_iff_iff]; simp; omega), rfl⟩
  · have i1 : ¬ (97 : Int) ≤ (n : Int) := by omega
    by_cases h3 : 48 ≤ n
    · have i3 : (48 : Int) ≤ (n : Int) := by omega
      have i5 : ¬ (n : Int) = 45 := by omega
      have h5 : ¬ n = 45 := by omega
      by_cases h4 : n ≤ 57
      · have i4 : (n : Int) ≤ 57 := by omega
        clear i5
        go_enter Tryz.func90, Tryz.ntmps90
        go_wp2
        go_ret
        exact ⟨by first | rfl | (simp; omega) | (simp; done) | (congr 2; rw [Bool.eq_iff_iff]; simp; omega), rfl⟩
      · have i4 : ¬ (n : Int) ≤ 57 := by omega
        go_enter Tryz.func90, Tryz.ntmps90
        go_wp2
        go_ret
        exact ⟨by first | rfl | (simp; omega) | (simp; done) | (congr 2; rw [Bool.eq_iff_iff]; simp; omega), rfl⟩
    · have i3 : ¬ (48 : Int) ≤ (n : Int) := by omega
      by_cases h5 : n = 45
      · subst h5
        go_enter Tryz.func90, Tryz.ntmps90
        go_wp2
        go_ret
        exact ⟨rfl, rfl⟩
      · have i5 : ¬ (n : Int) = 45 := by omega
        go_enter Tryz.func90, Tryz.ntmps90
        go_wp2
        go_ret
        exact ⟨by first | rfl | (simp; omega) | (simp; done) | (congr 2; rw [Bool.eq_iff_iff]; simp; omega), rfl⟩
theorem bsT_at (s : ByteArray) (j : Nat) (h : j < s.size) : (bsT s).getD j 0 = (s.data.toList[j]'(by simpa using h)).toNat := by
  rw [List.getD_eq_getElem?_getD]
  unfold bsT
  rw [List.getElem?_map, List.getElem?_eq_getElem (by simpa using h)]
  rfl
set_option maxRecDepth 20000 in
set_option maxHeartbeats 2000000 in
theorem made_calls (s : ByteArray) (most K : Nat) (f : UInt8 → Bool) (hK : ∀ (c : Array Value) (w : World), (callFunc K c).run Tryz.prog w = .ok (.enter K c) w)
    (hf : ∀ (c : UInt8) (w : World), Calls Tryz.prog K (#[.int .u8 (c.toNat : Int)] ++ #[]) w fun e w' => e = .returned (.bool (f c)) ∧ w' = w) (hs : s.size ≤ 140737488355328) (w : World) :
    Calls Tryz.prog 88 #[.string s, .int .i64 (most : Int), .func (.func K) #[] #[]] w fun e w' => e = .returned (.bool (madeT s most f)) ∧ Below w.heap.size w w' := by
  have CW := hide (fun w => cwithin_calls (s.size : Int) 1 (most : Int) w)
  have HF := hide hf
  have E0 := hide (show madeT s most f = (decide (1 ≤ s.size) && decide (s.size ≤ most) && s.data.toList.all f) from rfl)
  clear hf
  by_cases h1 : 1 ≤ s.size ∧ s.size ≤ most
  · have e1 : decide ((1 : Int) ≤ (s.size : Int) ∧ (s.size : Int) ≤ (most : Int)) = true := decide_eq_true ⟨by omega, by omega⟩
    have E := hide (show madeT s most f = s.data.toList.all f by rw [unhide E0, decide_eq_true h1.1, decide_eq_true h1.2]; rfl)
    rw [e1] at CW
    clear e1 E0 h1
    obtain ⟨c, W1, hcv, hc, hb, hB⟩ := conv_bs w s
    have HB := hide hb
    have B1 := hide hB
    have hn := bsT_len s
    clear hb hB
    go_enter Tryz.func88, Tryz.ntmps88
    go_wp2_with (go_at_call 58; refine (unhide CW _).mono ?_; rintro e w' ⟨rfl, rfl⟩)
    go_loopw [17] (fun i wr => ∃ j : Nat, i = .int .i64 (j : Int) ∧ j ≤ s.size ∧ Hid (s.data.toList.all f = (s.data.toList.drop j).all f) ∧ Hid (wr = W1)) (fun i _ => s.size - (intOf i).toNat)
    case atStart => exact ⟨0, rfl, by omega, hide rfl, hide rfl⟩
    case round =>
      obtain ⟨j, rfl, hj, hE, HW⟩ := hrel
      have hw := unhide HW
      subst hw
      by_cases h : j < s.size
      · have hlt : (j : Int) < (s.size : Int) := by omega
        have hj0 : (0 : Int) ≤ (j : Int) := by omega
        have hjl : j < s.data.toList.length := by simpa using h
        obtain ⟨b, off, hbe, hcell⟩ := (unhide HB).cell j (by rw [hn]; exact h)
        simp only [Option.some.injEq, Addr.mk.injEq, and_true] at hbe
        obtain ⟨rfl, rfl⟩ := hbe
        rw [bsT_at s j h, Nat.zero_add] at hcell
        have hd : s.data.toList.drop j = s.data.toList[j] :: s.data.toList.drop (j + 1) := List.drop_eq_getElem_cons hjl
        have HD := hide (show s.data.toList.all f = (f s.data.toList[j] && (s.data.toList.drop (j + 1)).all f) by rw [unhide hE, hd]; rfl)
        have CF := hide (unhide HF s.data.toList[j])
        generalize s.data.toList[j] = x at *
        clear hd hE HF
        cases hx : f x
        · rw [hx] at HD CF
          have E3 := hide (show madeT s most f = false by rw [unhide E, unhide HD]; rfl)
          clear hx
          go_wp2_with fail
          refine (unhide CF _).mono ?_
          rintro e w' ⟨rfl, rfl⟩
          go_wp2
          go_ret
          exact ⟨by rw [unhide E3]; rfl, unhide B1⟩
        · rw [hx] at HD CF
          clear hx
          go_wp2_with fail
          refine (unhide CF _).mono ?_
          rintro e w' ⟨rfl, rfl⟩
          go_wp2
          exact ⟨⟨j + 1, by go_num, by omega, hide (by rw [unhide HD]; rfl), HW⟩, by simp [intOf]; omega⟩
      · have hlt : ¬ (j : Int) < (s.size : Int) := by omega
        have E3 := hide (show madeT s most f = true by rw [unhide E, unhide hE, List.drop_of_length_le (by rw [Array.length_toList]; show s.size ≤ j; omega)]; rfl)
        go_wp2
        go_ret
        exact ⟨by rw [unhide E3]; rfl, unhide B1⟩
  · have e1 : decide ((1 : Int) ≤ (s.size : Int) ∧ (s.size : Int) ≤ (most : Int)) = false := decide_eq_false fun h => h1 ⟨by omega, by omega⟩
    have E := hide (show madeT s most f = false by
      rw [unhide E0]
      by_cases h2 : 1 ≤ s.size
      · have h3 : ¬ s.size ≤ most := fun h => h1 ⟨h2, h⟩
        simp [h3]
      · simp [h2])
    rw [e1] at CW
    clear e1 E0 h1
    go_enter Tryz.func88, Tryz.ntmps88
    go_wp2_with (go_at_call 58; refine (unhide CW _).mono ?_; rintro e w' ⟨rfl, rfl⟩)
    go_ret
    exact ⟨by rw [unhide E]; rfl, Below.refl _ _⟩
theorem enter_ofName (c : Array Value) (w : World) : (callFunc 90 c).run Tryz.prog w = .ok (.enter 90 c) w := by
  simp [callFunc, go_sem, Tryz.func90]
  rw [if_neg (by decide +kernel), if_neg (by decide +kernel)]
theorem enter_ofAddress (c : Array Value) (w : World) : (callFunc 107 c).run Tryz.prog w = .ok (.enter 107 c) w := by
  simp [callFunc, go_sem, Tryz.func107]
  rw [if_neg (by decide +kernel), if_neg (by decide +kernel)]
theorem enter_ofPrefix (c : Array Value) (w : World) : (callFunc 89 c).run Tryz.prog w = .ok (.enter 89 c) w := by
  simp [callFunc, go_sem, Tryz.func89]
  rw [if_neg (by decide +kernel), if_neg (by decide +kernel)]
theorem isName_calls (s : ByteArray) (hs : s.size ≤ 140737488355328) (w : World) : Calls Tryz.prog 62 #[.string s] w fun e w' => e = .returned (.bool (nameT s)) ∧ Below w.heap.size w w' := by
  have CM := hide (fun w => made_calls s 64 90 nameC enter_ofName (fun c w => ofName_calls c w) hs w)
  unfold nameT
  generalize madeT s 64 nameC = b at *
  go_enter Tryz.func62, Tryz.ntmps62
  go_wp2_with (go_at_call 88; refine (unhide CM _).mono ?_; rintro e w' ⟨rfl, hb⟩)
  go_ret
  exact ⟨rfl, hb⟩
theorem isAddress_calls (s : ByteArray) (hs : s.size ≤ 140737488355328) (w : World) : Calls Tryz.prog 91 #[.string s] w fun e w' => e = .returned (.bool (addrT s)) ∧ Below w.heap.size w w' := by
  have CM := hide (fun w => made_calls s 64 107 addrC enter_ofAddress (fun c w => ofAddress_calls c w) hs w)
  unfold addrT
  generalize madeT s 64 addrC = b at *
  go_enter Tryz.func91, Tryz.ntmps91
  go_wp2_with (go_at_call 88; refine (unhide CM _).mono ?_; rintro e w' ⟨rfl, hb⟩)
  go_ret
  exact ⟨rfl, hb⟩
theorem isPrefix_calls (s : ByteArray) (hs : s.size ≤ 140737488355328) (w : World) : Calls Tryz.prog 61 #[.string s] w fun e w' => e = .returned (.bool (prefT s)) ∧ Below w.heap.size w w' := by
  have CM := hide (fun w => made_calls s 128 89 prefC enter_ofPrefix (fun c w => ofPrefix_calls c w) hs w)
  cases hm : madeT s 128 prefC
  · have E := hide (show prefT s = false by unfold prefT; rw [hm]; rfl)
    rw [hm] at CM
    clear hm
    go_enter Tryz.func61, Tryz.ntmps61
    go_wp2_with (go_at_call 88; refine (unhide CM _).mono ?_; rintro e w' ⟨rfl, hb⟩)
    go_ret
    exact ⟨by rw [unhide E]; rfl, hb⟩
  · have h1 : 1 ≤ s.size := by
      unfold madeT at hm
      simp only [Bool.and_eq_true, decide_eq_true_eq] at hm
      exact hm.1.1
    have hl : 0 < s.data.toList.length := by rw [Array.length_toList]; exact h1
    have hx : (0 : Int) < (s.size : Int) := by omega
    have hh : s.data.toList.head? = some (s[0]'h1) := by
      rw [List.head?_eq_getElem?, List.getElem?_eq_getElem hl]; rfl
    have E := hide (show prefT s = (((s[0]'h1).toNat : Int) == 47) by
      unfold prefT
      rw [hm, hh, Bool.true_and, Bool.eq_iff_iff]
      simp only [beq_iff_eq, Option.some.injEq]
      rw [← UInt8.toNat_inj]
      have : (47 : UInt8).toNat = 47 := rfl
      omega)
    rw [hm] at CM
    clear hm hh hl
    generalize hy : (s[0]'h1) = x at *
    have hx2 : ∀ hh, (s[0]'hh) = x := fun _ => hy
    have hz : (s.toList)[0]? = some x := by rw [ByteArray.toList_eq, List.getElem?_eq_getElem (by rw [Array.length_toList]; exact h1)]; exact congrArg some hy
    go_enter Tryz.func61, Tryz.ntmps61
    go_wp2_with (go_at_call 88; refine (unhide CM _).mono ?_; rintro e w' ⟨rfl, hb⟩)
    go_ret
    exact ⟨by rw [unhide E]; rfl, hb⟩
end Go.Proofs.YtpkpnedcecjlbaaGreatDoor
end
/- Conf: Check's small functions, the rest: hosts, weights, lists of targets. -/
section
namespace Go.Proofs.YtpkpnedcecjlbaaGreatDoor
open Go.ChangeShapes Go.WideShapes Go.ChangeAt Go.RowKit
set_option linter.unusedVariables false

theorem inf_calls (w : World) : Calls Tryz.prog 92 #[.int .i64 1] w fun e w' => e = .returned (.float .f64 9218868437227405312) ∧ w' = w := by
  have hf : ∀ w, (callFunc 16 #[.int .u64 9218868437227405312]).run Tryz.prog w = .ok (.value (.float .f64 9218868437227405312)) w := fun w => cfrom_call 9218868437227405312 w
  go_enter Tryz.func92, Tryz.ntmps92
  go_wp2
  go_ret
  exact ⟨rfl, rfl⟩
set_option maxRecDepth 20000 in
theorem isWeight_calls (x : Nat) (w : World) : Calls Tryz.prog 64 #[.float .f64 x] w fun e w' => e = .returned (.bool (wtB x)) ∧ Below w.heap.size w w' := by
  have hb := cbits_call x
  have hb2 : ∀ w, (callFunc 18 #[.float .f64 9218868437227405312]).run Tryz.prog w = .ok (.value (.int .u64 9218868437227405312)) w := fun w => cbits_call 9218868437227405312 w
  have B0 := hide (Below.refl w.heap.size w)
  unfold wtB
  by_cases h : x < 9218868437227405312
  · have hi : (x : Int) < 9218868437227405312 := by omega
    have e : decide (x < 9218868437227405312) = true := decide_eq_true h
    rw [e]
    go_enter Tryz.func64, Tryz.ntmps64
    go_wp2_with (go_at_call 92; refine (inf_calls _).mono ?_; rintro e w1 ⟨rfl, rfl⟩)
    go_ret
    exact ⟨by rfl, by first | exact unhide B0 | exact (unhide B0).drew⟩
  · have hi : ¬ (x : Int) < 9218868437227405312 := by omega
    have e : decide (x < 9218868437227405312) = false := decide_eq_false h
    have dI : decide ((x : Int) < 9218868437227405312) = false := decide_eq_false hi
    rw [e]
    go_enter Tryz.func64, Tryz.ntmps64
    go_wp2_with (go_at_call 92; refine (inf_calls _).mono ?_; rintro e w1 ⟨rfl, rfl⟩)
    go_ret
    exact ⟨rfl, by first | exact unhide B0 | exact (unhide B0).drew⟩
theorem all_drop {α : Type} (l : List α) (f : α → Bool) (j : Nat) (h : j < l.length) : (l.drop j).all f = (f l[j] && (l.drop (j + 1)).all f) := by
  rw [List.drop_eq_getElem_cons h]; rfl
set_option maxRecDepth 20000 in
set_option maxHeartbeats 4000000 in
theorem weightsMayBe_calls {w : World} {a : Option Addr} {l : List Tgt} (h : TgsAt w a l) (n c : Nat) (hn : l.length = n) (hx : n ≤ maxLen) :
    Calls Tryz.prog 34 #[.slice a n c] w fun e w' => e = .returned (.bool (wtsOk l)) ∧ Below w.heap.size w w' := by
  have H1 := hide h
  have HN := hide hn
  have E0 := hide (show wtsOk l = (l.drop 0).all (fun t => wtB t.2) from rfl)
  simp only [maxLen] at hx
  have hsF := run_storeF .plain
  clear h hn
  go_enter Tryz.func34, Tryz.ntmps34
  go_wp2_with fail
  go_loopw [7] (fun i wr => ∃ j : Nat, j ≤ n ∧ i = .int .i64 (j : Int) ∧ Hid (wtsOk l = (l.drop j).all (fun t => wtB t.2)) ∧ Hid (Below w.heap.size w wr)) (fun i _ => n - (intOf i).toNat)
  case atStart => exact ⟨0, by omega, rfl, E0, hide (Below.refl _ _)⟩
  case round =>
    obtain ⟨j, hj, rfl, HE, B⟩ := hrel
    by_cases hjn : j < n
    · have y0 : (0 : Int) ≤ (j : Int) := by omega
      have y1 : (j : Int) < (n : Int) := by omega
      have hjl : j < l.length := by rw [unhide HN]; exact hjn
      obtain ⟨b1, o1, rfl, q0, q1⟩ := (unhide H1).cell j hjl
      have p0 := cell_later (unhide B) q0
      have p1 := cell_later (unhide B) q1
      have HD := hide (show wtsOk l = (wtB l[j].2 && (l.drop (j + 1)).all (fun t => wtB t.2)) by rw [unhide HE, all_drop l _ j hjl])
      clear HE q0 q1
      generalize l[j] = t at *
      obtain ⟨s, x⟩ := t
      simp only at p0 p1 HD
      have X1 := heap_new wr (.cells #[.string s, .float .f64 x] 43)
      have c1 := box_cell X1 1 (.float .f64 x) rfl
      have BX := hide (show Below w.heap.size w (wr.alloc (.cells #[.string s, .float .f64 x] 43)) from (unhide B).alloc (unhide B).size _)
      clear X1
      cases hw : wtB x
      · rw [hw] at HD
        go_wp2_with (go_at_call 64; refine (isWeight_calls x _).mono ?_; rintro e w1 ⟨rfl, hb⟩; rw [hw])
        go_ret
        exact ⟨by rw [unhide HD]; rfl, (unhide BX).trans (hb.mono (unhide BX).size)⟩
      · rw [hw] at HD
        go_wp2_with (go_at_call 64; refine (isWeight_calls x _).mono ?_; rintro e w1 ⟨rfl, hb⟩; rw [hw]; have B3 := hide ((unhide BX).trans (hb.mono (unhide BX).size)); clear hb)
        exact ⟨⟨j + 1, by omega, by go_num, hide (by rw [unhide HD]; rfl), B3⟩, by simp [intOf]; omega⟩
    · have hjj : ¬ (j : Int) < (n : Int) := by omega
      have E3 := hide (show wtsOk l = true by rw [unhide HE, List.drop_of_length_le (by rw [unhide HN]; omega)]; rfl)
      go_wp2
      go_ret
      exact ⟨by rw [unhide E3]; rfl, unhide B⟩
set_option maxRecDepth 20000 in
set_option maxHeartbeats 4000000 in
theorem addressesMayBe_calls {w : World} {a : Option Addr} {l : List Tgt} (h : TgsAt w a l) (hz : ∀ t ∈ l, t.1.size ≤ 140737488355328) (n c : Nat) (hn : l.length = n) (hx : n ≤ maxLen) :
    Calls Tryz.prog 63 #[.slice a n c] w fun e w' => e = .returned (.bool (l.all (fun t => addrT t.1))) ∧ Below w.heap.size w w' := by
  have H1 := hide h
  have HN := hide hn
  have HZ := hide hz
  have E0 := hide (show l.all (fun t => addrT t.1) = (l.drop 0).all (fun t => addrT t.1) from rfl)
  simp only [maxLen] at hx
  have hsF := run_storeF .plain
  generalize hR : l.all (fun t => addrT t.1) = R at *
  clear h hn hz hR
  go_enter Tryz.func63, Tryz.ntmps63
  go_wp2_with fail
  go_loopw [7] (fun i wr => ∃ j : Nat, j ≤ n ∧ i = .int .i64 (j : Int) ∧ Hid (R = (l.drop j).all (fun t => addrT t.1)) ∧ Hid (Below w.heap.size w wr)) (fun i _ => n - (intOf i).toNat)
  case atStart => exact ⟨0, by omega, rfl, E0, hide (Below.refl _ _)⟩
  case round =>
    obtain ⟨j, hj, rfl, HE, B⟩ := hrel
    by_cases hjn : j < n
    · have y0 : (0 : Int) ≤ (j : Int) := by omega
      have y1 : (j : Int) < (n : Int) := by omega
      have hjl : j < l.length := by rw [unhide HN]; exact hjn
      obtain ⟨b1, o1, rfl, q0, q1⟩ := (unhide H1).cell j hjl
      have p0 := cell_later (unhide B) q0
      have p1 := cell_later (unhide B) q1
      have HD := hide (show R = (addrT l[j].1 && (l.drop (j + 1)).all (fun t => addrT t.1)) by rw [unhide HE, all_drop l _ j hjl])
      have HS := hide (unhide HZ l[j] (List.getElem_mem hjl))
      clear HE q0 q1
      generalize l[j] = t at *
      obtain ⟨s, x⟩ := t
      simp only at p0 p1 HD HS
      have X1 := heap_new wr (.cells #[.string s, .float .f64 x] 43)
      have c1 := box_cell X1 0 (.string s) rfl
      have BX := hide (show Below w.heap.size w (wr.alloc (.cells #[.string s, .float .f64 x] 43)) from (unhide B).alloc (unhide B).size _)
      clear X1
      cases hw : addrT s
      · rw [hw] at HD
        go_wp2_with (go_at_call 91; refine (isAddress_calls s (unhide HS) _).mono ?_; rintro e w1 ⟨rfl, hb⟩; rw [hw])
        go_ret
        exact ⟨by rw [unhide HD]; rfl, (unhide BX).trans (hb.mono (unhide BX).size)⟩
      · rw [hw] at HD
        go_wp2_with (go_at_call 91; refine (isAddress_calls s (unhide HS) _).mono ?_; rintro e w1 ⟨rfl, hb⟩; rw [hw]; have B3 := hide ((unhide BX).trans (hb.mono (unhide BX).size)); clear hb)
        exact ⟨⟨j + 1, by omega, by go_num, hide (by rw [unhide HD]; rfl), B3⟩, by simp [intOf]; omega⟩
    · have hjj : ¬ (j : Int) < (n : Int) := by omega
      have E3 := hide (show R = true by rw [unhide HE, List.drop_of_length_le (by rw [unhide HN]; omega)]; rfl)
      go_wp2
      go_ret
      exact ⟨by rw [unhide E3]; rfl, unhide B⟩
/-- The library's variable that strings.Split reads. -/
def Mx (w : World) : Prop := ∃ m, w.cell? ⟨Tryz.laysM146_ren.g 1, 0, none⟩ = some (.int .i64 m)
theorem Mx.later {w w' : World} (h : Mx w) (hb : Below w.heap.size w w') : Mx w' := let ⟨m, hm⟩ := h; ⟨m, cell_later hb hm⟩
theorem split_calls (s : ByteArray) (w : World) (hm : Mx w) (hs : s.size ≤ 64) : Calls Tryz.prog 87 #[.string s, .string ⟨#[46]⟩] w fun e w' =>
    e = .returned (.slice (some ⟨w.heap.size, 0, none⟩) (Lib.splitB dotB 0 (Lib.countB s dotB) s).length (Lib.splitB dotB 0 (Lib.countB s dotB) s).length) ∧ w' = w.alloc (.cells ((Lib.splitB dotB 0 (Lib.countB s dotB) s).map Value.string).toArray 9) := by
  obtain ⟨m, hm⟩ := hm
  have h1 : 1 ≤ dotB.size := by decide
  have hlen := Lib.splitB_all dotB h1 0 _ s rfl
  have := Any.strings_Split { Tryz.laysM146 with } Tryz.laysM146.i9 s dotB m w (by omega) hm h1
  rw [hlen]
  exact this
set_option maxRecDepth 20000 in
set_option maxHeartbeats 4000000 in
theorem isHost_calls (s : ByteArray) (hs : s.size ≤ 140737488355328) (w : World) (hm : Mx w) : Calls Tryz.prog 60 #[.string s] w fun e w' => e = .returned (.bool (hostT s)) ∧ Below w.heap.size w w' := by
  by_cases h64 : s.size ≤ 64
  · have SC := hide (split_calls s w hm h64)
    have E0 := hide (show hostT s = ((Lib.splitB dotB 0 (Lib.countB s dotB) s).drop 0).all nameT by rw [List.drop_zero, split_host _ s rfl h64]; unfold hostT; rw [decide_eq_true h64]; rfl)
    have HZ := hide (show ∀ p ∈ Lib.splitB dotB 0 (Lib.countB s dotB) s, p.size ≤ 140737488355328 from fun p hp => Nat.le_trans (split_le _ _ _ hp) hs)
    have HC := hide (show (Lib.splitB dotB 0 (Lib.countB s dotB) s).length ≤ 65 by
      rw [Lib.splitB_all dotB (by decide) 0 _ s rfl]
      have := Lib.countB_le dotB (by decide) s.size s (Nat.le_refl _)
      omega)
    have hi : ¬ (64 : Int) < (s.size : Int) := by omega
    generalize Lib.splitB dotB 0 (Lib.countB s dotB) s = l at *
    have X1 := heap_new w (.cells (l.map Value.string).toArray 9)
    have HX := hide X1
    have B0 := hide (show Below w.heap.size w (w.alloc (.cells (l.map Value.string).toArray 9)) from (Below.refl _ _).alloc (Nat.le_refl _) _)
    have KC := hide (show ∀ j x W, l[j]? = some x → Below (w.heap.size + 1) (w.alloc (.cells (l.map Value.string).toArray 9)) W → W.cell? ⟨w.heap.size, j, none⟩ = some (.string x) from fun j x W hx hb => by
      have hg := (hb.block w.heap.size (by omega)).trans (unhide HX)
      rw [cell_of_row _ _ _ _ _ _ hg]
      simp [hx])
    have hc := unhide HC
    clear X1 HX HC hm h64
    generalize hn : l.length = n at *
    have HN := hide hn
    clear hn
    go_enter Tryz.func60, Tryz.ntmps60
    go_wp2_with (go_at_call 87; refine (unhide SC).mono ?_; rintro e w1 ⟨rfl, rfl⟩)
    go_loopw [11] (fun i wr => ∃ j : Nat, j ≤ n ∧ i = .int .i64 (j : Int) ∧ Hid (hostT s = (l.drop j).all nameT) ∧ Hid (Below (w.heap.size + 1) (w.alloc (.cells (l.map Value.string).toArray 9)) wr)) (fun i _ => n - (intOf i).toNat)
    case atStart => exact ⟨0, by omega, rfl, E0, hide (Below.refl _ _)⟩
    case round =>
      obtain ⟨j, hj, rfl, HE, B⟩ := hrel
      by_cases hjn : j < n
      · have y0 : (0 : Int) ≤ (j : Int) := by omega
        have y1 : (j : Int) < (n : Int) := by omega
        have hjl : j < l.length := by rw [unhide HN]; exact hjn
        have p0 := unhide KC j _ wr (List.getElem?_eq_getElem hjl) (unhide B)
        have HD := hide (show hostT s = (nameT l[j] && (l.drop (j + 1)).all nameT) by rw [unhide HE, all_drop l _ j hjl])
        have HS := hide (unhide HZ l[j] (List.getElem_mem hjl))
        clear HE
        generalize l[j] = t at *
        cases hw : nameT t
        · rw [hw] at HD
          go_wp2_with (go_at_call 62; refine (isName_calls t (unhide HS) _).mono ?_; rintro e w1 ⟨rfl, hb⟩; rw [hw])
          go_ret
          exact ⟨by rw [unhide HD]; rfl, (unhide B0).trans (((unhide B).trans (hb.mono (by have := (unhide B).size; simp at this; omega))).mono (by simp))⟩
        · rw [hw] at HD
          go_wp2_with (go_at_call 62; refine (isName_calls t (unhide HS) _).mono ?_; rintro e w1 ⟨rfl, hb⟩; rw [hw]; have B3 := hide ((unhide B).trans (hb.mono (by have := (unhide B).size; simp at this; omega))); clear hb)
          exact ⟨⟨j + 1, by omega, by go_num, hide (by rw [unhide HD]; rfl), B3⟩, by simp [intOf]; omega⟩
      · have hjj : ¬ (j : Int) < (n : Int) := by omega
        have E3 := hide (show hostT s = true by rw [unhide HE, List.drop_of_length_le (by rw [unhide HN]; omega)]; rfl)
        go_wp2
        go_ret
        exact ⟨by rw [unhide E3]; rfl, (unhide B0).trans ((unhide B).mono (by simp))⟩
  · have hi : (64 : Int) < (s.size : Int) := by omega
    have E := hide (show hostT s = false by unfold hostT; rw [decide_eq_false h64]; rfl)
    go_enter Tryz.func60, Tryz.ntmps60
    go_wp2
    go_ret
    exact ⟨by rw [unhide E]; rfl, Below.refl _ _⟩
end Go.Proofs.YtpkpnedcecjlbaaGreatDoor
end
/- Conf: Check. -/
section
namespace Go.Proofs.YtpkpnedcecjlbaaGreatDoor
open Go.ChangeShapes Go.WideShapes Go.ChangeAt Go.RowKit
set_option linter.unusedVariables false

/-- A command's value, and where its targets lie. -/
def cmdVal (c : Cmd) (a : Option Addr) (tc : Nat) : Value := .agg #[.int .i64 c.act, .int .i64 c.cli, .int .i64 c.seq, .int .i64 c.exp, .string c.host, .string c.pre, .string c.pool, .slice a c.ts.length tc]
def cmdRow (c : Cmd) (a : Option Addr) (tc : Nat) : Array Value := #[.int .i64 c.act, .int .i64 c.cli, .int .i64 c.seq, .int .i64 c.exp, .string c.host, .string c.pre, .string c.pool, .slice a c.ts.length tc]
structure CmdAt (w : World) (c : Cmd) (a : Option Addr) (tc : Nat) : Prop where
  tgs : TgsAt w a c.ts
  tz : ∀ t ∈ c.ts, t.1.size ≤ 140737488355328
  th : c.host.size ≤ 140737488355328
  tp : c.pre.size ≤ 140737488355328
  tl : c.pool.size ≤ 140737488355328
  tn : c.ts.length ≤ maxLen ∧ c.ts.length ≤ tc
  tnil : a = none → tc = 0
  ia : -9223372036854775808 ≤ c.act ∧ c.act ≤ 9223372036854775807
  ic : -9223372036854775808 ≤ c.cli ∧ c.cli ≤ 9223372036854775807
  is : -9223372036854775808 ≤ c.seq ∧ c.seq ≤ 9223372036854775807
  ie : -9223372036854775808 ≤ c.exp ∧ c.exp ≤ 9223372036854775807
theorem CmdAt.later {w w' : World} {c : Cmd} {a : Option Addr} {tc : Nat} (h : CmdAt w c a tc) (hb : Below w.heap.size w w') : CmdAt w' c a tc :=
  ⟨h.tgs.later hb, h.tz, h.th, h.tp, h.tl, h.tn, h.tnil, h.ia, h.ic, h.is, h.ie⟩
def cmdBox (c : Cmd) (a : Option Addr) (tc : Nat) : Obj := .cells (cmdRow c a tc) 25
set_option maxRecDepth 20000 in
set_option maxHeartbeats 8000000 in
theorem numbersMayBe_calls (c : Cmd) (a : Option Addr) (tc : Nat) (w : World) : Calls Tryz.prog 31 #[cmdVal c a tc] w fun e w' => e = .returned (.bool (numsOk c)) ∧ Below w.heap.size w w' := by
  have HE := hide (show numsOk c = (decide (1 ≤ c.act ∧ c.act ≤ 4) && decide (0 ≤ c.cli ∧ c.cli ≤ 32) && (if c.cli = 0 then decide (c.seq = 0) else decide (1 ≤ c.seq ∧ c.seq ≤ 1099511627776)) && decide (-1 ≤ c.exp ∧ c.exp ≤ 1099511627775)) from rfl)
  unfold cmdVal
  obtain ⟨act, cli, seq, exp, host, pre, pool, ts⟩ := c
  simp only at *
  generalize numsOk ⟨act, cli, seq, exp, host, pre, pool, ts⟩ = R at *
  generalize ts.length = tn
  have X1 := hide (heap_new w (.cells #[.int .i64 act, .int .i64 cli, .int .i64 seq, .int .i64 exp, .string host, .string pre, .string pool, .slice a tn tc] 25))
  have k0 := box_cell (unhide X1) 0 _ rfl
  have k1 := box_cell (unhide X1) 1 _ rfl
  have k2 := box_cell (unhide X1) 2 _ rfl
  have k3 := box_cell (unhide X1) 3 _ rfl
  have B0 := hide (show Below w.heap.size w (w.alloc (.cells #[.int .i64 act, .int .i64 cli, .int .i64 seq, .int .i64 exp, .string host, .string pre, .string pool, .slice a tn tc] 25)) from (Below.refl _ _).alloc (Nat.le_refl _) _)
  clear X1
  by_cases hc : cli = 0
  · subst hc
    have HR0 := hide (show R = (decide (1 ≤ act ∧ act ≤ 4) && decide (0 ≤ (0 : Int) ∧ (0 : Int) ≤ 32) && decide (0 ≤ seq ∧ seq ≤ 0) && decide (-1 ≤ exp ∧ exp ≤ 1099511627775)) by rw [unhide HE, if_pos rfl]; congr 2; rw [Bool.eq_iff_iff, decide_eq_true_eq, decide_eq_true_eq]; omega)
    have C1 := hide (fun w => cwithin_calls act 1 4 w)
    have C2 := hide (fun w => cwithin_calls 0 0 32 w)
    have C3 := hide (fun w => cwithin_calls seq 0 0 w)
    have C4 := hide (fun w => cwithin_calls exp (-1) 1099511627775 w)
    clear HE
    generalize decide (1 ≤ act ∧ act ≤ 4) = b1 at *
    generalize decide ((0 : Int) ≤ 0 ∧ (0 : Int) ≤ 32) = b2 at *
    generalize decide (0 ≤ seq ∧ seq ≤ 0) = b3 at *
    generalize decide (-1 ≤ exp ∧ exp ≤ 1099511627775) = b4 at *
    cases b1
    · have HR : R = false := by rw [unhide HR0]; rfl
      go_enter Tryz.func31, Tryz.ntmps31
      go_wp2_with fail
      refine (unhide C1 _).mono ?_
      rintro e V1 ⟨rfl, rfl⟩
      go_wp2
      go_ret
      exact ⟨by rw [HR]; rfl, unhide B0⟩
    · skip
      cases b2
      · have HR : R = false := by rw [unhide HR0]; simp
        go_enter Tryz.func31, Tryz.ntmps31
        go_wp2_with fail
        refine (unhide C1 _).mono ?_
        rintro e V1 ⟨rfl, rfl⟩
        go_wp2_with fail
        refine (unhide C2 _).mono ?_
        rintro e V2 ⟨rfl, rfl⟩
        go_wp2
        go_ret
        exact ⟨by rw [HR]; rfl, unhide B0⟩
      · skip
        cases b3
        · have HR : R = false := by rw [unhide HR0]; simp
          go_enter Tryz.func31, Tryz.ntmps31
          go_wp2_with fail
          refine (unhide C1 _).mono ?_
          rintro e V1 ⟨rfl, rfl⟩
          go_wp2_with fail
          refine (unhide C2 _).mono ?_
          rintro e V2 ⟨rfl, rfl⟩
          go_wp2_with fail
          refine (unhide C3 _).mono ?_
          rintro e V3 ⟨rfl, rfl⟩
          go_wp2
          go_ret
          exact ⟨by rw [HR]; rfl, unhide B0⟩
        · skip
          have HR : R = b4 := by rw [unhide HR0]; rfl
          go_enter Tryz.func31, Tryz.ntmps31
          go_wp2_with fail
          refine (unhide C1 _).mono ?_
          rintro e V1 ⟨rfl, rfl⟩
          go_wp2_with fail
          refine (unhide C2 _).mono ?_
          rintro e V2 ⟨rfl, rfl⟩
          go_wp2_with fail
          refine (unhide C3 _).mono ?_
          rintro e V3 ⟨rfl, rfl⟩
          go_wp2_with fail
          refine (unhide C4 _).mono ?_
          rintro e V4 ⟨rfl, rfl⟩
          go_wp2
          go_ret
          exact ⟨by rw [HR]; rfl, unhide B0⟩
  · have hci : (cli == 0) = false := by simpa using hc
    have HR0 := hide (show R = (decide (1 ≤ act ∧ act ≤ 4) && decide (0 ≤ cli ∧ cli ≤ 32) && decide (1 ≤ seq ∧ seq ≤ 1099511627776) && decide (-1 ≤ exp ∧ exp ≤ 1099511627775)) by rw [unhide HE, if_neg hc])
    have C1 := hide (fun w => cwithin_calls act 1 4 w)
    have C2 := hide (fun w => cwithin_calls cli 0 32 w)
    have C3 := hide (fun w => cwithin_calls seq 1 1099511627776 w)
    have C4 := hide (fun w => cwithin_calls exp (-1) 1099511627775 w)
    clear HE
    generalize decide (1 ≤ act ∧ act ≤ 4) = b1 at *
    generalize decide (0 ≤ cli ∧ cli ≤ 32) = b2 at *
    generalize decide (1 ≤ seq ∧ seq ≤ 1099511627776) = b3 at *
    generalize decide (-1 ≤ exp ∧ exp ≤ 1099511627775) = b4 at *
    cases b1
    · have HR : R = false := by rw [unhide HR0]; rfl
      go_enter Tryz.func31, Tryz.ntmps31
      go_wp2_with fail
      refine (unhide C1 _).mono ?_
      rintro e V1 ⟨rfl, rfl⟩
      go_wp2
      go_ret
      exact ⟨by rw [HR]; rfl, unhide B0⟩
    · skip
      cases b2
      · have HR : R = false := by rw [unhide HR0]; simp
        go_enter Tryz.func31, Tryz.ntmps31
        go_wp2_with fail
        refine (unhide C1 _).mono ?_
        rintro e V1 ⟨rfl, rfl⟩
        go_wp2_with fail
        refine (unhide C2 _).mono ?_
        rintro e V2 ⟨rfl, rfl⟩
        go_wp2
        go_ret
        exact ⟨by rw [HR]; rfl, unhide B0⟩
      · skip
        cases b3
        · have HR : R = false := by rw [unhide HR0]; simp
          go_enter Tryz.func31, Tryz.ntmps31
          go_wp2_with fail
          refine (unhide C1 _).mono ?_
          rintro e V1 ⟨rfl, rfl⟩
          go_wp2_with fail
          refine (unhide C2 _).mono ?_
          rintro e V2 ⟨rfl, rfl⟩
          go_wp2_with fail
          refine (unhide C3 _).mono ?_
          rintro e V3 ⟨rfl, rfl⟩
          go_wp2
          go_ret
          exact ⟨by rw [HR]; rfl, unhide B0⟩
        · skip
          have HR : R = b4 := by rw [unhide HR0]; rfl
          go_enter Tryz.func31, Tryz.ntmps31
          go_wp2_with fail
          refine (unhide C1 _).mono ?_
          rintro e V1 ⟨rfl, rfl⟩
          go_wp2_with fail
          refine (unhide C2 _).mono ?_
          rintro e V2 ⟨rfl, rfl⟩
          go_wp2_with fail
          refine (unhide C3 _).mono ?_
          rintro e V3 ⟨rfl, rfl⟩
          go_wp2_with fail
          refine (unhide C4 _).mono ?_
          rintro e V4 ⟨rfl, rfl⟩
          go_wp2
          go_ret
          exact ⟨by rw [HR]; rfl, unhide B0⟩
end Go.Proofs.YtpkpnedcecjlbaaGreatDoor
end
