/- Contracts of the library's functions at this program's numbers. -/
import Derived.Shelf.Small.Bits
import Derived.Shelf.Strconv.Itoa0
import Derived.Shelf.Strings.Search1
import Derived.Shelf.Strings.Search2
import Derived.Shelf.Strings.Search3
import Derived.Shelf.Strings.Count
import Derived.Shelf.LaysM
import Derived.Shelf.Strings.Shaped
import Derived.Shelf.Strings.Split
import Derived.Shelf.Strings.SplitShaped
import Derived.Shelf.Unicode.DecodeSlow
import Derived.Test.YtpkpnedcecjlbaaGreatDoorProg
import Derived.Test.YtpkpnedcecjlbaaGreatDoorB02
import Derived.Test.YtpkpnedcecjlbaaGreatDoorB10
section
namespace Go.Proofs
open Go.Shelf
def Tryz.laysM146_ren : Go.Shelf.Ren := ⟨fun | 146 => 87 | 221 => 106 | 268 => 134 | 138 => 135 | 143 => 136 | 195 => 146 | 197 => 147 | 218 => 148 | 219 => 149 | 260 => 152 | 217 => 153 | 225 => 154 | 224 => 155 | 267 => 156 | 266 => 157 | 314 => 158 | n => n, fun | 9 => 9 | 31 => 87 | 3 => 3 | 4 => 4 | 0 => 0 | 105 => 179 | 21 => 21 | 5 => 5 | 46 => 44 | 119 => 186 | 139 => 189 | 138 => 188 | 146 => 190 | 51 => 155 | n => n, fun | 1 => 1 | 3 => 2 | 4 => 3 | n => n⟩
theorem Tryz.laysM146 : Go.Proofs.LaysM.n146 Tryz.prog Tryz.laysM146_ren := {
  mixed := by kernel_rfl
  f138 := Tryz.func135.trans (congrArg some (by kernel_rfl))
  f143 := Tryz.func136.trans (congrArg some (by kernel_rfl))
  f146 := Tryz.func87.trans (congrArg some (by kernel_rfl))
  f195 := Tryz.func146.trans (congrArg some (by kernel_rfl))
  f197 := Tryz.func147.trans (congrArg some (by kernel_rfl))
  f217 := Tryz.func153.trans (congrArg some (by kernel_rfl))
  f218 := Tryz.func148.trans (congrArg some (by kernel_rfl))
  f219 := Tryz.func149.trans (congrArg some (by kernel_rfl))
  f221 := Tryz.func106.trans (congrArg some (by kernel_rfl))
  f224 := Tryz.func155.trans (congrArg some (by kernel_rfl))
  f225 := Tryz.func154.trans (congrArg some (by kernel_rfl))
  f260 := Tryz.func152.trans (congrArg some (by kernel_rfl))
  f266 := Tryz.func157.trans (congrArg some (by kernel_rfl))
  f267 := Tryz.func156.trans (congrArg some (by kernel_rfl))
  f268 := Tryz.func134.trans (congrArg some (by kernel_rfl))
  f314 := Tryz.func158.trans (congrArg some (by kernel_rfl))
  t0 := Tryz.underlying0
  a0 := Tryz.isAgg0
  z0 := Tryz.sizeOf0
  v0 := Tryz.zeroValue0
  t3 := Tryz.underlying3
  a3 := Tryz.isAgg3
  z3 := Tryz.sizeOf3
  v3 := Tryz.zeroValue3
  t4 := Tryz.underlying4
  a4 := Tryz.isAgg4
  z4 := Tryz.sizeOf4
  v4 := Tryz.zeroValue4
  t5 := Tryz.underlying5
  a5 := Tryz.isAgg5
  z5 := Tryz.sizeOf5
  v5 := Tryz.zeroValue5
  t9 := Tryz.underlying9
  a9 := Tryz.isAgg9
  z9 := Tryz.sizeOf9
  v9 := Tryz.zeroValue9
  t21 := Tryz.underlying21
  a21 := Tryz.isAgg21
  z21 := Tryz.sizeOf21
  v21 := Tryz.zeroValue21
  t31 := Tryz.underlying87
  a31 := Tryz.isAgg87
  z31 := Tryz.sizeOf87
  v31 := Tryz.zeroValue87
  t46 := Tryz.underlying44
  a46 := Tryz.isAgg44
  z46 := Tryz.sizeOf44
  v46 := Tryz.zeroValue44
  t51 := Tryz.underlying155
  a51 := Tryz.isAgg155
  z51 := Tryz.sizeOf155
  v51 := Tryz.zeroValue155
  t105 := Tryz.underlying179
  a105 := Tryz.isAgg179
  z105 := Tryz.sizeOf179
  v105 := Tryz.zeroValue179
  t119 := Tryz.underlying186
  a119 := Tryz.isAgg186
  z119 := Tryz.sizeOf186
  t138 := Tryz.underlying188
  a138 := Tryz.isAgg188
  z138 := Tryz.sizeOf188
  v138 := Tryz.zeroValue188
  t139 := Tryz.underlying189
  a139 := Tryz.isAgg189
  z139 := Tryz.sizeOf189
  v139 := Tryz.zeroValue189
  t146 := Tryz.underlying190
  a146 := Tryz.isAgg190
  z146 := Tryz.sizeOf190
  v146 := Tryz.zeroValue190
  g1 := by kernel_rfl
  g3 := by kernel_rfl
  g4 := by kernel_rfl
  i0 := by kernel_rfl
  i3 := by kernel_rfl
  i4 := by kernel_rfl
  i5 := by kernel_rfl
  i9 := by kernel_rfl
  i21 := by kernel_rfl
  i31 := by kernel_rfl
  i46 := by kernel_rfl
  i51 := by kernel_rfl
  i105 := by kernel_rfl
  i138 := by kernel_rfl
  i139 := by kernel_rfl
  i146 := by kernel_rfl
  m1 := by kernel_rfl
  s1_3 := fun w h => Go.Proofs.cell_of_shapedOpen_int (zero := #[.int .i64 0]) (t := 3) h (of_decide_eq_true (by kernel_rfl)) (by kernel_rfl) rfl (by kernel_rfl) (by kernel_rfl) Tryz.underlying3
  m3 := by kernel_rfl
  m4 := by kernel_rfl }
open Go.RowKit Go.Lib in
theorem Tryz.strings_Split_shaped (s sep : ByteArray) (w : World) (h : w.ShapedOpen Tryz.prog) (hs : s.size < 4294967281) (h1 : 1 ≤ sep.size) :
    Calls Tryz.prog 87 #[.string s, .string sep] w fun e w' =>
      e = .returned (.slice (some ⟨w.heap.size, 0, none⟩) (Lib.countB s sep + 1) (Lib.countB s sep + 1)) ∧ w' = w.alloc (.cells ((Lib.splitB sep 0 (Lib.countB s sep) s).map Value.string).toArray 9) := Any.strings_Split_shaped Tryz.laysM146 s sep w h hs h1
end Go.Proofs
end
/- Conf: Check's small functions: numbers, names, hosts, prefixes, addresses, weights. -/
section
namespace Go.Proofs.YtpkpnedcecjlbaaGreatDoor
open Go.ChangeShapes Go.WideShapes Go.ChangeAt Go.RowKit
set_option linter.unusedVariables false

theorem cwithin_calls (n a b : Int) (w : World) : Calls Tryz.prog 58 #[.int .i64 n, .int .i64 a, .int .i64 b] w fun e w' => e = .returned (.bool (decide (a ≤ n ∧ n ≤ b))) ∧ w' = w := by
  by_cases h1 : a ≤ n
  · by_cases h2 : n ≤ b
    · have e : decide (a ≤ n ∧ n ≤ b) = true := decide_eq_true ⟨h1, h2⟩
      rw [e]
      go_enter Tryz.func58, Tryz.ntmps58
      go_wp2
      go_ret
      exact ⟨by simp, rfl⟩
    · have e : decide (a ≤ n ∧ n ≤ b) = false := decide_eq_false fun h => h2 h.2
      rw [e]
      go_enter Tryz.func58, Tryz.ntmps58
      go_wp2
      go_ret
      exact ⟨by simp, rfl⟩
  · have e : decide (a ≤ n ∧ n ≤ b) = false := decide_eq_false fun h => h1 h.1
    rw [e]
    go_enter Tryz.func58, Tryz.ntmps58
    go_wp2
    go_ret
    exact ⟨by simp, rfl⟩
theorem ofRoute_calls (a : Int) (w : World) : Calls Tryz.prog 59 #[.int .i64 a] w fun e w' => e = .returned (.bool (isRoute a)) ∧ w' = w := by
  by_cases h1 : a = 3
  · subst h1
    go_enter Tryz.func59, Tryz.ntmps59
    go_wp2
    go_ret
    exact ⟨rfl, rfl⟩
  · by_cases h2 : a = 4
    · subst h2
      go_enter Tryz.func59, Tryz.ntmps59
      go_wp2
      go_ret
      exact ⟨by first | rfl | (simp; omega) | (simp; done) | (congr 2; rw [Bool.eq_iff_iff]; simp; omega), rfl⟩
    · have e : isRoute a = false := by simp [isRoute, h1, h2]
      rw [e]
      go_enter Tryz.func59, Tryz.ntmps59
      go_wp2
      go_ret
      exact ⟨by first | rfl | (simp; omega) | (simp; done) | (congr 2; rw [Bool.eq_iff_iff]; simp; omega), rfl⟩
theorem ofAddress_calls (c : UInt8) (w : World) : Calls Tryz.prog 107 #[.int .u8 (c.toNat : Int)] w fun e w' => e = .returned (.bool (addrC c)) ∧ w' = w := by
  unfold addrC
  generalize c.toNat = n
  by_cases h1 : 33 ≤ n
  · by_cases h2 : n ≤ 126
    · have i1 : (33 : Int) ≤ (n : Int) := by omega
      have i2 : (n : Int) ≤ 126 := by omega
      go_enter Tryz.func107, Tryz.ntmps107
      go_wp2
      go_ret
      exact ⟨by first | rfl | (simp; omega) | (simp; done) | (congr 2; rw [Bool.eq_iff_iff]; simp; omega), rfl⟩
    · have i1 : (33 : Int) ≤ (n : Int) := by omega
      have i2 : ¬ (n : Int) ≤ 126 := by omega
      go_enter Tryz.func107, Tryz.ntmps107
      go_wp2
      go_ret
      exact ⟨by first | rfl | (simp; omega) | (simp; done) | (congr 2; rw [Bool.eq_iff_iff]; simp; omega), rfl⟩
  · have i1 : ¬ (33 : Int) ≤ (n : Int) := by omega
    go_enter Tryz.func107, Tryz.ntmps107
    go_wp2
    go_ret
    exact ⟨by first | rfl | (simp; omega) | (simp; done) | (congr 2; rw [Bool.eq_iff_iff]; simp; omega), rfl⟩
theorem ofPrefix_calls (c : UInt8) (w : World) : Calls Tryz.prog 89 #[.int .u8 (c.toNat : Int)] w fun e w' => e = .returned (.bool (prefC c)) ∧ w' = w := by
  have HA := hide (fun w => ofAddress_calls c w)
  unfold prefC
  generalize addrC c = b at *
  generalize c.toNat = n at *
  cases b
  · go_enter Tryz.func89, Tryz.ntmps89
    go_wp2_with (go_at_call 107; refine (unhide HA _).mono ?_; rintro e w' ⟨rfl, rfl⟩)
    go_ret
    exact ⟨rfl, rfl⟩
  · by_cases h1 : n = 63
    · subst h1
      go_enter Tryz.func89, Tryz.ntmps89
      go_wp2_with (go_at_call 107; refine (unhide HA _).mono ?_; rintro e w' ⟨rfl, rfl⟩)
      go_ret
      exact ⟨by first | rfl | (simp; omega) | (simp; done) | (congr 2; rw [Bool.eq_iff_iff]; simp; omega), rfl⟩
    · have i1 : ¬ (n : Int) = 63 := by omega
      by_cases h2 : n = 35
      · subst h2
        go_enter Tryz.func89, Tryz.ntmps89
        go_wp2_with (go_at_call 107; refine (unhide HA _).mono ?_; rintro e w' ⟨rfl, rfl⟩)
        go_ret
        exact ⟨rfl, rfl⟩
      · have i2 : ¬ (n : Int) = 35 := by omega
        have j1 : ((n : Int) != 63) = true := by simp; omega
        have j2 : ((n : Int) != 35) = true := by simp; omega
        go_enter Tryz.func89, Tryz.ntmps89
        go_wp2_with (go_at_call 107; refine (unhide HA _).mono ?_; rintro e w' ⟨rfl, rfl⟩)
        go_ret
        exact ⟨by first | rfl | (simp; omega) | (simp; done) | (congr 2; rw [Bool.eq_iff_iff]; simp; omega), rfl⟩
theorem ofName_calls (c : UInt8) (w : World) : Calls Tryz.prog 90 #[.int .u8 (c.toNat : Int)] w fun e w' => e = .returned (.bool (nameC c)) ∧ w' = w := by
  unfold nameC
  generalize c.toNat = n
  by_cases h1 : 97 ≤ n
  · have i1 : (97 : Int) ≤ (n : Int) := by omega
    have i3 : (48 : Int) ≤ (n : Int) := by omega
    have i4 : ¬ (n : Int) ≤ 57 := by omega
    have i5 : ¬ (n : Int) = 45 := by omega
    have h5 : ¬ n = 45 := by omega
    have h4 : ¬ n ≤ 57 := by omega
    by_cases h2 : n ≤ 122
    · have i2 : (n : Int) ≤ 122 := by omega
      clear i3 i4 i5
      go_enter Tryz.func90, Tryz.ntmps90
      go_wp2
      go_ret
      exact ⟨by first | rfl | (simp; omega) | (simp; done) | (congr 2; rw [Bool.eq_iff_iff]; simp; omega), rfl⟩
    · have i2 : ¬ (n : Int) ≤ 122 := by omega
      go_enter Tryz.func90, Tryz.ntmps90
      go_wp2
      go_ret
      exact ⟨by first | rfl | (simp; omega) | (simp; done) | (congr 2; rw [Bool.eq_iff_iff]; simp; omega), rfl⟩
  · have i1 : ¬ (97 : Int) ≤ (n : Int) := by omega
    by_cases h3 : 48 ≤ n
    · have i3 : (48 : Int) ≤ (n : Int) := by omega
      have i5 : ¬ (n : Int) = 45 := by omega
      have h5 : ¬ n = 45 := by omega
      by_cases h4 : n ≤ 57
      · have i4 : (n : Int) ≤ 57 := by omega
        clear i5
        go_enter Tryz.func90, Tryz.ntmps90
        go_wp2
        go_ret
        exact ⟨by first | rfl | (simp; omega) | (simp; done) | (congr 2; rw [Bool.eq_iff_iff]; simp; omega), rfl⟩
      · have i4 : ¬ (n : Int) ≤ 57 := by omega
        go_enter Tryz.func90, Tryz.ntmps90
        go_wp2
        go_ret
        exact ⟨by first | rfl | (simp; omega) | (simp; done) | (congr 2; rw [Bool.eq_iff_iff]; simp; omega), rfl⟩
    · have i3 : ¬ (48 : Int) ≤ (n : Int) := by omega
      by_cases h5 : n = 45
      · subst h5
        go_enter Tryz.func90, Tryz.ntmps90
        go_wp2
        go_ret
        exact ⟨rfl, rfl⟩
      · have i5 : ¬ (n : Int) = 45 := by omega
        go_enter Tryz.func90, Tryz.ntmps90
        go_wp2
        go_ret
        exact ⟨by first | rfl | (simp; omega) | (simp; done) | (congr 2; rw [Bool.eq_iff_iff]; simp; omega), rfl⟩
theorem bsT_at (s : ByteArray) (j : Nat) (h : j < s.size) : (bsT s).getD j 0 = (s.data.toList[j]'(by simpa using h)).toNat := by
  rw [List.getD_eq_getElem?_getD]
  unfold bsT
  rw [List.getElem?_map, List.getElem?_eq_getElem (by simpa using h)]
  rfl
set_option maxRecDepth 20000 in
set_option maxHeartbeats 2000000 in
theorem made_calls (s : ByteArray) (most K : Nat) (f : UInt8 → Bool) (hK : ∀ (c : Array Value) (w : World), (callFunc K c).run Tryz.prog w = .ok (.enter K c) w)
    (hf : ∀ (c : UInt8) (w : World), Calls Tryz.prog K (#[.int .u8 (c.toNat : Int)] ++ #[]) w fun e w' => e = .returned (.bool (f c)) ∧ w' = w) (hs : s.size ≤ 140737488355328) (w : World) :
    Calls Tryz.prog 88 #[.string s, .int .i64 (most : Int), .func (.func K) #[] #[]] w fun e w' => e = .returned (.bool (madeT s most f)) ∧ Below w.heap.size w w' := by
  have CW := hide (fun w => cwithin_calls (s.size : Int) 1 (most : Int) w)
  have HF := hide hf
  have E0 := hide (show madeT s most f = (decide (1 ≤ s.size) && decide (s.size ≤ most) && s.data.toList.all f) from rfl)
  clear hf
  by_cases h1 : 1 ≤ s.size ∧ s.size ≤ most
  · have e1 : decide ((1 : Int) ≤ (s.size : Int) ∧ (s.size : Int) ≤ (most : Int)) = true := decide_eq_true ⟨by omega, by omega⟩
    have E := hide (show madeT s most f = s.data.toList.all f by rw [unhide E0, decide_eq_true h1.1, decide_eq_true h1.2]; rfl)
    rw [e1] at CW
    clear e1 E0 h1
    obtain ⟨c, W1, hcv, hc, hb, hB⟩ := conv_bs w s
    have HB := hide hb
    have B1 := hide hB
    have hn := bsT_len s
    clear hb hB
    go_enter Tryz.func88, Tryz.ntmps88
    go_wp2_with (go_at_call 58; refine (unhide CW _).mono ?_; rintro e w' ⟨rfl, rfl⟩)
    go_loopw [17] (fun i wr => ∃ j : Nat, i = .int .i64 (j : Int) ∧ j ≤ s.size ∧ Hid (s.data.toList.all f = (s.data.toList.drop j).all f) ∧ Hid (wr = W1)) (fun i _ => s.size - (intOf i).toNat)
    case atStart => exact ⟨0, rfl, by omega, hide rfl, hide rfl⟩
    case round =>
      obtain ⟨j, rfl, hj, hE, HW⟩ := hrel
      have hw := unhide HW
      subst hw
      by_cases h : j < s.size
      · have hlt : (j : Int) < (s.size : Int) := by omega
        have hj0 : (0 : Int) ≤ (j : Int) := by omega
        have hjl : j < s.data.toList.length := by simpa using h
        obtain ⟨b, off, hbe, hcell⟩ := (unhide HB).cell j (by rw [hn]; exact h)
        simp only [Option.some.injEq, Addr.mk.injEq, and_true] at hbe
        obtain ⟨rfl, rfl⟩ := hbe
        rw [bsT_at s j h, Nat.zero_add] at hcell
        have hd : s.data.toList.drop j = s.data.toList[j] :: s.data.toList.drop (j + 1) := List.drop_eq_getElem_cons hjl
        have HD := hide (show s.data.toList.all f = (f s.data.toList[j] && (s.data.toList.drop (j + 1)).all f) by rw [unhide hE, hd]; rfl)
        have CF := hide (unhide HF s.data.toList[j])
        generalize s.data.toList[j] = x at *
        clear hd hE HF
        cases hx : f x
        · rw [hx] at HD CF
          have E3 := hide (show madeT s most f = false by rw [unhide E, unhide HD]; rfl)
          clear hx
          go_wp2_with fail
          refine (unhide CF _).mono ?_
          rintro e w' ⟨rfl, rfl⟩
          go_wp2
          go_ret
          exact ⟨by rw [unhide E3]; rfl, unhide B1⟩
        · rw [hx] at HD CF
          clear hx
          go_wp2_with fail
          refine (unhide CF _).mono ?_
          rintro e w' ⟨rfl, rfl⟩
          go_wp2
          exact ⟨⟨j + 1, by go_num, by omega, hide (by rw [unhide HD]; rfl), HW⟩, by simp [intOf]; omega⟩
      · have hlt : ¬ (j : Int) < (s.size : Int) := by omega
        have E3 := hide (show madeT s most f = true by rw [unhide E, unhide hE, List.drop_of_length_le (by rw [Array.length_toList]; show s.size ≤ j; omega)]; rfl)
        go_wp2
        go_ret
        exact ⟨by rw [unhide E3]; rfl, unhide B1⟩
  · have e1 : decide ((1 : Int) ≤ (s.size : Int) ∧ (s.size : Int) ≤ (most : Int)) = false := decide_eq_false fun h => h1 ⟨by omega, by omega⟩
    have E := hide (show madeT s most f = false by
      rw [unhide E0]
      by_cases h2 : 1 ≤ s.size
      · have h3 : ¬ s.size ≤ most := fun h => h1 ⟨h2, h⟩
        simp [h3]
      · simp [h2])
    rw [e1] at CW
    clear e1 E0 h1
    go_enter Tryz.func88, Tryz.ntmps88
    go_wp2_with (go_at_call 58; refine (unhide CW _).mono ?_; rintro e w' ⟨rfl, rfl⟩)
    go_ret
    exact ⟨by rw [unhide E]; rfl, Below.refl _ _⟩
theorem enter_ofName (c : Array Value) (w : World) : (callFunc 90 c).run Tryz.prog w = .ok (.enter 90 c) w := by
  simp [callFunc, go_sem, Tryz.func90]
  rw [if_neg (by decide +kernel), if_neg (by decide +kernel)]
theorem enter_ofAddress (c : Array Value) (w : World) : (callFunc 107 c).run Tryz.prog w = .ok (.enter 107 c) w := by
  simp [callFunc, go_sem, Tryz.func107]
  rw [if_neg (by decide +kernel), if_neg (by decide +kernel)]
theorem enter_ofPrefix (c : Array Value) (w : World) : (callFunc 89 c).run Tryz.prog w = .ok (.enter 89 c) w := by
  simp [callFunc, go_sem, Tryz.func89]
  rw [if_neg (by decide +kernel), if_neg (by decide +kernel)]
theorem isName_calls (s : ByteArray) (hs : s.size ≤ 140737488355328) (w : World) : Calls Tryz.prog 62 #[.string s] w fun e w' => e = .returned (.bool (nameT s)) ∧ Below w.heap.size w w' := by
  have CM := hide (fun w => made_calls s 64 90 nameC enter_ofName (fun c w => ofName_calls c w) hs w)
  unfold nameT
  generalize madeT s 64 nameC = b at *
  go_enter Tryz.func62, Tryz.ntmps62
  go_wp2_with (go_at_call 88; refine (unhide CM _).mono ?_; rintro e w' ⟨rfl, hb⟩)
  go_ret
  exact ⟨rfl, hb⟩
theorem isAddress_calls (s : ByteArray) (hs : s.size ≤ 140737488355328) (w : World) : Calls Tryz.prog 91 #[.string s] w fun e w' => e = .returned (.bool (addrT s)) ∧ Below w.heap.size w w' := by
  have CM := hide (fun w => made_calls s 64 107 addrC enter_ofAddress (fun c w => ofAddress_calls c w) hs w)
  unfold addrT
  generalize madeT s 64 addrC = b at *
  go_enter Tryz.func91, Tryz.ntmps91
  go_wp2_with (go_at_call 88; refine (unhide CM _).mono ?_; rintro e w' ⟨rfl, hb⟩)
  go_ret
  exact ⟨rfl, hb⟩
theorem isPrefix_calls (s : ByteArray) (hs : s.size ≤ 140737488355328) (w : World) : Calls Tryz.prog 61 #[.string s] w fun e w' => e = .returned (.bool (prefT s)) ∧ Below w.heap.size w w' := by
  have CM := hide (fun w => made_calls s 128 89 prefC enter_ofPrefix (fun c w => ofPrefix_calls c w) hs w)
  cases hm : madeT s 128 prefC
  · have E := hide (show prefT s = false by unfold prefT; rw [hm]; rfl)
    rw [hm] at CM
    clear hm
    go_enter Tryz.func61, Tryz.ntmps61
    go_wp2_with (go_at_call 88; refine (unhide CM _).mono ?_; rintro e w' ⟨rfl, hb⟩)
    go_ret
    exact ⟨by rw [unhide E]; rfl, hb⟩
  · have h1 : 1 ≤ s.size := by
      unfold madeT at hm
      simp only [Bool.and_eq_true, decide_eq_true_eq] at hm
      exact hm.1.1
    have hl : 0 < s.data.toList.length := by rw [Array.length_toList]; exact h1
    have hx : (0 : Int) < (s.size : Int) := by omega
    have hh : s.data.toList.head? = some (s[0]'h1) := by
      rw [List.head?_eq_getElem?, List.getElem?_eq_getElem hl]; rfl
    have E := hide (show prefT s = (((s[0]'h1).toNat : Int) == 47) by
      unfold prefT
      rw [hm, hh, Bool.true_and, Bool.eq_iff_iff]
      simp only [beq_iff_eq, Option.some.injEq]
      rw [← UInt8.toNat_inj]
      have : (47 : UInt8).toNat = 47 := rfl
      omega)
    rw [hm] at CM
    clear hm hh hl
    generalize hy : (s[0]'h1) = x at *
    have hx2 : ∀ hh, (s[0]'hh) = x := fun _ => hy
    have hz : (s.toList)[0]? = some x := by rw [ByteArray.toList_eq, List.getElem?_eq_getElem (by rw [Array.length_toList]; exact h1)]; exact congrArg some hy
    go_enter Tryz.func61, Tryz.ntmps61
    go_wp2_with (go_at_call 88; refine (unhide CM _).mono ?_; rintro e w' ⟨rfl, hb⟩)
    go_ret
    exact ⟨by rw [unhide E]; rfl, hb⟩
end Go.Proofs.YtpkpnedcecjlbaaGreatDoor
end
/- Conf: Check's small functions, the rest: hosts, weights, lists of targets. -/
section
namespace Go.Proofs.YtpkpnedcecjlbaaGreatDoor
open Go.ChangeShapes Go.WideShapes Go.ChangeAt Go.RowKit
set_option linter.unusedVariables false

theorem inf_calls (w : World) : Calls Tryz.prog 92 #[.int .i64 1] w fun e w' => e = .returned (.float .f64 9218868437227405312) ∧ w' = w := by
  have hf : ∀ w, (callFunc 16 #[.int .u64 9218868437227405312]).run Tryz.prog w = .ok (.value (.float .f64 9218868437227405312)) w := fun w => cfrom_call 9218868437227405312 w
  go_enter Tryz.func92, Tryz.ntmps92
  go_wp2
  go_ret
  exact ⟨rfl, rfl⟩
set_option maxRecDepth 20000 in
theorem isWeight_calls (x : Nat) (w : World) : Calls Tryz.prog 64 #[.float .f64 x] w fun e w' => e = .returned (.bool (wtB x)) ∧ Below w.heap.size w w' := by
  have hb := cbits_call x
  have hb2 : ∀ w, (callFunc 18 #[.float .f64 9218868437227405312]).run Tryz.prog w = .ok (.value (.int .u64 9218868437227405312)) w := fun w => cbits_call 9218868437227405312 w
  have B0 := hide (Below.refl w.heap.size w)
  unfold wtB
  by_cases h : x < 9218868437227405312
  · have hi : (x : Int) < 9218868437227405312 := by omega
    have e : decide (x < 9218868437227405312) = true := decide_eq_true h
    rw [e]
    go_enter Tryz.func64, Tryz.ntmps64
    go_wp2_with (go_at_call 92; refine (inf_calls _).mono ?_; rintro e w1 ⟨rfl, rfl⟩)
    go_ret
    exact ⟨by rfl, by first | exact unhide B0 | exact (unhide B0).drew⟩
  · have hi : ¬ (x : Int) < 9218868437227405312 := by omega
    have e : decide (x < 9218868437227405312) = false := decide_eq_false h
    have dI : decide ((x : Int) < 9218868437227405312) = false := decide_eq_false hi
    rw [e]
    go_enter Tryz.func64, Tryz.ntmps64
    go_wp2_with (go_at_call 92; refine (inf_calls _).mono ?_; rintro e w1 ⟨rfl, rfl⟩)
    go_ret
    exact ⟨rfl, by first | exact unhide B0 | exact (unhide B0).drew⟩
theorem all_drop {α : Type} (l : List α) (f : α → Bool) (j : Nat) (h : j < l.length) : (l.drop j).all f = (f l[j] && (l.drop (j + 1)).all f) := by
  rw [List.drop_eq_getElem_cons h]; rfl
set_option maxRecDepth 20000 in
set_option maxHeartbeats 4000000 in
theorem weightsMayBe_calls {w : World} {a : Option Addr} {l : List Tgt} (h : TgsAt w a l) (n c : Nat) (hn : l.length = n) (hx : n ≤ maxLen) :
    Calls Tryz.prog 34 #[.slice a n c] w fun e w' => e = .returned (.bool (wtsOk l)) ∧ Below w.heap.size w w' := by
  have H1 := hide h
  have HN := hide hn
  have E0 := hide (show wtsOk l = (l.drop 0).all (fun t => wtB t.2) from rfl)
  simp only [maxLen] at hx
  have hsF := run_storeF .plain
  clear h hn
  go_enter Tryz.func34, Tryz.ntmps34
  go_wp2_with fail
  go_loopw [7] (fun i wr => ∃ j : Nat, j ≤ n ∧ i = .int .i64 (j : Int) ∧ Hid (wtsOk l = (l.drop j).all (fun t => wtB t.2)) ∧ Hid (Below w.heap.size w wr)) (fun i _ => n - (intOf i).toNat)
  case atStart => exact ⟨0, by omega, rfl, E0, hide (Below.refl _ _)⟩
  case round =>
    obtain ⟨j, hj, rfl, HE, B⟩ := hrel
    by_cases hjn : j < n
    · have y0 : (0 : Int) ≤ (j : Int) := by omega
      have y1 : (j : Int) < (n : Int) := by omega
      have hjl : j < l.length := by rw [unhide HN]; exact hjn
      obtain ⟨b1, o1, rfl, q0, q1⟩ := (unhide H1).cell j hjl
      have p0 := cell_later (unhide B) q0
      have p1 := cell_later (unhide B) q1
      have HD := hide (show wtsOk l = (wtB l[j].2 && (l.drop (j + 1)).all (fun t => wtB t.2)) by rw [unhide HE, all_drop l _ j hjl])
      clear HE q0 q1
      generalize l[j] = t at *
      obtain ⟨s, x⟩ := t
      simp only at p0 p1 HD
      have X1 := heap_new wr (.cells #[.string s, .float .f64 x] 43)
      have c1 := box_cell X1 1 (.float .f64 x) rfl
      have BX := hide (show Below w.heap.size w (wr.alloc (.cells #[.string s, .float .f64 x] 43)) from (unhide B).alloc (unhide B).size _)
      clear X1
      cases hw : wtB x
      · rw [hw] at HD
        go_wp2_with (go_at_call 64; refine (isWeight_calls x _).mono ?_; rintro e w1 ⟨rfl, hb⟩; rw [hw])
        go_ret
        exact ⟨by rw [unhide HD]; rfl, (unhide BX).trans (hb.mono (unhide BX).size)⟩
      · rw [hw] at HD
        go_wp2_with (go_at_call 64; refine (isWeight_calls x _).mono ?_; rintro e w1 ⟨rfl, hb⟩; rw [hw]; have B3 := hide ((unhide BX).trans (hb.mono (unhide BX).size)); clear hb)
        exact ⟨⟨j + 1, by omega, by go_num, hide (by rw [unhide HD]; rfl), B3⟩, by simp [intOf]; omega⟩
    · have hjj : ¬ (j : Int) < (n : Int) := by omega
      have E3 := hide (show wtsOk l = true by rw [unhide HE, List.drop_of_length_le (by rw [unhide HN]; omega)]; rfl)
      go_wp2
      go_ret
      exact ⟨by rw [unhide E3]; rfl, unhide B⟩
set_option maxRecDepth 20000 in
set_option maxHeartbeats 4000000 in
theorem addressesMayBe_calls {w : World} {a : Option Addr} {l : List Tgt} (h : TgsAt w a l) (hz : ∀ t ∈ l, t.1.size ≤ 140737488355328) (n c : Nat) (hn : l.length = n) (hx : n ≤ maxLen) :
    Calls Tryz.prog 63 #[.slice a n c] w fun e w' => e = .returned (.bool (l.all (fun t => addrT t.1))) ∧ Below w.heap.size w w' := by
  have H1 := hide h
  have HN := hide hn
  have HZ := hide hz
  have E0 := hide (show l.all (fun t => addrT t.1) = (l.drop 0).all (fun t => addrT t.1) from rfl)
  simp only [maxLen] at hx
  have hsF := run_storeF .plain
  generalize hR : l.all (fun t => addrT t.1) = R at *
  clear h hn hz hR
  go_enter Tryz.func63, Tryz.ntmps63
  go_wp2_with fail
  go_loopw [7] (fun i wr => ∃ j : Nat, j ≤ n ∧ i = .int .i64 (j : Int) ∧ Hid (R = (l.drop j).all (fun t => addrT t.1)) ∧ Hid (Below w.heap.size w wr)) (fun i _ => n - (intOf i).toNat)
  case atStart => exact ⟨0, by omega, rfl, E0, hide (Below.refl _ _)⟩
  case round =>
    obtain ⟨j, hj, rfl, HE, B⟩ := hrel
    by_cases hjn : j < n
    · have y0 : (0 : Int) ≤ (j : Int) := by omega
      have y1 : (j : Int) < (n : Int) := by omega
      have hjl : j < l.length := by rw [unhide HN]; exact hjn
      obtain ⟨b1, o1, rfl, q0, q1⟩ := (unhide H1).cell j hjl
      have p0 := cell_later (unhide B) q0
      have p1 := cell_later (unhide B) q1
      have HD := hide (show R = (addrT l[j].1 && (l.drop (j + 1)).all (fun t => addrT t.1)) by rw [unhide HE, all_drop l _ j hjl])
      have HS := hide (unhide HZ l[j] (List.getElem_mem hjl))
      clear HE q0 q1
      generalize l[j] = t at *
      obtain ⟨s, x⟩ := t
      simp only at p0 p1 HD HS
      have X1 := heap_new wr (.cells #[.string s, .float .f64 x] 43)
      have c1 := box_cell X1 0 (.string s) rfl
      have BX := hide (show Below w.heap.size w (wr.alloc (.cells #[.string s, .float .f64 x] 43)) from (unhide B).alloc (unhide B).size _)
      clear X1
      cases hw : addrT s
      · rw [hw] at HD
        go_wp2_with (go_at_call 91; refine (isAddress_calls s (unhide HS) _).mono ?_; rintro e w1 ⟨rfl, hb⟩; rw [hw])
        go_ret
        exact ⟨by rw [unhide HD]; rfl, (unhide BX).trans (hb.mono (unhide BX).size)⟩
      · rw [hw] at HD
        go_wp2_with (go_at_call 91; refine (isAddress_calls s (unhide HS) _).mono ?_; rintro e w1 ⟨rfl, hb⟩; rw [hw]; have B3 := hide ((unhide BX).trans (hb.mono (unhide BX).size)); clear hb)
        exact ⟨⟨j + 1, by omega, by go_num, hide (by rw [unhide HD]; rfl), B3⟩, by simp [intOf]; omega⟩
    · have hjj : ¬ (j : Int) < (n : Int) := by omega
      have E3 := hide (show R = true by rw [unhide HE, List.drop_of_length_le (by rw [unhide HN]; omega)]; rfl)
      go_wp2
      go_ret
      exact ⟨by rw [unhide E3]; rfl, unhide B⟩
/-- The library's variable that strings.Split reads. -/
def Mx (w : World) : Prop := ∃ m, w.cell? ⟨Tryz.laysM146_ren.g 1, 0, none⟩ = some (.int .i64 m)
theorem Mx.later {w w' : World} (h : Mx w) (hb : Below w.heap.size w w') : Mx w' := let ⟨m, hm⟩ := h; ⟨m, cell_later hb hm⟩
theorem split_calls (s : ByteArray) (w : World) (hm : Mx w) (hs : s.size ≤ 64) : Calls Tryz.prog 87 #[.string s, .string ⟨#[46]⟩] w fun e w' =>
    e = .returned (.slice (some ⟨w.heap.size, 0, none⟩) (Lib.splitB dotB 0 (Lib.countB s dotB) s).length (Lib.splitB dotB 0 (Lib.countB s dotB) s).length) ∧ w' = w.alloc (.cells ((Lib.splitB dotB 0 (Lib.countB s dotB) s).map Value.string).toArray 9) := by
  obtain ⟨m, hm⟩ := hm
  have h1 : 1 ≤ dotB.size := by decide
  have hlen := Lib.splitB_all dotB h1 0 _ s rfl
  have := Any.strings_Split { Tryz.laysM146 with } Tryz.laysM146.i9 s dotB m w (by omega) hm h1
  rw [hlen]
  exact this
set_option maxRecDepth 20000 in
set_option maxHeartbeats 4000000 in
theorem isHost_calls (s : ByteArray) (hs : s.size ≤ 140737488355328) (w : World) (hm : Mx w) : Calls Tryz.prog 60 #[.string s] w fun e w' => e = .returned (.bool (hostT s)) ∧ Below w.heap.size w w' := by
  by_cases h64 : s.size ≤ 64
  · have SC := hide (split_calls s w hm h64)
    have E0 := hide (show hostT s = ((Lib.splitB dotB 0 (Lib.countB s dotB) s).drop 0).all nameT by rw [List.drop_zero, split_host _ s rfl h64]; unfold hostT; rw [decide_eq_true h64]; rfl)
    have HZ := hide (show ∀ p ∈ Lib.splitB dotB 0 (Lib.countB s dotB) s, p.size ≤ 140737488355328 from fun p hp => Nat.le_trans (split_le _ _ _ hp) hs)
    have HC := hide (show (Lib.splitB dotB 0 (Lib.countB s dotB) s).length ≤ 65 by
      rw [Lib.splitB_all dotB (by decide) 0 _ s rfl]
      have := Lib.countB_le dotB (by decide) s.size s (Nat.le_refl _)
      omega)
    have hi : ¬ (64 : Int) < (s.size : Int) := by omega
    generalize Lib.splitB dotB 0 (Lib.countB s dotB) s = l at *
    have X1 := heap_new w (.cells (l.map Value.string).toArray 9)
    have HX := hide X1
    have B0 := hide (show Below w.heap.size w (w.alloc (.cells (l.map Value.string).toArray 9)) from (Below.refl _ _).alloc (Nat.le_refl _) _)
    have KC := hide (show ∀ j x W, l[j]? = some x → Below (w.heap.size + 1) (w.alloc (.cells (l.map Value.string).toArray 9)) W → W.cell? ⟨w.heap.size, j, none⟩ = some (.string x) from fun j x W hx hb => by
      have hg := (hb.block w.heap.size (by omega)).trans (unhide HX)
      rw [cell_of_row _ _ _ _ _ _ hg]
      simp [hx])
    have hc := unhide HC
    clear X1 HX HC hm h64
    generalize hn : l.length = n at *
    have HN := hide hn
    clear hn
    go_enter Tryz.func60, Tryz.ntmps60
    go_wp2_with (go_at_call 87; refine (unhide SC).mono ?_; rintro e w1 ⟨rfl, rfl⟩)
    go_loopw [11] (fun i wr => ∃ j : Nat, j ≤ n ∧ i = .int .i64 (j : Int) ∧ Hid (hostT s = (l.drop j).all nameT) ∧ Hid (Below (w.heap.size + 1) (w.alloc (.cells (l.map Value.string).toArray 9)) wr)) (fun i _ => n - (intOf i).toNat)
    case atStart => exact ⟨0, by omega, rfl, E0, hide (Below.refl _ _)⟩
    case round =>
      obtain ⟨j, hj, rfl, HE, B⟩ := hrel
      by_cases hjn : j < n
      · have y0 : (0 : Int) ≤ (j : Int) := by omega
        have y1 : (j : Int) < (n : Int) := by omega
        have hjl : j < l.length := by rw [unhide HN]; exact hjn
        have p0 := unhide KC j _ wr (List.getElem?_eq_getElem hjl) (unhide B)
        have HD := hide (show hostT s = (nameT l[j] && (l.drop (j + 1)).all nameT) by rw [unhide HE, all_drop l _ j hjl])
        have HS := hide (unhide HZ l[j] (List.getElem_mem hjl))
        clear HE
        generalize l[j] = t at *
        cases hw : nameT t
        · rw [hw] at HD
          go_wp2_with (go_at_call 62; refine (isName_calls t (unhide HS) _).mono ?_; rintro e w1 ⟨rfl, hb⟩; rw [hw])
          go_ret
          exact ⟨by rw [unhide HD]; rfl, (unhide B0).trans (((unhide B).trans (hb.mono (by have := (unhide B).size; simp at this; omega))).mono (by simp))⟩
        · rw [hw] at HD
          go_wp2_with (go_at_call 62; refine (isName_calls t (unhide HS) _).mono ?_; rintro e w1 ⟨rfl, hb⟩; rw [hw]; have B3 := hide ((unhide B).trans (hb.mono (by have := (unhide B).size; simp at this; omega))); clear hb)
          exact ⟨⟨j + 1, by omega, by go_num, hide (by rw [unhide HD]; rfl), B3⟩, by simp [intOf]; omega⟩
      · have hjj : ¬ (j : Int) < (n : Int) := by omega
        have E3 := hide (show hostT s = true by rw [unhide HE, List.drop_of_length_le (by rw [unhide HN]; omega)]; rfl)
        go_wp2
        go_ret
        exact ⟨by rw [unhide E3]; rfl, (unhide B0).trans ((unhide B).mono (by simp))⟩
  · have hi : (64 : Int) < (s.size : Int) := by omega
    have E := hide (show hostT s = false by unfold hostT; rw [decide_eq_false h64]; rfl)
    go_enter Tryz.func60, Tryz.ntmps60
    go_wp2
    go_ret
    exact ⟨by rw [unhide E]; rfl, Below.refl _ _⟩
end Go.Proofs.YtpkpnedcecjlbaaGreatDoor
end
