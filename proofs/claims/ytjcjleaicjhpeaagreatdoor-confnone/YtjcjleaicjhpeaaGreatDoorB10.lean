/- Conf, plain: what names, hosts, prefixes, addresses and weights may be; commands. -/
import Derived.Test.YtjcjleaicjhpeaaGreatDoorB07
import Derived.Lib.Split
import Derived.Shelf.Small.Bits
import Derived.Shelf.Small.Wraps
import Derived.Shelf.Utf8.RuneCount
import Derived.Shelf.Strconv.Itoa0
import Derived.Shelf.Strings.Search1
import Derived.Shelf.Strings.Search2
import Derived.Shelf.Strings.Search3
import Derived.Shelf.Strings.Count
import Derived.Shelf.LaysM
import Derived.Shelf.Strings.Shaped
import Derived.Shelf.Strings.Split
import Derived.Shelf.Strings.SplitShaped
import Derived.Shelf.Unicode.Decode
import Derived.Shelf.Strings.RuneCount
import Derived.Shelf.Strings.Explode
import Derived.Shelf.Unicode.DecodeSlow
import Derived.Shelf.Unicode.DecodeAny
import Derived.Ground.Names2Prog
import Derived.Shelf.Slices.SearchI
import Derived.Ground.SlgmProg
import Derived.Shelf.SortM.Plain
import Derived.Shelf.SortM.SortNone
import Derived.Test.YtjcjleaicjhpeaaGreatDoorProg
import Derived.Test.YtjcjleaicjhpeaaGreatDoorB02
section
namespace Go.Proofs.YtjcjleaicjhpeaaGreatDoor
open Go.ChangeShapes Go.WideShapes Go.ChangeAt Go.RowKit
set_option linter.unusedVariables false

def nameC (c : UInt8) : Bool := (decide (97 ≤ c.toNat) && decide (c.toNat ≤ 122)) || ((decide (48 ≤ c.toNat) && decide (c.toNat ≤ 57)) || decide (c.toNat = 45))
def addrC (c : UInt8) : Bool := decide (33 ≤ c.toNat) && decide (c.toNat ≤ 126)
def prefC (c : UInt8) : Bool := addrC c && (!decide (c.toNat = 63) && !decide (c.toNat = 35))
def madeT (s : ByteArray) (most : Nat) (f : UInt8 → Bool) : Bool := decide (1 ≤ s.size) && decide (s.size ≤ most) && s.data.toList.all f
def nameT (s : ByteArray) : Bool := madeT s 64 nameC
def addrT (s : ByteArray) : Bool := madeT s 64 addrC
def prefT (s : ByteArray) : Bool := madeT s 128 prefC && (s.data.toList.head? == some 47)
/-- The rest of a host: b: did a letter stand just ahead? -/
def hostR : Bool → List UInt8 → Bool
  | b, [] => b
  | b, c :: r => if c = 46 then b && hostR false r else nameC c && hostR true r
def hostT (s : ByteArray) : Bool := decide (s.size ≤ 64) && hostR false s.data.toList
def wtB (n : Nat) : Bool := decide (n < 9218868437227405312)
abbrev Tgt := ByteArray × Nat
structure Cmd where
  act : Int
  cli : Int
  seq : Int
  exp : Int
  host : ByteArray
  pre : ByteArray
  pool : ByteArray
  ts : List Tgt
def numsOk (c : Cmd) : Bool := decide (1 ≤ c.act ∧ c.act ≤ 4) && decide (0 ≤ c.cli ∧ c.cli ≤ 32) && (if c.cli = 0 then decide (c.seq = 0) else decide (1 ≤ c.seq ∧ c.seq ≤ 1099511627776)) && decide (-1 ≤ c.exp ∧ c.exp ≤ 1099511627775)
def isRoute (a : Int) : Bool := decide (a = 3) || decide (a = 4)
def unusedOk (c : Cmd) : Bool := (isRoute c.act || (decide (c.host.size = 0) && decide (c.pre.size = 0))) && (!decide (c.act = 4) || decide (c.pool.size = 0)) && (decide (c.act = 1) || decide (c.ts.length = 0))
def namesOk (c : Cmd) : Bool := (!isRoute c.act || (hostT c.host && prefT c.pre)) && (decide (c.act = 4) || nameT c.pool) && c.ts.all (fun t => addrT t.1)
def wtsOk (l : List Tgt) : Bool := l.all (fun t => wtB t.2)
def checkC (c : Cmd) : Nat := if numsOk c && unusedOk c then (if namesOk c then (if wtsOk c.ts then (if 16 < c.ts.length then 6 else 0) else 15) else 14) else 2
theorem size0 (s : ByteArray) : s.size = 0 ↔ s.data.toList = [] := by
  rw [← List.length_eq_zero_iff, Array.length_toList]; rfl

/- A host's parts: cut at each point. -/
theorem dot_index : ∀ (l : List UInt8), (Lib.index l [46] = -1 ∧ (46 : UInt8) ∉ l) ∨ (∃ i : Nat, Lib.index l [46] = i ∧ i < l.length ∧ l = l.take i ++ 46 :: l.drop (i + 1) ∧ (46 : UInt8) ∉ l.take i)
  | [] => .inl ⟨rfl, by simp⟩
  | b :: t => by
    have hp : [46].isPrefixOf (b :: t) = (b == 46) := by
      rw [List.isPrefixOf, List.isPrefixOf, Bool.and_true, Bool.eq_iff_iff, beq_iff_eq, beq_iff_eq, eq_comm]
    by_cases hb : b = 46
    · subst hb
      refine .inr ⟨0, ?_, by simp, by simp, by simp⟩
      unfold Lib.index
      rw [hp, if_pos (by simp)]
      rfl
    · have hb2 : ¬ (b == 46) = true := by simpa using hb
      rcases dot_index t with ⟨h1, h2⟩ | ⟨i, h1, h2, h3, h4⟩
      · refine .inl ⟨?_, ?_⟩
        · unfold Lib.index
          rw [hp, if_neg hb2, h1]
          rfl
        · intro hm
          rcases List.mem_cons.1 hm with e | e
          · exact hb e.symm
          · exact h2 e
      · refine .inr ⟨i + 1, ?_, by simp; omega, ?_, ?_⟩
        · unfold Lib.index
          rw [hp, if_neg hb2, if_neg (by rw [beq_iff_eq, h1]; omega), h1]
          omega
        · rw [List.take_succ_cons, List.drop_succ_cons, List.cons_append, ← h3]
        · rw [List.take_succ_cons]
          intro hm
          rcases List.mem_cons.1 hm with e | e
          · exact hb e.symm
          · exact h4 e
theorem hostR_all : ∀ (a : List UInt8) (b : Bool), (46 : UInt8) ∉ a → hostR b a = (a.all nameC && (b || !a.isEmpty))
  | [], b, _ => by simp [hostR]
  | c :: r, b, h => by
    have hc : c ≠ 46 := fun e => h (e ▸ List.mem_cons_self)
    unfold hostR
    rw [if_neg hc, hostR_all r true (fun e => h (List.mem_cons_of_mem _ e))]
    simp
theorem hostR_app : ∀ (a : List UInt8) (b : Bool) (r : List UInt8), (46 : UInt8) ∉ a → hostR b (a ++ 46 :: r) = ((a.all nameC && (b || !a.isEmpty)) && hostR false r)
  | [], b, r, _ => by simp [hostR]
  | c :: t, b, r, h => by
    have hc : c ≠ 46 := fun e => h (e ▸ List.mem_cons_self)
    rw [List.cons_append]
    conv => lhs; unfold hostR
    rw [if_neg hc, hostR_app t true r (fun e => h (List.mem_cons_of_mem _ e))]
    simp [Bool.and_assoc]
theorem nameT_is (s : ByteArray) (h : s.size ≤ 64) : nameT s = (s.data.toList.all nameC && !s.data.toList.isEmpty) := by
  unfold nameT madeT
  rw [decide_eq_true h, Bool.and_true]
  have : decide (1 ≤ s.size) = !s.data.toList.isEmpty := by
    rw [Bool.eq_iff_iff, decide_eq_true_eq]
    simp only [Bool.not_eq_true', List.isEmpty_eq_false_iff]
    have := size0 s
    constructor
    · intro h1 h2; have := this.2 h2; omega
    · intro h1; have : s.size ≠ 0 := fun e => h1 (this.1 e); omega
  rw [this, Bool.and_comm]
def dotB : ByteArray := ⟨#[46]⟩
theorem split_host : ∀ (n : Nat) (s : ByteArray), s.size = n → s.size ≤ 64 → (Lib.splitB dotB 0 (Lib.countB s dotB) s).all nameT = hostR false s.data.toList := by
  intro n
  induction n using Nat.strongRecOn with
  | ind n ih =>
    intro s hn h64
    rcases dot_index s.data.toList with ⟨h1, h2⟩ | ⟨i, h1, h2, h3, h4⟩
    · rw [Lib.splitB_miss _ _ _ _ h1, hostR_all _ _ h2]
      simp [nameT_is s h64]
    · have hc : Lib.countB s dotB = 1 + Lib.countB (s.extract (i + 1) s.size) dotB := by
        have := Lib.count_hit (s := s.data.toList) (sub := [46]) (by simp) h1
        have e : (s.extract (i + 1) s.size).data.toList = s.data.toList.drop (i + 1) := Lib.extract_to_end s (i + 1)
        show Lib.count _ _ = 1 + Lib.count _ _
        rw [e]
        exact this
      have hi : i < s.size := by simpa using h2
      have hs : (s.extract (i + 1) s.size).size = s.size - (i + 1) := by simp
      rw [hc, Nat.add_comm, Lib.splitB_hit dotB 0 _ s i h1, List.all_cons, show dotB.size = 1 from rfl, ih (s.size - (i + 1)) (by omega) _ hs (by omega)]
      have e0 : (s.extract 0 (i + 0)).data.toList = s.data.toList.take i := Lib.extract_from_zero s i
      have e1 : (s.extract (i + 1) s.size).data.toList = s.data.toList.drop (i + 1) := Lib.extract_to_end s (i + 1)
      rw [nameT_is _ (by simp; omega), e0, e1]
      conv => rhs; rw [h3, hostR_app _ _ _ h4]
      simp
theorem split_le (k : Nat) : ∀ (s p : ByteArray), p ∈ Lib.splitB dotB 0 k s → p.size ≤ s.size := by
  induction k with
  | zero => intro s p hp; rw [Lib.splitB_zero] at hp; simp at hp; rw [hp]; exact Nat.le_refl _
  | succ k ih =>
    intro s p hp
    unfold Lib.splitB at hp
    split at hp
    · simp at hp; rw [hp]; exact Nat.le_refl _
    · rcases List.mem_cons.1 hp with rfl | hp
      · simp; omega
      · refine Nat.le_trans (ih _ _ hp) ?_
        simp
end Go.Proofs.YtjcjleaicjhpeaaGreatDoor
end
/- Contracts of the library's functions at this program's numbers. -/
section
namespace Go.Proofs
open Go.Shelf
def Tryz.laysM146_ren : Go.Shelf.Ren := ⟨fun | 146 => 132 | 221 => 166 | 268 => 201 | 138 => 202 | 143 => 203 | 195 => 215 | 197 => 216 | 218 => 217 | 219 => 218 | 260 => 222 | 217 => 223 | 225 => 224 | 224 => 225 | 267 => 226 | 266 => 227 | 314 => 228 | n => n, fun | 9 => 9 | 31 => 80 | 3 => 3 | 4 => 4 | 0 => 0 | 105 => 248 | 21 => 21 | 5 => 5 | 46 => 191 | 119 => 256 | 139 => 259 | 138 => 258 | 146 => 260 | 51 => 218 | n => n, fun | 1 => 1 | 3 => 2 | 4 => 3 | n => n⟩
theorem Tryz.laysM146 : Go.Proofs.LaysM.n146 Tryz.prog Tryz.laysM146_ren := {
  mixed := by kernel_rfl
  f138 := Tryz.func202.trans (congrArg some (by kernel_rfl))
  f143 := Tryz.func203.trans (congrArg some (by kernel_rfl))
  f146 := Tryz.func132.trans (congrArg some (by kernel_rfl))
  f195 := Tryz.func215.trans (congrArg some (by kernel_rfl))
  f197 := Tryz.func216.trans (congrArg some (by kernel_rfl))
  f217 := Tryz.func223.trans (congrArg some (by kernel_rfl))
  f218 := Tryz.func217.trans (congrArg some (by kernel_rfl))
  f219 := Tryz.func218.trans (congrArg some (by kernel_rfl))
  f221 := Tryz.func166.trans (congrArg some (by kernel_rfl))
  f224 := Tryz.func225.trans (congrArg some (by kernel_rfl))
  f225 := Tryz.func224.trans (congrArg some (by kernel_rfl))
  f260 := Tryz.func222.trans (congrArg some (by kernel_rfl))
  f266 := Tryz.func227.trans (congrArg some (by kernel_rfl))
  f267 := Tryz.func226.trans (congrArg some (by kernel_rfl))
  f268 := Tryz.func201.trans (congrArg some (by kernel_rfl))
  f314 := Tryz.func228.trans (congrArg some (by kernel_rfl))
  t0 := Tryz.underlying0
  a0 := Tryz.isAgg0
  z0 := Tryz.sizeOf0
  v0 := Tryz.zeroValue0
  t3 := Tryz.underlying3
  a3 := Tryz.isAgg3
  z3 := Tryz.sizeOf3
  v3 := Tryz.zeroValue3
  t4 := Tryz.underlying4
  a4 := Tryz.isAgg4
  z4 := Tryz.sizeOf4
  v4 := Tryz.zeroValue4
  t5 := Tryz.underlying5
  a5 := Tryz.isAgg5
  z5 := Tryz.sizeOf5
  v5 := Tryz.zeroValue5
  t9 := Tryz.underlying9
  a9 := Tryz.isAgg9
  z9 := Tryz.sizeOf9
  v9 := Tryz.zeroValue9
  t21 := Tryz.underlying21
  a21 := Tryz.isAgg21
  z21 := Tryz.sizeOf21
  v21 := Tryz.zeroValue21
  t31 := Tryz.underlying80
  a31 := Tryz.isAgg80
  z31 := Tryz.sizeOf80
  v31 := Tryz.zeroValue80
  t46 := Tryz.underlying191
  a46 := Tryz.isAgg191
  z46 := Tryz.sizeOf191
  v46 := Tryz.zeroValue191
  t51 := Tryz.underlying218
  a51 := Tryz.isAgg218
  z51 := Tryz.sizeOf218
  v51 := Tryz.zeroValue218
  t105 := Tryz.underlying248
  a105 := Tryz.isAgg248
  z105 := Tryz.sizeOf248
  v105 := Tryz.zeroValue248
  t119 := Tryz.underlying256
  a119 := Tryz.isAgg256
  z119 := Tryz.sizeOf256
  t138 := Tryz.underlying258
  a138 := Tryz.isAgg258
  z138 := Tryz.sizeOf258
  v138 := Tryz.zeroValue258
  t139 := Tryz.underlying259
  a139 := Tryz.isAgg259
  z139 := Tryz.sizeOf259
  v139 := Tryz.zeroValue259
  t146 := Tryz.underlying260
  a146 := Tryz.isAgg260
  z146 := Tryz.sizeOf260
  v146 := Tryz.zeroValue260
  g1 := by kernel_rfl
  g3 := by kernel_rfl
  g4 := by kernel_rfl
  i0 := by kernel_rfl
  i3 := by kernel_rfl
  i4 := by kernel_rfl
  i5 := by kernel_rfl
  i9 := by kernel_rfl
  i21 := by kernel_rfl
  i31 := by kernel_rfl
  i46 := by kernel_rfl
  i51 := by kernel_rfl
  i105 := by kernel_rfl
  i138 := by kernel_rfl
  i139 := by kernel_rfl
  i146 := by kernel_rfl
  m1 := by kernel_rfl
  s1_3 := fun w h => Go.Proofs.cell_of_shapedOpen_int (zero := #[.int .i64 0]) (t := 3) h (of_decide_eq_true (by kernel_rfl)) (by kernel_rfl) rfl (by kernel_rfl) (by kernel_rfl) Tryz.underlying3
  m3 := by kernel_rfl
  m4 := by kernel_rfl }
open Go.RowKit Go.Lib in
theorem Tryz.strings_Split_shaped (s sep : ByteArray) (w : World) (h : w.ShapedOpen Tryz.prog) (hs : s.size < 4294967281) (h1 : 1 ≤ sep.size) :
    Calls Tryz.prog 132 #[.string s, .string sep] w fun e w' =>
      e = .returned (.slice (some ⟨w.heap.size, 0, none⟩) (Lib.countB s sep + 1) (Lib.countB s sep + 1)) ∧ w' = w.alloc (.cells ((Lib.splitB sep 0 (Lib.countB s sep) s).map Value.string).toArray 9) := Any.strings_Split_shaped Tryz.laysM146 s sep w h hs h1
end Go.Proofs
end
/- Conf: Check's small functions: numbers, names, hosts, prefixes, addresses, weights. -/
section
namespace Go.Proofs.YtjcjleaicjhpeaaGreatDoor
open Go.ChangeShapes Go.WideShapes Go.ChangeAt Go.RowKit
set_option linter.unusedVariables false

theorem cwithin_calls (n a b : Int) (w : World) : Calls Tryz.prog 74 #[.int .i64 n, .int .i64 a, .int .i64 b] w fun e w' => e = .returned (.bool (decide (a ≤ n ∧ n ≤ b))) ∧ w' = w := by
  by_cases h1 : a ≤ n
  · by_cases h2 : n ≤ b
    · have e : decide (a ≤ n ∧ n ≤ b) = true := decide_eq_true ⟨h1, h2⟩
      rw [e]
      go_enter Tryz.func74, Tryz.ntmps74
      go_wp2
      go_ret
      exact ⟨by simp, rfl⟩
    · have e : decide (a ≤ n ∧ n ≤ b) = false := decide_eq_false fun h => h2 h.2
      rw [e]
      go_enter Tryz.func74, Tryz.ntmps74
      go_wp2
      go_ret
      exact ⟨by simp, rfl⟩
  · have e : decide (a ≤ n ∧ n ≤ b) = false := decide_eq_false fun h => h1 h.1
    rw [e]
    go_enter Tryz.func74, Tryz.ntmps74
    go_wp2
    go_ret
    exact ⟨by simp, rfl⟩
theorem ofRoute_calls (a : Int) (w : World) : Calls Tryz.prog 75 #[.int .i64 a] w fun e w' => e = .returned (.bool (isRoute a)) ∧ w' = w := by
  by_cases h1 : a = 3
  · subst h1
    go_enter Tryz.func75, Tryz.ntmps75
    go_wp2
    go_ret
    exact ⟨rfl, rfl⟩
  · by_cases h2 : a = 4
    · subst h2
      go_enter Tryz.func75, Tryz.ntmps75
      go_wp2
      go_ret
      exact ⟨by first | rfl | (simp; omega) | (simp; done) | (congr 2; rw [Bool.eq_iff_iff]; simp; omega), rfl⟩
    · have e : isRoute a = false := by simp [isRoute, h1, h2]
      rw [e]
      go_enter Tryz.func75, Tryz.ntmps75
      go_wp2
      go_ret
      exact ⟨by first | rfl | (simp; omega) | (simp; done) | (congr 2; rw [Bool.eq_iff_iff]; simp; omega), rfl⟩
theorem ofAddress_calls (c : UInt8) (w : World) : Calls Tryz.prog 167 #[.int .u8 (c.toNat : Int)] w fun e w' => e = .returned (.bool (addrC c)) ∧ w' = w := by
  unfold addrC
  generalize c.toNat = n
  by_cases h1 : 33 ≤ n
  · by_cases h2 : n ≤ 126
    · have i1 : (33 : Int) ≤ (n : Int) := by omega
      have i2 : (n : Int) ≤ 126 := by omega
      go_enter Tryz.func167, Tryz.ntmps167
      go_wp2
      go_ret
      exact ⟨by first | rfl | (simp; omega) | (simp; done) | (congr 2; rw [Bool.eq_iff_iff]; simp; omega), rfl⟩
    · have i1 : (33 : Int) ≤ (n : Int) := by omega
      have i2 : ¬ (n : Int) ≤ 126 := by omega
      go_enter Tryz.func167, Tryz.ntmps167
      go_wp2
      go_ret
      exact ⟨by first | rfl | (simp; omega) | (simp; done) | (congr 2; rw [Bool.eq_iff_iff]; simp; omega), rfl⟩
  · have i1 : ¬ (33 : Int) ≤ (n : Int) := by omega
    go_enter Tryz.func167, Tryz.ntmps167
    go_wp2
    go_ret
    exact ⟨by first | rfl | (simp; omega) | (simp; done) | (congr 2; rw [Bool.eq_iff_iff]; simp; omega), rfl⟩
theorem ofPrefix_calls (c : UInt8) (w : World) : Calls Tryz.prog 134 #[.int .u8 (c.toNat : Int)] w fun e w' => e = .returned (.bool (prefC c)) ∧ w' = w := by
  have HA := hide (fun w => ofAddress_calls c w)
  unfold prefC
  generalize addrC c = b at *
  generalize c.toNat = n at *
  cases b
  · go_enter Tryz.func134, Tryz.ntmps134
    go_wp2_with (go_at_call 167; refine (unhide HA _).mono ?_; rintro e w' ⟨rfl, rfl⟩)
    go_ret
    exact ⟨rfl, rfl⟩
  · by_cases h1 : n = 63
    · subst h1
      go_enter Tryz.func134, Tryz.ntmps134
      go_wp2_with (go_at_call 167; refine (unhide HA _).mono ?_; rintro e w' ⟨rfl, rfl⟩)
      go_ret
      exact ⟨by first | rfl | (simp; omega) | (simp; done) | (congr 2; rw [Bool.eq_iff_iff]; simp; omega), rfl⟩
    · have i1 : ¬ (n : Int) = 63 := by omega
      by_cases h2 : n = 35
      · subst h2
        go_enter Tryz.func134, Tryz.ntmps134
        go_wp2_with (go_at_call 167; refine (unhide HA _).mono ?_; rintro e w' ⟨rfl, rfl⟩)
        go_ret
        exact ⟨rfl, rfl⟩
      · have i2 : ¬ (n : Int) = 35 := by omega
        have j1 : ((n : Int) != 63) = true := by simp; omega
        have j2 : ((n : Int) != 35) = true := by simp; omega
        go_enter Tryz.func134, Tryz.ntmps134
        go_wp2_with (go_at_call 167; refine (unhide HA _).mono ?_; rintro e w' ⟨rfl, rfl⟩)
        go_ret
        exact ⟨by first | rfl | (simp; omega) | (simp; done) | (congr 2; rw [Bool.eq_iff_iff]; simp; omega), rfl⟩
theorem ofName_calls (c : UInt8) (w : World) : Calls Tryz.prog 135 #[.int .u8 (c.toNat : Int)] w fun e w' => e = .returned (.bool (nameC c)) ∧ w' = w := by
  unfold nameC
  generalize c.toNat = n
  by_cases h1 : 97 ≤ n
  · have i1 : (97 : Int) ≤ (n : Int) := by omega
    have i3 : (48 : Int) ≤ (n : Int) := by omega
    have i4 : ¬ (n : Int) ≤ 57 := by omega
    have i5 : ¬ (n : Int) = 45 := by omega
    have h5 : ¬ n = 45 := by omega
    have h4 : ¬ n ≤ 57 := by omega
    by_cases h2 : n ≤ 122
    · have i2 : (n : Int) ≤ 122 := by omega
      clear i3 i4 i5
      go_enter Tryz.func135, Tryz.ntmps135
      go_wp2
      go_ret
      exact ⟨by first | rfl | (simp; omega) | (simp; done) | (congr 2; rw [Bool.eq_iff_iff]; simp; omega), rfl⟩
    · have i2 : ¬ (n : Int) ≤ 122 := by omega
      go_enter Tryz.func135, Tryz.ntmps135
      go_wp2
      go_ret
      exact ⟨by first | rfl | (simp; omega) | (simp; done) | (congr 2; rw [Bool.eq_iff_iff]; simp; omega), rfl⟩
  · have i1 : ¬ (97 : Int) ≤ (n : Int) := by omega
    by_cases h3 : 48 ≤ n
    · have i3 : (48 : Int) ≤ (n : Int) := by omega
      have i5 : ¬ (n : Int) = 45 := by omega
      have h5 : ¬ n = 45 := by omega
      by_cases h4 : n ≤ 57
      · have i4 : (n : Int) ≤ 57 := by omega
        clear i5
        go_enter Tryz.func135, Tryz.ntmps135
        go_wp2
        go_ret
        exact ⟨by first | rfl | (simp; omega) | (simp; done) | (congr 2; rw [Bool.eq_iff_iff]; simp; omega), rfl⟩
      · have i4 : ¬ (n : Int) ≤ 57 := by omega
        go_enter Tryz.func135, Tryz.ntmps135
        go_wp2
        go_ret
        exact ⟨by first | rfl | (simp; omega) | (simp; done) | (congr 2; rw [Bool.eq_iff_iff]; simp; omega), rfl⟩
    · have i3 : ¬ (48 : Int) ≤ (n : Int) := by omega
      by_cases h5 : n = 45
      · subst h5
        go_enter Tryz.func135, Tryz.ntmps135
        go_wp2
        go_ret
        exact ⟨rfl, rfl⟩
      · have i5 : ¬ (n : Int) = 45 := by omega
        go_enter Tryz.func135, Tryz.ntmps135
        go_wp2
        go_ret
        exact ⟨by first | rfl | (simp; omega) | (simp; done) | (congr 2; rw [Bool.eq_iff_iff]; simp; omega), rfl⟩
theorem bsT_at (s : ByteArray) (j : Nat) (h : j < s.size) : (bsT s).getD j 0 = (s.data.toList[j]'(by simpa using h)).toNat := by
  rw [List.getD_eq_getElem?_getD]
  unfold bsT
  rw [List.getElem?_map, List.getElem?_eq_getElem (by simpa using h)]
  rfl
set_option maxRecDepth 20000 in
set_option maxHeartbeats 2000000 in
theorem made_calls (s : ByteArray) (most K : Nat) (f : UInt8 → Bool) (hK : ∀ (c : Array Value) (w : World), (callFunc K c).run Tryz.prog w = .ok (.enter K c) w)
    (hf : ∀ (c : UInt8) (w : World), Calls Tryz.prog K (#[.int .u8 (c.toNat : Int)] ++ #[]) w fun e w' => e = .returned (.bool (f c)) ∧ w' = w) (hs : s.size ≤ 140737488355328) (w : World) :
    Calls Tryz.prog 133 #[.string s, .int .i64 (most : Int), .func (.func K) #[] #[]] w fun e w' => e = .returned (.bool (madeT s most f)) ∧ Below w.heap.size w w' := by
  have CW := hide (fun w => cwithin_calls (s.size : Int) 1 (most : Int) w)
  have HF := hide hf
  have E0 := hide (show madeT s most f = (decide (1 ≤ s.size) && decide (s.size ≤ most) && s.data.toList.all f) from rfl)
  clear hf
  by_cases h1 : 1 ≤ s.size ∧ s.size ≤ most
  · have e1 : decide ((1 : Int) ≤ (s.size : Int) ∧ (s.size : Int) ≤ (most : Int)) = true := decide_eq_true ⟨by omega, by omega⟩
    have E := hide (show madeT s most f = s.data.toList.all f by rw [unhide E0, decide_eq_true h1.1, decide_eq_true h1.2]; rfl)
    rw [e1] at CW
    clear e1 E0 h1
    obtain ⟨c, W1, hcv, hc, hb, hB⟩ := conv_bs w s
    have HB := hide hb
    have B1 := hide hB
    have hn := bsT_len s
    clear hb hB
    go_enter Tryz.func133, Tryz.ntmps133
    go_wp2_with (go_at_call 74; refine (unhide CW _).mono ?_; rintro e w' ⟨rfl, rfl⟩)
    go_loopw [17] (fun i wr => ∃ j : Nat, i = .int .i64 (j : Int) ∧ j ≤ s.size ∧ Hid (s.data.toList.all f = (s.data.toList.drop j).all f) ∧ Hid (wr = W1)) (fun i _ => s.size - (intOf i).toNat)
    case atStart => exact ⟨0, rfl, by omega, hide rfl, hide rfl⟩
    case round =>
      obtain ⟨j, rfl, hj, hE, HW⟩ := hrel
      have hw := unhide HW
      subst hw
      by_cases h : j < s.size
      · have hlt : (j : Int) < (s.size : Int) := by omega
        have hj0 : (0 : Int) ≤ (j : Int) := by omega
        have hjl : j < s.data.toList.length := by simpa using h
        obtain ⟨b, off, hbe, hcell⟩ := (unhide HB).cell j (by rw [hn]; exact h)
        simp only [Option.some.injEq, Addr.mk.injEq, and_true] at hbe
        obtain ⟨rfl, rfl⟩ := hbe
        rw [bsT_at s j h, Nat.zero_add] at hcell
        have hd : s.data.toList.drop j = s.data.toList[j] :: s.data.toList.drop (j + 1) := List.drop_eq_getElem_cons hjl
        have HD := hide (show s.data.toList.all f = (f s.data.toList[j] && (s.data.toList.drop (j + 1)).all f) by rw [unhide hE, hd]; rfl)
        have CF := hide (unhide HF s.data.toList[j])
        generalize s.data.toList[j] = x at *
        clear hd hE HF
        cases hx : f x
        · rw [hx] at HD CF
          have E3 := hide (show madeT s most f = false by rw [unhide E, unhide HD]; rfl)
          clear hx
          go_wp2_with fail
          refine (unhide CF _).mono ?_
          rintro e w' ⟨rfl, rfl⟩
          go_wp2
          go_ret
          exact ⟨by rw [unhide E3]; rfl, unhide B1⟩
        · rw [hx] at HD CF
          clear hx
          go_wp2_with fail
          refine (unhide CF _).mono ?_
          rintro e w' ⟨rfl, rfl⟩
          go_wp2
          exact ⟨⟨j + 1, by go_num, by omega, hide (by rw [unhide HD]; rfl), HW⟩, by simp [intOf]; omega⟩
      · have hlt : ¬ (j : Int) < (s.size : Int) := by omega
        have E3 := hide (show madeT s most f = true by rw [unhide E, unhide hE, List.drop_of_length_le (by rw [Array.length_toList]; show s.size ≤ j; omega)]; rfl)
        go_wp2
        go_ret
        exact ⟨by rw [unhide E3]; rfl, unhide B1⟩
  · have e1 : decide ((1 : Int) ≤ (s.size : Int) ∧ (s.size : Int) ≤ (most : Int)) = false := decide_eq_false fun h => h1 ⟨by omega, by omega⟩
    have E := hide (show madeT s most f = false by
      rw [unhide E0]
      by_cases h2 : 1 ≤ s.size
      · have h3 : ¬ s.size ≤ most := fun h => h1 ⟨h2, h⟩
        simp [h3]
      · simp [h2])
    rw [e1] at CW
    clear e1 E0 h1
    go_enter Tryz.func133, Tryz.ntmps133
    go_wp2_with (go_at_call 74; refine (unhide CW _).mono ?_; rintro e w' ⟨rfl, rfl⟩)
    go_ret
    exact ⟨by rw [unhide E]; rfl, Below.refl _ _⟩
theorem enter_ofName (c : Array Value) (w : World) : (callFunc 135 c).run Tryz.prog w = .ok (.enter 135 c) w := by
  simp [callFunc, go_sem, Tryz.func135]
  rw [if_neg (by decide +kernel), if_neg (by decide +kernel)]
theorem enter_ofAddress (c : Array Value) (w : World) : (callFunc 167 c).run Tryz.prog w = .ok (.enter 167 c) w := by
  simp [callFunc, go_sem, Tryz.func167]
  rw [if_neg (by decide +kernel), if_neg (by decide +kernel)]
theorem enter_ofPrefix (c : Array Value) (w : World) : (callFunc 134 c).run Tryz.prog w = .ok (.enter 134 c) w := by
  simp [callFunc, go_sem, Tryz.func134]
  rw [if_neg (by decide +kernel), if_neg (by decide +kernel)]
theorem isName_calls (s : ByteArray) (hs : s.size ≤ 140737488355328) (w : World) : Calls Tryz.prog 78 #[.string s] w fun e w' => e = .returned (.bool (nameT s)) ∧ Below w.heap.size w w' := by
  have CM := hide (fun w => made_calls s 64 135 nameC enter_ofName (fun c w => ofName_calls c w) hs w)
  unfold nameT
  generalize madeT s 64 nameC = b at *
  go_enter Tryz.func78, Tryz.ntmps78
  go_wp2_with (go_at_call 133; refine (unhide CM _).mono ?_; rintro e w' ⟨rfl, hb⟩)
  go_ret
  exact ⟨rfl, hb⟩
theorem isAddress_calls (s : ByteArray) (hs : s.size ≤ 140737488355328) (w : World) : Calls Tryz.prog 136 #[.string s] w fun e w' => e = .returned (.bool (addrT s)) ∧ Below w.heap.size w w' := by
  have CM := hide (fun w => made_calls s 64 167 addrC enter_ofAddress (fun c w => ofAddress_calls c w) hs w)
  unfold addrT
  generalize madeT s 64 addrC = b at *
  go_enter Tryz.func136, Tryz.ntmps136
  go_wp2_with (go_at_call 133; refine (unhide CM _).mono ?_; rintro e w' ⟨rfl, hb⟩)
  go_ret
  exact ⟨rfl, hb⟩
theorem isPrefix_calls (s : ByteArray) (hs : s.size ≤ 140737488355328) (w : World) : Calls Tryz.prog 77 #[.string s] w fun e w' => e = .returned (.bool (prefT s)) ∧ Below w.heap.size w w' := by
  have CM := hide (fun w => made_calls s 128 134 prefC enter_ofPrefix (fun c w => ofPrefix_calls c w) hs w)
  cases hm : madeT s 128 prefC
  · have E := hide (show prefT s = false by unfold prefT; rw [hm]; rfl)
    rw [hm] at CM
    clear hm
    go_enter Tryz.func77, Tryz.ntmps77
    go_wp2_with (go_at_call 133; refine (unhide CM _).mono ?_; rintro e w' ⟨rfl, hb⟩)
    go_ret
    exact ⟨by rw [unhide E]; rfl, hb⟩
  · have h1 : 1 ≤ s.size := by
      unfold madeT at hm
      simp only [Bool.and_eq_true, decide_eq_true_eq] at hm
      exact hm.1.1
    have hl : 0 < s.data.toList.length := by rw [Array.length_toList]; exact h1
    have hx : (0 : Int) < (s.size : Int) := by omega
    have hh : s.data.toList.head? = some (s[0]'h1) := by
      rw [List.head?_eq_getElem?, List.getElem?_eq_getElem hl]; rfl
    have E := hide (show prefT s = (((s[0]'h1).toNat : Int) == 47) by
      unfold prefT
      rw [hm, hh, Bool.true_and, Bool.eq_iff_iff]
      simp only [beq_iff_eq, Option.some.injEq]
      rw [← UInt8.toNat_inj]
      have : (47 : UInt8).toNat = 47 := rfl
      omega)
    rw [hm] at CM
    clear hm hh hl
    generalize hy : (s[0]'h1) = x at *
    have hx2 : ∀ hh, (s[0]'hh) = x := fun _ => hy
    have hz : (s.toList)[0]? = some x := by rw [ByteArray.toList_eq, List.getElem?_eq_getElem (by rw [Array.length_toList]; exact h1)]; exact congrArg some hy
    go_enter Tryz.func77, Tryz.ntmps77
    go_wp2_with (go_at_call 133; refine (unhide CM _).mono ?_; rintro e w' ⟨rfl, hb⟩)
    go_ret
    exact ⟨by rw [unhide E]; rfl, hb⟩
end Go.Proofs.YtjcjleaicjhpeaaGreatDoor
end
/- Conf: bits of floats. -/
section
namespace Go.Proofs.YtjcjleaicjhpeaaGreatDoor
open Go.ChangeShapes Go.WideShapes Go.ChangeAt Go.RowKit
set_option linter.unusedVariables false

theorem cbits_call (x : Nat) (w : World) : (callFunc 91 #[.float .f64 x]).run Tryz.prog w = .ok (.value (.int .u64 (x : Int))) w := by
  rw [run_callFunc_extern Tryz.func91 (by kernel_rfl) (by kernel_rfl) (by kernel_rfl) (e := Extern.MathFloatBits.float64bits) (by kernel_rfl)]
  rfl
theorem cfrom_call (x : Nat) (w : World) : (callFunc 122 #[.int .u64 (x : Int)]).run Tryz.prog w = .ok (.value (.float .f64 x)) w := by
  rw [run_callFunc_extern Tryz.func122 (by kernel_rfl) (by kernel_rfl) (by kernel_rfl) (e := Extern.MathFloatBits.float64frombits) (by kernel_rfl)]
  rfl
end Go.Proofs.YtjcjleaicjhpeaaGreatDoor
end
