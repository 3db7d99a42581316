/- The contracts of tollgateref01.Extend and Sum: they compute CRC-32's register bit by bit, and leave the world as it was. -/
import Derived.Test.YtagncghpfdjkmaaGreatDoorB15
import Derived.Test.YtagncghpfdjkmaaGreatDoorB01
import Derived.Test.YtagncghpfdjkmaaGreatDoorB17
import Derived.Test.YtagncghpfdjkmaaGreatDoorB12
section
namespace Go.Proofs.YtagncghpfdjkmaaGreatDoor
open Go.ChangeShapes Go.WideShapes Go.ChangeAt Go.RowKit

theorem xor_ones (n : Nat) (hn : n < 4294967296) : bits .xor .u32 (n : Int) 4294967295 = ((Crc.not32 n : Nat) : Int) := by
  have := u32_xor_nat n 4294967295 hn (by decide)
  rw [Crc.not32_xor hn]
  exact this

theorem bit_eq (m x j : Nat) (hm : m < 4294967296) :
    bits .and .u32 (bits .xor .u32 (m : Int) (bits .and .u32 ((x : Int) / 2 ^ j % 4294967296) 1)) 1 = (((m + x / 2 ^ j) % 2 : Nat) : Int) := by
  have e : ((x : Int) / 2 ^ j % 4294967296) = ((x / 2 ^ j % 4294967296 : Nat) : Int) := by
    rw [Int.natCast_emod, Int.natCast_ediv, Int.natCast_pow]; rfl
  have h1 : x / 2 ^ j % 4294967296 < 4294967296 := Nat.mod_lt _ (by decide)
  rw [e, and_one _ h1]
  generalize hy : x / 2 ^ j = y at *
  rw [u32_xor_nat m _ hm (by omega), and_one _ (Crc.xor_lt hm (by omega)), Crc.xor_mod]
  congr 1
  omega
theorem bit_odd (m x j : Nat) (hm : m < 4294967296)
    (h : (bits .and .u32 (bits .xor .u32 (m : Int) (bits .and .u32 ((x : Int) / 2 ^ j % 4294967296) 1)) 1 == 1) = true) : (m + x / 2 ^ j) % 2 = 1 := by
  rw [bit_eq m x j hm] at h
  have := beq_iff_eq.1 h
  omega
theorem bit_even (m x j : Nat) (hm : m < 4294967296)
    (h : (bits .and .u32 (bits .xor .u32 (m : Int) (bits .and .u32 ((x : Int) / 2 ^ j % 4294967296) 1)) 1 == 1) = false) : ¬ (m + x / 2 ^ j) % 2 = 1 := by
  rw [bit_eq m x j hm] at h
  have := beq_eq_false_iff_ne.1 h
  omega
theorem stepBit_odd (m c : Nat) (hm : m < 4294967296) (h : (m + c) % 2 = 1) : bits .xor .u32 ((m : Int) / 2) 3988292384 = ((Crc.stepBit m c : Nat) : Int) := by
  have e : ((m : Int) / 2) = ((m / 2 : Nat) : Int) := by omega
  rw [e]
  have := u32_xor_nat (m / 2) 3988292384 (by omega) (by decide)
  rw [Crc.stepBit, if_pos h]
  exact this
theorem stepBit_even (m c : Nat) (h : ¬ (m + c) % 2 = 1) : ((m : Int) / 2) = ((Crc.stepBit m c : Nat) : Int) := by
  rw [Crc.stepBit, if_neg h]; omega

set_option maxHeartbeats 1000000 in
theorem refExtend_calls (s : Nat) (a : Option Addr) (c : Nat) (l : List Nat) (w : World) (hs : s < 4294967296) (hl : l.length ≤ maxLen) (hb : BytesAt w a l) :
    Calls Tryz.prog 67 #[.int .u32 (s : Int), .slice a l.length c] w fun e w' => e = .returned (.int .u32 ((Crc.ext s l : Nat) : Int)) ∧ w' = w := by
  unfold maxLen at hl
  have hB := hide hb
  clear hb
  go_enter Tryz.func67, Tryz.ntmps67
  go_wp2
  rw [xor_ones s hs]
  go_loop [5, 6] (fun x i => ∃ k n : Nat, k ≤ l.length ∧ i = .int .i64 (k : Int) ∧ x = .int .u32 (n : Int) ∧ n = Crc.reg (Crc.not32 s) (l.take k)) (fun _ i => l.length - (intOf i).toNat)
  case atStart => exact ⟨0, Crc.not32 s, by omega, rfl, rfl, by rw [List.take_zero, Crc.reg_nil]⟩
  case round =>
    obtain ⟨k, n, hk, rfl, rfl, hn⟩ := hrel
    have hlt : n < 4294967296 := by rw [hn]; exact Crc.reg_lt _ (Crc.not32_lt _) (fun c hc => (unhide hB).lt c (List.mem_of_mem_take hc))
    have HN : Hid (n = Crc.reg (Crc.not32 s) (l.take k)) := hn
    clear hn
    by_cases hkl : k < l.length
    · obtain ⟨b, off, rfl, hc⟩ := (unhide hB).cell k hkl
      have hc256 := getD_lt (unhide hB).lt k
      have HS := hide (show Crc.reg (Crc.not32 s) (l.take (k + 1)) = Crc.bitsOf n (l.getD k 0) 8 by rw [take_snoc_nat l k hkl, Crc.reg_snoc, HN.out, Crc.bitsOf_eight _ _ hc256])
      generalize l.getD k 0 = x at *
      go_wp2
      go_loop [5, 7] (fun r i => ∃ j m : Nat, j ≤ 8 ∧ i = .int .i64 (j : Int) ∧ r = .int .u32 (m : Int) ∧ m = Crc.bitsOf n x j) (fun _ i => 8 - (intOf i).toNat)
      case atStart => exact ⟨0, n, by omega, rfl, rfl, rfl⟩
      case round =>
        obtain ⟨j, m, hj, rfl, rfl, hm⟩ := hrel
        have hmlt : m < 4294967296 := by rw [hm]; exact Crc.bitsOf_lt x hlt j
        have HM : Hid (m = Crc.bitsOf n x j) := hm
        clear hm
        by_cases hj8 : j < 8
        · have hs : Crc.bitsOf n x (j + 1) = Crc.stepBit m (x / 2 ^ j) := by rw [HM.out]; rfl
          have HT := hide hs
          clear hs
          go_wp2
          · exact ⟨⟨j + 1, _, by omega, by go_num, by rw [stepBit_odd m (x / 2 ^ j) hmlt (bit_odd m x j hmlt ‹_›)], (unhide HT).symm⟩, by simp [intOf]; omega⟩
          · exact ⟨⟨j + 1, _, by omega, by go_num, by rw [stepBit_even m (x / 2 ^ j) (bit_even m x j hmlt ‹_›)], (unhide HT).symm⟩, by simp [intOf]; omega⟩
        · have hj8' : j = 8 := by omega
          subst hj8'
          go_wp2
          exact ⟨⟨k + 1, m, by omega, by go_num, rfl, HM.out.trans (unhide HS).symm⟩, by simp [intOf]; omega⟩
    · have hkl' : k = l.length := by omega
      have HR := hide (show Ending.returned (.int .u32 ((Crc.not32 n : Nat) : Int)) = .returned (.int .u32 ((Crc.ext s l : Nat) : Int)) by rw [HN.out, hkl', List.take_length]; unfold Crc.ext; exact Eq.refl _)
      have HNn := hide (xor_ones n hlt)
      clear hkl'
      go_wp2
      go_ret
      exact ⟨(congrArg (fun z : Int => Ending.returned (.int .u32 z)) (unhide HNn)).trans (unhide HR), rfl⟩

theorem refSum_calls (a : Option Addr) (c : Nat) (l : List Nat) (w : World) (hl : l.length ≤ maxLen) (hb : BytesAt w a l) :
    Calls Tryz.prog 68 #[.slice a l.length c] w fun e w' => e = .returned (.int .u32 ((Crc.ext 0 l : Nat) : Int)) ∧ w' = w := by
  have hB := hide hb
  clear hb
  go_enter Tryz.func68, Tryz.ntmps68
  go_wp2_with (go_at_call 67; refine (refExtend_calls 0 _ _ _ _ (by decide) hl (unhide hB)).mono ?_; rintro e w' ⟨rfl, rfl⟩)
  go_ret
  exact ⟨rfl, rfl⟩
end Go.Proofs.YtagncghpfdjkmaaGreatDoor
end
/- The contract of tollgateref01.number, and those of Sum and Extend with the length apart. -/
section
namespace Go.Proofs.YtagncghpfdjkmaaGreatDoor
open Go.ChangeShapes Go.WideShapes Go.ChangeAt Go.RowKit

def numTo (l : List Nat) : Nat → Nat
  | 0 => 0
  | i + 1 => numTo l i * 256 + l.getD i 0
theorem numTo_lt {l : List Nat} (h : ∀ c ∈ l, c < 256) (i : Nat) (hi : i ≤ 3) : numTo l i ≤ 16777215 := by
  have l0 := getD_lt h 0
  have l1 := getD_lt h 1
  have l2 := getD_lt h 2
  match i, hi with
  | 0, _ => simp [numTo]
  | 1, _ => simp only [numTo]; omega
  | 2, _ => simp only [numTo]; omega
  | 3, _ => simp only [numTo]; omega
theorem numTo_four (l : List Nat) : numTo l 4 = num4 l := by
  simp only [numTo, num4]; omega

set_option maxHeartbeats 400000 in
theorem number_calls (a : Option Addr) (c : Nat) (l : List Nat) (k : Nat) (w : World) (hl : l.length ≤ maxLen) (hk : k + 4 ≤ l.length) (hb : BytesAt w a l) :
    Calls Tryz.prog 109 #[.slice a l.length c, .int .i64 (k : Int)] w fun e w' => e = .returned (.int .i64 ((num4 (l.drop k) : Nat) : Int)) ∧ w' = w := by
  unfold maxLen at hl
  obtain ⟨b, off, rfl, hc⟩ := bytesAt_some hb (by omega)
  have hlt : ∀ c ∈ l.drop k, c < 256 := fun c hc => hb.lt c (List.mem_of_mem_drop hc)
  have Hc := hide hc
  have Hlt := hide hlt
  clear hc hlt hb
  go_enter Tryz.func109, Tryz.ntmps109
  go_wp2
  go_loop [5, 6] (fun n i => ∃ j m : Nat, j ≤ 4 ∧ i = .int .i64 (j : Int) ∧ n = .int .i64 (m : Int) ∧ m = numTo (l.drop k) j) (fun _ i => 4 - (intOf i).toNat)
  case atStart => exact ⟨0, 0, by omega, rfl, rfl, rfl⟩
  case round =>
    obtain ⟨j, m, hj, rfl, rfl, hm⟩ := hrel
    have HM := hide hm
    clear hm
    by_cases h4 : j < 4
    · have hm' : m ≤ 16777215 := by rw [unhide HM]; exact numTo_lt (unhide Hlt) j (by omega)
      have cj := (unhide Hc) (k + j) (by omega)
      have e1 : l.getD (k + j) 0 = (l.drop k).getD j 0 := (getD_drop l k j).symm
      rw [e1] at cj
      have hx := getD_lt (unhide Hlt) j
      have HS := hide (show numTo (l.drop k) (j + 1) = m * 256 + (l.drop k).getD j 0 by rw [unhide HM]; rfl)
      generalize (l.drop k).getD j 0 = x at *
      clear e1
      have q1 : ((k : Int) + (j : Int)).toNat = k + j := by omega
      go_wp2
      exact ⟨⟨j + 1, m * 256 + x, by omega, by go_num, by go_num, (unhide HS).symm⟩, by simp [intOf]; omega⟩
    · have h4' : j = 4 := by omega
      subst h4'
      have HR := hide (show Ending.returned (.int .i64 (m : Int)) = .returned (.int .i64 ((num4 (l.drop k) : Nat) : Int)) by rw [unhide HM, numTo_four])
      go_wp2
      go_ret
      exact ⟨unhide HR, rfl⟩
theorem refSum_calls' (a : Option Addr) (n c : Nat) (l : List Nat) (w : World) (hn : l.length = n) (hl : l.length ≤ maxLen) (hb : BytesAt w a l) :
    Calls Tryz.prog 68 #[.slice a n c] w fun e w' => e = .returned (.int .u32 ((Crc.ext 0 l : Nat) : Int)) ∧ w' = w := by
  subst hn; exact refSum_calls a c l w hl hb
theorem refExtend_calls' (s : Nat) (a : Option Addr) (n c : Nat) (l : List Nat) (w : World) (hn : l.length = n) (hs : s < 4294967296) (hl : l.length ≤ maxLen) (hb : BytesAt w a l) :
    Calls Tryz.prog 67 #[.int .u32 (s : Int), .slice a n c] w fun e w' => e = .returned (.int .u32 ((Crc.ext s l : Nat) : Int)) ∧ w' = w := by
  subst hn; exact refExtend_calls s a c l w hs hl hb
end Go.Proofs.YtagncghpfdjkmaaGreatDoor
end
/- The contracts of tollgateref01.four and Frame: the same bytes as frame's. -/
section
namespace Go.Proofs.YtagncghpfdjkmaaGreatDoor
open Go.ChangeShapes Go.WideShapes Go.ChangeAt Go.RowKit

set_option maxHeartbeats 400000 in
theorem four_calls (n : Nat) (w : World) (hn : n < 4294967296) :
    Calls Tryz.prog 66 #[.int .u32 (n : Int)] w fun e w' => ∃ g, e = .returned (.slice (some ⟨g, 0, none⟩) 4 4) ∧ Below w.heap.size w w' ∧ w.heap.size ≤ g ∧ w'.heap[g]? = some (.cells ((word4 n).map byteV).toArray 5 (0, 0)) := by
  go_enter Tryz.func66, Tryz.ntmps66
  go_wp2
  go_ret
  refine ⟨w.heap.size, rfl, (Below.refl _ _).alloc (Nat.le_refl _) _, Nat.le_refl _, ?_⟩
  rw [heap_new]
  rfl

set_option maxHeartbeats 1000000 in
theorem refFrame_ok (a : Option Addr) (c : Nat) (l : List Nat) (w : World) (hb : BytesAt w a l) (hz : a = none → c = 0) (h : l.length ≤ 65536) :
    Calls Tryz.prog 21 #[.slice a l.length c] w fun e w' => ∃ sp c', e = .returned (.tuple #[.slice sp (frameB l).length c', .int .i64 0]) ∧ Below w.heap.size w w' ∧ OwnB w.heap.size w' sp c' (frameB l) := by
  have HB := hide hb
  have Hz := hide hz
  clear hb hz
  go_enter Tryz.func21, Tryz.ntmps21
  go_wp2_with fail
  refine (four_calls l.length _ (by omega)).mono ?_
  rintro e w1 ⟨g1, rfl, hb1, hg1, hc1⟩
  have B1 := hide (bytesAt_block hc1 (word4_lt _ (by omega)))
  have HBa := hide ((unhide HB).later hb1)
  have o1 := hide (OwnB.empty w1 w1.heap.size (Nat.le_refl _))
  have b1 := hide (show Below w1.heap.size w1 (w1.alloc (.cells #[] 5)) from (Below.refl _ _).alloc (Nat.le_refl _) _)
  clear hc1
  go_wp2_with (at_builtin; refine wpList_append8 rfl (.tmp 13) (.tmp 14) rfl w1.heap.size (some ⟨w1.heap.size, 0, none⟩) 0 0 [] rfl rfl (by exact unhide o1) (some ⟨g1, 0, none⟩) 4 4 rfl (word4 l.length) rfl (by exact (unhide B1).later (unhide b1)) (fun h => by cases h) (by simp) ?b1 ?_; rotate_right; intro sp1 n1 k1 W1 hn1 ho1 hgr1 hbl1)
  case b1 => simp
  have bW1 := (unhide b1).trans hbl1
  have B1W := hide ((unhide B1).later bW1)
  have HBW := hide ((unhide HBa).later bW1)
  rw [List.nil_append] at ho1 hn1
  have HO1 := hide ho1
  have BW1 := hide bW1
  clear hgr1 hbl1 ho1 bW1
  refine (refSum_calls' _ 4 _ (word4 l.length) _ rfl (by rw [word4_length]; simp [maxLen]) (unhide B1W)).mono ?_
  rintro e W2 ⟨rfl, rfl⟩
  go_wp2_with fail
  refine (refExtend_calls _ _ _ l _ (Crc.ext_lt _ _) (by simp only [maxLen]; omega) (unhide HBW)).mono ?_
  rintro e W3 ⟨rfl, rfl⟩
  have HS := hide (show Crc.ext (Crc.ext 0 (word4 l.length)) l = fsum l.length l from rfl)
  rw [unhide HS]
  have hslt := fsum_lt l.length l
  generalize hs : fsum l.length l = s at *
  have Hs := hide hs
  clear hs HS
  go_wp2_with fail
  refine (four_calls s _ hslt).mono ?_
  rintro e W4 ⟨g4, rfl, hb4, hg4, hc4⟩
  have hsz4 := Nat.le_trans (unhide BW1).size hb4.size
  have B4 := hide (bytesAt_block hc4 (word4_lt _ hslt))
  have HO4 := hide ((unhide HO1).later hb4)
  have BW4 := hide ((unhide BW1).trans (hb4.mono (unhide BW1).size))
  clear hc4
  go_wp2_with (first
    | (at_builtin; refine wpList_append8 rfl (.tmp 16) (.tmp 21) rfl w1.heap.size sp1 n1 k1 (word4 l.length) rfl (unhide hn1) (by exact unhide HO4) (some ⟨g4, 0, none⟩) 4 4 rfl (word4 s) rfl (by exact unhide B4) (fun h => by cases h) (by rw [word4_length]; omega) hsz4 ?_; intro sp5 n5 k5 W5 hn5 ho5 hgr5 hbl5)
    | (at_builtin; refine wpList_append8 rfl (.tmp 23) (.tmp 24) rfl w1.heap.size sp5 n5 k5 (word4 l.length ++ word4 s) rfl (unhide hn5) (by exact ho5) a l.length c rfl l rfl ?B6 (unhide Hz) ?s6 ?b6 ?_; rotate_right; intro sp6 n6 k6 W6 hn6 ho6 hgr6 hbl6))
  case B6 => exact (unhide HBa).later ((unhide BW4).trans hbl5)
  case s6 => rw [List.length_append, word4_length, word4_length]; omega
  case b6 => exact ((unhide BW4).trans hbl5).size
  have hF : word4 l.length ++ word4 s ++ l = frameB l := by rw [frameB, unhide Hs, List.append_assoc]
  rw [hF] at ho6 hn6
  rw [← unhide hn6]
  go_ret2
  refine ⟨sp6, k6, rfl, hb1.trans ((((unhide BW4).trans hbl5).trans hbl6).mono hb1.size), ho6.mono hb1.size⟩
end Go.Proofs.YtagncghpfdjkmaaGreatDoor
end
/- Snapshots: the document's Put. -/
section
namespace Go.Proofs.YtagncghpfdjkmaaGreatDoor
open Go.ChangeShapes Go.WideShapes Go.ChangeAt Go.RowKit
set_option linter.unusedVariables false

section
variable {w : World} {sp : Option Addr} {c : Nat} {b : List Nat}
set_option maxHeartbeats 2000000 in
theorem sradd_calls (base n0 k : Nat) (hn0 : b.length = n0) (hown : OwnB base w sp c b) (hb : b.length ≤ 100000) (hk : k ≤ 1099511627776) (hbase : base ≤ w.heap.size) :
    Calls Tryz.prog 56 #[.slice sp n0 c, .int .i64 (k : Int)] w fun e w' => ∃ sp' n' c', e = .returned (.slice sp' n' c') ∧ Hid ((b ++ numB k).length = n') ∧ OwnB base w' sp' c' (b ++ numB k) ∧ Below base w w' := by
  have H := hide hown
  have N0 := hide hn0
  have HB := hide hb
  have SX := hide (numB_six k hk)
  clear hown hn0 hb
  go_enter Tryz.func56, Tryz.ntmps56
  go_wp2_with fail
  refine (refNumber_yes k w hk).mono ?_
  rintro e w1 ⟨xp, m, xc, rfl, hm, hx, b1⟩
  have O1 := hide ((unhide H).later b1)
  have X1 := hide hx
  have B1 := hide b1
  have HM := hide (unhide hm)
  clear hx b1
  go_wp2_with (at_builtin; refine wpList_append8 rfl (.tmp 12) (.tmp 13) rfl base sp n0 c b rfl (unhide N0) (by exact unhide O1) xp m xc rfl (numB k) (unhide HM) (by exact (unhide X1).bytes) (by exact (unhide X1).nil0) (by have := unhide HB; have h2 := unhide HM; have h3 := unhide SX; omega) (by exact Nat.le_trans hbase (unhide B1).size) ?_; intro sp' n' c' w' hn' ho' hg' hb')
  go_ret
  exact ⟨sp', n', c', rfl, hn', ho', ((unhide B1).mono hbase).trans hb'⟩
end
/-- How the document's Put ends. -/
def PutR (s : Sn) (w : World) (e : Ending) (w' : World) : Prop := Below w.heap.size w w' ∧ ((snE s ≠ 0 ∧ e = .returned (.tuple #[.slice none 0 0, .int .i64 (snE s : Int)])) ∨
  (snE s = 0 ∧ ∃ sp n c, e = .returned (.tuple #[.slice sp n c, .int .i64 0]) ∧ (snB s).length = n ∧ OwnB w.heap.size w' sp c (snB s)))
set_option maxRecDepth 20000 in
set_option maxHeartbeats 8000000 in
theorem rputS_calls (s : Sn) (h : SnH) (w : World) (hs : SnAt w s h) : Calls Tryz.prog 16 #[.agg (snRow s h)] w (PutR s w) := by
  have HS := hide hs
  have FB := hide (show ∀ (x : Nat) W, snE s = x → x ≠ 0 → Below w.heap.size w W → PutR s w (.returned (.tuple #[.slice none 0 0, .int .i64 (x : Int)])) W from fun x W h1 h2 u => ⟨u, .inl ⟨by rw [h1]; exact h2, by rw [h1]⟩⟩)
  have PC := hide (fun W (u : Below w.heap.size w W) => rputM_calls (w := W) (vc := h.vc) (lc := h.lc) (hs.v.later u) (hs.l.later u) s.v.length s.l.length rfl rfl hs.vn hs.ln)
  unfold snRow
  have bi := hs.bi
  have bt := hs.bt
  have hdn := hs.dn
  have hdm := hs.dm
  have hvn := hs.vn
  have hln := hs.ln
  simp only [maxLen] at hdm hvn hln
  have HI := hide (show snE s = (if (1 ≤ s.i ∧ s.i ≤ 1099511627776) ∧ (1 ≤ s.t ∧ s.t ≤ 1099511627776) ∧ rightM s.v s.l = true then (if 16384 < s.d.length then 6 else 0) else 2) from rfl)
  have SI := hide (show snI s = inB s.i.toNat s.t.toNat (listB s.v ++ listB s.l) s.d from rfl)
  clear hs
  generalize hvl : s.v.length = vn at *
  generalize hll : s.l.length = ln at *
  generalize hdl : s.d.length = dn at *
  generalize hi0 : s.i = i at *
  generalize ht0 : s.t = t at *
  have E0 := hide hi0
  have E1 := hide ht0
  have VL := hide hvl
  have LL := hide hll
  have DL := hide hdl
  clear hi0 ht0 hvl hll hdl
  have X1 := hide (heap_new w (.cells #[.int .i64 i, .int .i64 t, .slice h.va vn h.vc, .slice h.la ln h.lc, .slice h.dp dn h.dc] 29))
  have u1 := hide (show Below w.heap.size w (w.alloc (.cells #[.int .i64 i, .int .i64 t, .slice h.va vn h.vc, .slice h.la ln h.lc, .slice h.dp dn h.dc] 29)) from (Below.refl _ _).alloc (Nat.le_refl _) _)
  have c2 := box_cell (unhide X1) 2 _ rfl
  have c3 := box_cell (unhide X1) 3 _ rfl
  go_enter Tryz.func16, Tryz.ntmps16
  go_wp2_with fail
  generalize w.alloc _ = W1 at *
  generalize hD : w.heap.size = D at *
  go_at_call 55
  refine (unhide PC _ (unhide u1)).mono ?_
  rintro e V2 ⟨mp, mn, mc, rfl, hmn, hmo, v2⟩
  have X2 := hide (later_block v2 (unhide X1))
  have U2 := hide ((unhide u1).trans (v2.mono (by rw [← hD]; exact (unhide u1).size)))
  have U2' := hide (show Below w.heap.size w V2 from by rw [hD]; exact unhide U2)
  have MO := hide hmo
  have MN := hide (unhide hmn)
  clear v2 hmo hmn c2 c3 X1
  have c0 := box_cell (unhide X2) 0 _ rfl
  have c1 := box_cell (unhide X2) 1 _ rfl
  by_cases a1 : i < 1
  · have FE := hide (unhide FB 2 V2 (by rw [unhide HI, if_neg (fun q => by omega)]) (by omega) (unhide U2))
    clear FB HI PC
    go_wp2
    go_ret2
    exact unhide FE
  by_cases a2 : 1099511627776 < i
  · have FE := hide (unhide FB 2 V2 (by rw [unhide HI, if_neg (fun q => by omega)]) (by omega) (unhide U2))
    clear FB HI PC
    go_wp2
    go_ret2
    exact unhide FE
  by_cases a3 : t < 1
  · have FE := hide (unhide FB 2 V2 (by rw [unhide HI, if_neg (fun q => by omega)]) (by omega) (unhide U2))
    clear FB HI PC
    go_wp2
    go_ret2
    exact unhide FE
  by_cases a4 : 1099511627776 < t
  · have FE := hide (unhide FB 2 V2 (by rw [unhide HI, if_neg (fun q => by omega)]) (by omega) (unhide U2))
    clear FB HI PC
    go_wp2
    go_ret2
    exact unhide FE
  cases hr : rightM s.v s.l with
  | false =>
    have PE := hide (show putE s.v s.l = 2 by rw [putE, hr]; rfl)
    rw [unhide PE]
    have FE := hide (unhide FB 2 V2 (by rw [unhide HI, if_neg (by rw [hr]; simp)]) (by omega) (unhide U2))
    clear FB HI PC
    go_wp2
    go_ret2
    exact unhide FE
  | true =>
    have PE := hide (show putE s.v s.l = 0 by rw [putE, hr]; rfl)
    have PB := hide (show putB s.v s.l = listB s.v ++ listB s.l by rw [putB, hr]; rfl)
    rw [unhide PE]
    rw [unhide PB] at MO MN
    have c4 := box_cell (unhide X2) 4 _ rfl
    have h1 : 1 ≤ i ∧ i ≤ 1099511627776 := by omega
    have h2 : 1 ≤ t ∧ t ≤ 1099511627776 := by omega
    by_cases h3 : 16384 < dn
    · have y3 : (16384 : Int) < (dn : Int) := by omega
      have FE := hide (unhide FB 6 V2 (by rw [unhide HI, if_pos ⟨h1, h2, hr⟩, if_pos h3]) (by omega) (unhide U2))
      clear FB HI PC
      go_wp2
      go_ret2
      exact unhide FE
    · have y3 : ¬ (16384 : Int) < (dn : Int) := by omega
      have Z0 := hide (show snE s = 0 by rw [unhide HI, if_pos ⟨h1, h2, hr⟩, if_neg h3])
      have ML := hide (mem_len hr)
      obtain ⟨i, rfl⟩ : ∃ k : Nat, i = (k : Int) := ⟨i.toNat, by omega⟩
      obtain ⟨t, rfl⟩ : ∃ k : Nat, t = (k : Int) := ⟨t.toNat, by omega⟩
      have hi := h1.2
      have ht := h2.2
      rw [Int.toNat_natCast, Int.toNat_natCast] at SI
      have M20 := hide (show mn ≤ 20 by rw [← unhide MN]; exact unhide ML)
      have KY := hide (show ∀ W, Below V2.heap.size V2 W → W.heap[D]? = some (.cells #[.int .i64 (i : Int), .int .i64 (t : Int), .slice h.va vn h.vc, .slice h.la ln h.lc, .slice h.dp dn h.dc] 29 (0, 0)) from fun W u => later_block u (unhide X2))
      have F := hide (show Below V2.heap.size V2 V2.drew from (Below.refl _ _).drew)
      have SL := hide (snI_len (unhide Z0))
      clear FB PC
      go_wp2_with fail
      clear c4
      refine wp_region_held_drew (S := fun w' => w'.cell? ⟨D, 0, none⟩ = some (.int .i64 (i : Int)) ∧ w'.cell? ⟨D, 1, none⟩ = some (.int .i64 (t : Int))) (by kernel_rfl) ?_ (fun hHeld => ?_)
      · try dsimp only
        exact ⟨box_cell (unhide KY _ (unhide F)) 0 _ rfl, box_cell (unhide KY _ (unhide F)) 1 _ rfl⟩
      refine held_take 1 (oi := { dst := some 44, op := Op.fieldAddr 29 (Operand.tmp 1) 0, type := 0, pos := "ref.go:30", after := #[], guard := none }) (v := ?_) (by kernel_rfl) rfl (by rfl) (by kernel_rfl) (by kernel_rfl) (fun _ _ _ h => h) ?_ (by assumption) ?_
      rotate_left
      · (intro w hSw; (try dsimp only at hSw); go_simp; try with_reducible rfl)
      try simp only [Act.put, List.setIfInBounds_toArray, List.set_cons_zero, List.set_cons_succ]
      refine held_take 2 (oi := { dst := some 45, op := Op.fieldAddr 23 (Operand.tmp 44) 0, type := 0, pos := "ref.go:30", after := #[{ on := 1, ground := Ground.data }], guard := none }) (v := ?_) (by kernel_rfl) rfl (by rfl) (by kernel_rfl) (by kernel_rfl) (fun _ _ _ h => h) ?_ (by assumption) ?_
      rotate_left
      · (intro w hSw; (try dsimp only at hSw); go_simp; try with_reducible rfl)
      try simp only [Act.put, List.setIfInBounds_toArray, List.set_cons_zero, List.set_cons_succ]
      refine held_take 3 (oi := { dst := some 46, op := Op.load 3 (Operand.tmp 45), type := 3, pos := "ref.go:30", after := #[{ on := 2, ground := Ground.data }], guard := none }) (v := ?_) (by kernel_rfl) rfl (by rfl) (by kernel_rfl) (by kernel_rfl) (fun _ _ _ h => h) ?_ (by assumption) ?_
      rotate_left
      · (intro w hSw; (try dsimp only at hSw); go_simp; try with_reducible rfl)
      try simp only [Act.put, List.setIfInBounds_toArray, List.set_cons_zero, List.set_cons_succ]
      refine held_take 5 (oi := { dst := some 48, op := Op.fieldAddr 29 (Operand.tmp 1) 0, type := 0, pos := "ref.go:30", after := #[], guard := none }) (v := ?_) (by kernel_rfl) rfl (by rfl) (by kernel_rfl) (by kernel_rfl) (fun _ _ _ h => h) ?_ (by assumption) ?_
      rotate_left
      · (intro w hSw; (try dsimp only at hSw); go_simp; try with_reducible rfl)
      try simp only [Act.put, List.setIfInBounds_toArray, List.set_cons_zero, List.set_cons_succ]
      refine held_take 6 (oi := { dst := some 49, op := Op.fieldAddr 23 (Operand.tmp 48) 1, type := 0, pos := "ref.go:30", after := #[{ on := 5, ground := Ground.data }], guard := none }) (v := ?_) (by kernel_rfl) rfl (by rfl) (by kernel_rfl) (by kernel_rfl) (fun _ _ _ h => h) ?_ (by assumption) ?_
      rotate_left
      · (intro w hSw; (try dsimp only at hSw); go_simp; try with_reducible rfl)
      try simp only [Act.put, List.setIfInBounds_toArray, List.set_cons_zero, List.set_cons_succ]
      refine held_take 7 (oi := { dst := some 50, op := Op.load 3 (Operand.tmp 49), type := 3, pos := "ref.go:30", after := #[{ on := 6, ground := Ground.data }], guard := none }) (v := ?_) (by kernel_rfl) rfl (by rfl) (by kernel_rfl) (by kernel_rfl) (fun _ _ _ h => h) ?_ (by assumption) ?_
      rotate_left
      · (intro w hSw; (try dsimp only at hSw); go_simp; try with_reducible rfl)
      try simp only [Act.put, List.setIfInBounds_toArray, List.set_cons_zero, List.set_cons_succ]
      refine wpAnyH_ready (rs := [0]) (by kernel_rfl) (by simp) ?_
      refine AllReadyH.cons (o := { dst := some 43, op := Op.buildSlice 27 0 #[], type := 27, pos := "ref.go:30", after := #[], guard := none }) rfl (fun K hK => ?_) ?_
      · refine step_build8 rfl rfl V2.heap.size (unhide F).size ?_
        intro sp2 W2 ho2 hb2
        have F := hide ((unhide F).trans (hb2.mono (unhide F).size))
        have O2 := hide ho2
        clear ho2 hb2
        refine hK.out _ _ ?_ (fun hHeld => ?_)
        · try dsimp only
          exact ⟨box_cell (unhide KY _ (unhide F)) 0 _ rfl, box_cell (unhide KY _ (unhide F)) 1 _ rfl⟩
        clear hK K
        try simp only [Act.put, List.setIfInBounds_toArray, List.set_cons_zero, List.set_cons_succ]
        refine wpAnyH_ready (rs := [4]) (by kernel_rfl) (by simp) ?_
        refine AllReadyH.cons (o := { dst := some 47, op := Op.call { callee := Callee.value (Operand.func 56), args := #[Operand.tmp 43, Operand.tmp 46], argTypes := #[27, 3] }, type := 27, pos := "ref.go:30", after := #[{ on := 0, ground := Ground.data }, { on := 3, ground := Ground.data }], guard := none }) rfl (fun K hK => ?_) ?_
        · go_simp
          refine (sradd_calls V2.heap.size 0 i rfl (unhide O2) (by simp) (by omega) (unhide F).size).mono ?_
          rintro e W3 ⟨sp3, n3, k3, rfl, hn3, ho3, hb3⟩
          have F := hide ((unhide F).trans hb3)
          have O3 := hide ho3
          have N3 := hide (unhide hn3)
          clear ho3 hn3 hb3
          go_wp2_with fail
          refine hK.out _ _ ?_ (fun hHeld => ?_)
          · try dsimp only
            exact ⟨box_cell (unhide KY _ (unhide F)) 0 _ rfl, box_cell (unhide KY _ (unhide F)) 1 _ rfl⟩
          clear hK K
          try simp only [Act.put, List.setIfInBounds_toArray, List.set_cons_zero, List.set_cons_succ]
          refine wpAnyH_ready (rs := [8]) (by kernel_rfl) (by simp) ?_
          refine AllReadyH.cons (o := { dst := some 51, op := Op.call { callee := Callee.value (Operand.func 56), args := #[Operand.tmp 47, Operand.tmp 50], argTypes := #[27, 3] }, type := 27, pos := "ref.go:30", after := #[{ on := 4, ground := Ground.data }, { on := 7, ground := Ground.data }, { on := 4, ground := Ground.chain }], guard := none }) rfl (fun K hK => ?_) ?_
          · go_simp
            refine (sradd_calls V2.heap.size n3 t (unhide N3) (unhide O3) (by have := numB_six i (by omega); simp; omega) (by omega) (unhide F).size).mono ?_
            rintro e V4 ⟨sp4, n4, c4, rfl, hn4, ho4, hb4⟩
            have F := hide ((unhide F).trans hb4)
            have O4 := hide ho4
            have N4 := hide (unhide hn4)
            clear ho4 hn4 hb4
            go_wp2_with fail
            refine hK.out _ _ ?_ (fun hHeld => ?_)
            · try dsimp only
              exact ⟨box_cell (unhide KY _ (unhide F)) 0 _ rfl, box_cell (unhide KY _ (unhide F)) 1 _ rfl⟩
            clear hK K
            try simp only [Act.put, List.setIfInBounds_toArray, List.set_cons_zero, List.set_cons_succ]
            refine held_take 9 (oi := { dst := some 6, op := Op.assign (Operand.tmp 51), type := 27, pos := "ref.go:30", after := #[{ on := 8, ground := Ground.data }, { on := 8, ground := Ground.chain }, { on := 0, ground := Ground.phase }, { on := 1, ground := Ground.phase }, { on := 2, ground := Ground.phase }, { on := 3, ground := Ground.phase }, { on := 4, ground := Ground.phase }, { on := 5, ground := Ground.phase }, { on := 6, ground := Ground.phase }, { on := 7, ground := Ground.phase }, { on := 8, ground := Ground.phase }], guard := none }) (v := ?_) (by kernel_rfl) rfl (by rfl) (by kernel_rfl) (by kernel_rfl) (fun _ _ _ h => h) ?_ (by assumption) ?_
            rotate_left
            · (intro w hSw; (try dsimp only at hSw); go_simp; try with_reducible rfl)
            try simp only [Act.put, List.setIfInBounds_toArray, List.set_cons_zero, List.set_cons_succ]
            refine wpAnyH_done (by kernel_rfl) ?_ _
            have EQ4 : [] ++ numB i ++ numB t = numB i ++ numB t := by simp
            rw [EQ4] at O4 N4
            have L4 := hide (show (numB i ++ numB t).length ≤ 12 by have h1 := numB_six i (by omega); have h2 := numB_six t (by omega); rw [List.length_append]; omega)
            clear EQ4
            go_wp2_with fail
            go_at_call 56
            refine (sradd_calls V2.heap.size n4 mn (unhide N4) (unhide O4) (by have := unhide L4; omega) (by have := unhide M20; omega) (unhide F).size).mono ?_
            rintro e V5 ⟨sp5, n5, c5, rfl, hn5, ho5, v5⟩
            have F := hide ((unhide F).trans v5)
            have O5 := hide ho5
            have N5 := hide (unhide hn5)
            have L5 := hide (show (numB i ++ numB t ++ numB mn).length ≤ 18 by have h1 := unhide L4; have h2 := numB_six mn (by have := unhide M20; omega); rw [List.length_append]; omega)
            have MB := hide ((unhide MO).later (unhide F))
            clear ho5 hn5 v5
            go_wp2_with (at_builtin
                         refine wpList_append8 rfl (.tmp 56) (.tmp 57) rfl V2.heap.size sp5 n5 c5 (numB i ++ numB t ++ numB mn) rfl (unhide N5) (by exact unhide O5) mp mn mc rfl (listB s.v ++ listB s.l) (unhide MN) (by exact (unhide MB).bytes) (by exact (unhide MB).nil0) (by have h1 := unhide L5; have h2 := unhide M20; omega) (by exact (unhide F).size) ?_
                         intro sp6 n6 c6 V6 hn6 ho6 hg6 v6
                         have F := hide ((unhide F).trans v6)
                         have O6 := hide ho6
                         have N6 := hide (unhide hn6)
                         have L6 := hide (show (numB i ++ numB t ++ numB mn ++ (listB s.v ++ listB s.l)).length ≤ 38 by have h1 := unhide L5; have h2 := unhide ML; rw [List.length_append]; omega)
                         have g4 := box_cell (unhide KY _ (unhide F)) 4 _ rfl
                         clear ho6 hn6 v6 hg6)
            clear g4
            go_at_call 56
            refine (sradd_calls V2.heap.size n6 dn (unhide N6) (unhide O6) (by have := unhide L6; omega) (by omega) (unhide F).size).mono ?_
            rintro e V7 ⟨sp7, n7, c7, rfl, hn7, ho7, v7⟩
            have F := hide ((unhide F).trans v7)
            have O7 := hide ho7
            have N7 := hide (unhide hn7)
            have L7 := hide (show (numB i ++ numB t ++ numB mn ++ (listB s.v ++ listB s.l) ++ numB dn).length ≤ 44 by have h1 := unhide L6; have h2 := numB_six dn (by omega); rw [List.length_append]; omega)
            have g4 := box_cell (unhide KY _ (unhide F)) 4 _ rfl
            have HD := hide ((unhide HS).d.later ((unhide U2').trans ((unhide F).mono (unhide U2').size)))
            clear ho7 hn7 v7
            go_wp2_with (at_builtin
                         refine wpList_append8 rfl (.tmp 64) (.tmp 66) rfl V2.heap.size sp7 n7 c7 (numB i ++ numB t ++ numB mn ++ (listB s.v ++ listB s.l) ++ numB dn) rfl (unhide N7) (by exact unhide O7) h.dp dn h.dc rfl s.d (unhide DL) (by exact unhide HD) (by exact (unhide HS).dz) (by have h1 := unhide L7; omega) (by exact (unhide F).size) ?_
                         intro sp8 n8 c8 V8 hn8 ho8 hg8 v8
                         have EQ8 : numB i ++ numB t ++ numB mn ++ (listB s.v ++ listB s.l) ++ numB dn ++ s.d = snI s := by
                           rw [unhide SI]
                           unfold inB
                           rw [unhide MN, unhide DL]
                           simp only [List.append_assoc]
                         rw [EQ8] at hn8 ho8
                         have F := hide ((unhide F).trans v8)
                         have O8 := hide ho8
                         have N8 := hide (unhide hn8)
                         have FC := hide (refFrame_ok sp8 c8 (snI s) V8 ho8.bytes ho8.nil0 (by have := unhide SL; omega))
                         rw [unhide N8] at FC
                         clear ho8 hn8 v8 hg8 g4 EQ8)
            go_at_call 21
            refine (unhide FC).mono ?_
            rintro e V9 ⟨sp9, c9, rfl, v9, ho9⟩
            have U9 := hide ((unhide U2').trans (((unhide F).trans (v9.mono (unhide F).size)).mono (unhide U2').size))
            have SB := hide (show snB s = frameB (snI s) by unfold snB; rw [if_pos (unhide Z0)])
            have FE := hide (show PutR s w (.returned (.tuple #[.slice sp9 (frameB (snI s)).length c9, .int .i64 0])) V9 from by
              refine ⟨unhide U9, .inr ⟨unhide Z0, sp9, _, c9, rfl, by rw [unhide SB], ?_⟩⟩
              rw [unhide SB]
              exact ho9.mono (Nat.le_trans (unhide U2').size (unhide F).size))
            clear v9 ho9 FC HI SB
            generalize (frameB (snI s)).length = n9 at *
            go_wp2
            go_ret2
            exact unhide FE
          exact AllReadyH.nil
        exact AllReadyH.nil
      exact AllReadyH.nil
end Go.Proofs.YtagncghpfdjkmaaGreatDoor
end
