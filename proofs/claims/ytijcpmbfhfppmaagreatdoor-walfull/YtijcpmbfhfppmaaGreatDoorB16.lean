/- The keys of a map of names, sorted: contracts of the library's functions at this program's numbers. -/
import Derived.Shelf.SlIter.Nil
import Derived.Shelf.SortM.Plain
import Derived.Shelf.SortM.SortNone
import Derived.Ground.GgzProg
import Derived.Ground.SlgmProg
import Derived.Test.YtijcpmbfhfppmaaGreatDoorProg
import Derived.Test.YtijcpmbfhfppmaaGreatDoorB11
import Derived.Lib.AtoiAll
import Derived.Lib.ItoaNum
section
namespace Go.Proofs
open Go.RowKit Go.Maps Go.Sort Go.Shelf
def Tryz.keys108_ren : Go.Shelf.Ren := ⟨fun | 7 => 108 | 10 => 143 | n => n, fun | 23 => 99 | 26 => 9 | 3 => 111 | 28 => 149 | 0 => 0 | 27 => 148 | 33 => 119 | 4 => 4 | n => n, fun | n => n⟩
theorem Tryz.keys108 : Go.Proofs.SlLaysZ.n7 Tryz.prog Tryz.keys108_ren := {
  mixed := by kernel_rfl
  f7 := ⟨Tryz.f108.name, by decide, Tryz.func108.trans (congrArg some (by kernel_rfl))⟩
  f10 := ⟨Tryz.f143.name, by decide, Tryz.func143.trans (congrArg some (by kernel_rfl))⟩
  t0 := Tryz.underlying0
  a0 := Tryz.isAgg0
  z0 := Tryz.sizeOf0
  v0 := Tryz.zeroValue0
  t4 := Tryz.underlying4
  a4 := Tryz.isAgg4
  z4 := Tryz.sizeOf4
  v4 := Tryz.zeroValue4
  t23 := Tryz.underlying99
  a23 := Tryz.isAgg99
  z23 := Tryz.sizeOf99
  v23 := Tryz.zeroValue99
  t26 := Tryz.underlying9
  a26 := Tryz.isAgg9
  z26 := Tryz.sizeOf9
  v26 := Tryz.zeroValue9
  t27 := Tryz.underlying148
  a27 := Tryz.isAgg148
  z27 := Tryz.sizeOf148
  v27 := Tryz.zeroValue148
  t28 := Tryz.underlying149
  a28 := Tryz.isAgg149
  z28 := Tryz.sizeOf149
  v28 := Tryz.zeroValue149
  t33 := Tryz.underlying119
  a33 := Tryz.isAgg119
  z33 := Tryz.sizeOf119
  v33 := Tryz.zeroValue119 }
def Tryz.sorted107_ren : Go.Shelf.Ren := ⟨fun | 6 => 107 | 8 => 141 | 9 => 142 | 11 => 168 | 13 => 170 | 12 => 169 | 23 => 197 | 24 => 198 | 14 => 188 | 15 => 189 | 16 => 190 | 17 => 191 | 18 => 192 | 19 => 193 | 20 => 194 | 21 => 195 | 22 => 196 | 25 => 217 | 26 => 218 | 27 => 219 | 28 => 220 | 29 => 221 | 30 => 222 | 31 => 236 | n => n, fun | 26 => 9 | 28 => 149 | 24 => 74 | 0 => 0 | 3 => 3 | 37 => 199 | 48 => 190 | 50 => 227 | 4 => 4 | 40 => 220 | 39 => 219 | 45 => 37 | 5 => 5 | 9 => 9 | 51 => 244 | 55 => 248 | 57 => 263 | 58 => 264 | 33 => 119 | n => n, fun | n => n⟩
theorem Tryz.sorted107 : Go.Proofs.SlLaysZ.n6 Tryz.prog Tryz.sorted107_ren := {
  mixed := by kernel_rfl
  f6 := ⟨Tryz.f107.name, by decide, Tryz.func107.trans (congrArg some (by kernel_rfl))⟩
  f8 := ⟨Tryz.f141.name, by decide, Tryz.func141.trans (congrArg some (by kernel_rfl))⟩
  f11 := ⟨Tryz.f168.name, by decide, Tryz.func168.trans (congrArg some (by kernel_rfl))⟩
  t0 := Tryz.underlying0
  a0 := Tryz.isAgg0
  z0 := Tryz.sizeOf0
  v0 := Tryz.zeroValue0
  t24 := Tryz.underlying74
  a24 := Tryz.isAgg74
  z24 := Tryz.sizeOf74
  v24 := Tryz.zeroValue74
  t26 := Tryz.underlying9
  a26 := Tryz.isAgg9
  z26 := Tryz.sizeOf9
  v26 := Tryz.zeroValue9
  t28 := Tryz.underlying149
  a28 := Tryz.isAgg149
  z28 := Tryz.sizeOf149
  v28 := Tryz.zeroValue149
  i26 := by kernel_rfl }
def Tryz.sort142_ren : Go.Shelf.Ren := ⟨fun | 6 => 142 | 8 => 170 | 9 => 169 | 19 => 197 | 20 => 198 | 21 => 188 | 22 => 189 | 23 => 190 | 24 => 191 | 25 => 192 | 26 => 193 | 27 => 194 | 28 => 195 | 29 => 196 | 36 => 217 | 31 => 218 | 32 => 219 | 37 => 220 | 38 => 221 | 39 => 222 | 41 => 236 | n => n, fun | 27 => 74 | 29 => 9 | 3 => 3 | 32 => 199 | 26 => 74 | 0 => 0 | 44 => 190 | 46 => 227 | 4 => 4 | 36 => 220 | 35 => 219 | 41 => 37 | 5 => 5 | 9 => 9 | 53 => 244 | 57 => 248 | 63 => 263 | 64 => 264 | n => n, fun | n => n⟩
theorem Tryz.sort142 : Go.Proofs.SlLaysM.n6 Tryz.prog Tryz.sort142_ren := {
  mixed := by kernel_rfl
  f6 := ⟨Tryz.f142.name, by decide, Tryz.func142.trans (congrArg some (by kernel_rfl))⟩
  f8 := Tryz.func170.trans (congrArg some (by kernel_rfl))
  f9 := ⟨Tryz.f169.name, by decide, Tryz.func169.trans (congrArg some (by kernel_rfl))⟩
  f19 := Tryz.func197.trans (congrArg some (by kernel_rfl))
  f20 := Tryz.func198.trans (congrArg some (by kernel_rfl))
  f21 := ⟨Tryz.f188.name, by decide, Tryz.func188.trans (congrArg some (by kernel_rfl))⟩
  f22 := ⟨Tryz.f189.name, by decide, Tryz.func189.trans (congrArg some (by kernel_rfl))⟩
  f23 := ⟨Tryz.f190.name, by decide, Tryz.func190.trans (congrArg some (by kernel_rfl))⟩
  f24 := ⟨Tryz.f191.name, by decide, Tryz.func191.trans (congrArg some (by kernel_rfl))⟩
  f25 := ⟨Tryz.f192.name, by decide, Tryz.func192.trans (congrArg some (by kernel_rfl))⟩
  f26 := ⟨Tryz.f193.name, by decide, Tryz.func193.trans (congrArg some (by kernel_rfl))⟩
  f27 := ⟨Tryz.f194.name, by decide, Tryz.func194.trans (congrArg some (by kernel_rfl))⟩
  f28 := ⟨Tryz.f195.name, by decide, Tryz.func195.trans (congrArg some (by kernel_rfl))⟩
  f29 := ⟨Tryz.f196.name, by decide, Tryz.func196.trans (congrArg some (by kernel_rfl))⟩
  f31 := Tryz.func218.trans (congrArg some (by kernel_rfl))
  f32 := Tryz.func219.trans (congrArg some (by kernel_rfl))
  f36 := ⟨Tryz.f217.name, by decide, Tryz.func217.trans (congrArg some (by kernel_rfl))⟩
  f37 := ⟨Tryz.f220.name, by decide, Tryz.func220.trans (congrArg some (by kernel_rfl))⟩
  f38 := ⟨Tryz.f221.name, by decide, Tryz.func221.trans (congrArg some (by kernel_rfl))⟩
  f39 := ⟨Tryz.f222.name, by decide, Tryz.func222.trans (congrArg some (by kernel_rfl))⟩
  f41 := ⟨Tryz.f236.name, by decide, Tryz.func236.trans (congrArg some (by kernel_rfl))⟩
  t0 := Tryz.underlying0
  a0 := Tryz.isAgg0
  z0 := Tryz.sizeOf0
  v0 := Tryz.zeroValue0
  t3 := Tryz.underlying3
  a3 := Tryz.isAgg3
  z3 := Tryz.sizeOf3
  v3 := Tryz.zeroValue3
  t4 := Tryz.underlying4
  a4 := Tryz.isAgg4
  z4 := Tryz.sizeOf4
  v4 := Tryz.zeroValue4
  t5 := Tryz.underlying5
  a5 := Tryz.isAgg5
  z5 := Tryz.sizeOf5
  v5 := Tryz.zeroValue5
  t9 := Tryz.underlying9
  a9 := Tryz.isAgg9
  z9 := Tryz.sizeOf9
  v9 := Tryz.zeroValue9
  t26 := Tryz.underlying74
  a26 := Tryz.isAgg74
  z26 := Tryz.sizeOf74
  v26 := Tryz.zeroValue74
  t27 := Tryz.underlying74
  a27 := Tryz.isAgg74
  z27 := Tryz.sizeOf74
  v27 := Tryz.zeroValue74
  t29 := Tryz.underlying9
  a29 := Tryz.isAgg9
  z29 := Tryz.sizeOf9
  v29 := Tryz.zeroValue9
  t32 := Tryz.underlying199
  a32 := Tryz.isAgg199
  z32 := Tryz.sizeOf199
  v32 := Tryz.zeroValue199
  t35 := Tryz.underlying219
  a35 := Tryz.isAgg219
  z35 := Tryz.sizeOf219
  v35 := Tryz.zeroValue219
  t36 := Tryz.underlying220
  a36 := Tryz.isAgg220
  z36 := Tryz.sizeOf220
  v36 := Tryz.zeroValue220
  t41 := Tryz.underlying37
  a41 := Tryz.isAgg37
  z41 := Tryz.sizeOf37
  v41 := Tryz.zeroValue37
  t44 := Tryz.underlying190
  a44 := Tryz.isAgg190
  z44 := Tryz.sizeOf190
  v44 := Tryz.zeroValue190
  t46 := Tryz.underlying227
  a46 := Tryz.isAgg227
  z46 := Tryz.sizeOf227
  v46 := Tryz.zeroValue227
  t53 := Tryz.underlying244
  a53 := Tryz.isAgg244
  z53 := Tryz.sizeOf244
  v53 := Tryz.zeroValue244
  t57 := Tryz.underlying248
  a57 := Tryz.isAgg248
  z57 := Tryz.sizeOf248
  v57 := Tryz.zeroValue248
  t63 := Tryz.underlying263
  a63 := Tryz.isAgg263
  z63 := Tryz.sizeOf263
  v63 := Tryz.zeroValue263
  t64 := Tryz.underlying264
  a64 := Tryz.isAgg264
  z64 := Tryz.sizeOf264
  v64 := Tryz.zeroValue264 }

theorem Tryz.sorts107 (m : Nat) : AnyZ.SortsIn Tryz.prog Tryz.sorted107_ren Fence.wide m :=
  ⟨fun blk off cap ss W hH hblk hsz => callsIn_wide.2 (AnyM.slices_Sort_string Tryz.sort142 blk off cap ss W hH hblk hsz),
   fun p cap W => callsIn_wide.2 (AnyM.slices_Sort_string_none Tryz.sort142 p cap W)⟩

theorem Tryz.maps_Keys_108 (mb : Option Nat) (W : World) : CallsIn Fence.wide 5 Tryz.prog 108 #[.map mb] W fun e w' => e = .returned (.func (.func 143) #[] #[.pointer (some ⟨W.heap.size, 0, none⟩)]) ∧ w' = W.alloc (.cells #[.map mb] 99) :=
  AnyZ.keys_in Tryz.keys108 Fence.wide 5 trivial rfl mb W

set_option maxHeartbeats 1000000 in
theorem Tryz.slices_Sorted_keys_107_108 {H : Type} (b nn : Nat) (D0 : DataW H) (R : Value → Option (DataW H × List MemPlace)) (w : World) (hown : w.ownsMap Tryz.prog 9 R b nn D0) (hmax : Maps.size D0 ≤ maxLen) (hbytes : Maps.size D0 * 16 ≤ 140737488355328) :
    CallsIn Fence.wide 5 Tryz.prog 107 #[.func (.func 143) #[] #[.pointer (some ⟨w.heap.size, 0, none⟩)]] (w.alloc (.cells #[.map (some b)] 99)) fun e w' => ∃ (v : Value) (ss : List (List UInt8)), e = .returned v ∧ ss.Perm (strKeys D0) ∧
      w'.ownsRow (w.alloc (.cells #[.map (some b)] 99)).heap.size 9 1 v ss.length ((ss.mergeSort (fun x y => decide (x ≤ y))).map encStr) ∧ (v = .slice none 0 0 ↔ ss = []) ∧ Below (w.alloc (.cells #[.map (some b)] 99)).heap.size (w.alloc (.cells #[.map (some b)] 99)) w' := by
  have hbl := hown.lt
  have hseq : SeqGives Fence.wide 2 Tryz.prog 143 #[.pointer (some ⟨w.heap.size, 0, none⟩)] encStr (fun ss => ss.Perm (strKeys D0)) (Maps.size D0) (w.alloc (.cells #[.map (some b)] 99)) :=
    AnyZ.keys_gives (ρ := Tryz.keys108_ren) { Tryz.keys108 with } Fence.wide _ trivial rfl (by omega) w.heap.size b nn D0 _ (by simp) (by simp) (by
      obtain ⟨es, clock, hb, Ft, hs, hD⟩ := hown
      exact ⟨es, clock, (Below.heap_alloc _ _ b hbl).trans hb, Ft, hs, hD⟩)
  exact AnyZ.sorted_in Tryz.sorted107 Fence.wide 5 trivial trivial trivial trivial rfl (by omega) (Tryz.sorts107 _) (enters_of Tryz.func142 (by kernel_rfl) rfl) 143 #[.pointer (some ⟨w.heap.size, 0, none⟩)] trivial (enters_of Tryz.func143 (by kernel_rfl) rfl) _ _ hmax hbytes _ hseq

set_option maxHeartbeats 1000000 in
theorem Tryz.slices_Sorted_keys_nil_107_108 (w : World) :
    CallsIn Fence.wide 5 Tryz.prog 107 #[.func (.func 143) #[] #[.pointer (some ⟨w.heap.size, 0, none⟩)]] (w.alloc (.cells #[.map none] 99)) fun e w' => ∃ (v : Value) (ss : List (List UInt8)), e = .returned v ∧ ss = [] ∧
      w'.ownsRow (w.alloc (.cells #[.map none] 99)).heap.size 9 1 v ss.length ((ss.mergeSort (fun x y => decide (x ≤ y))).map encStr) ∧ (v = .slice none 0 0 ↔ ss = []) ∧ Below (w.alloc (.cells #[.map none] 99)).heap.size (w.alloc (.cells #[.map none] 99)) w' := by
  have hseq : SeqGives Fence.wide 2 Tryz.prog 143 #[.pointer (some ⟨w.heap.size, 0, none⟩)] encStr (fun ss : List (List UInt8) => ss = []) 0 (w.alloc (.cells #[.map none] 99)) :=
    AnyZ.keys_gives_nil (ρ := Tryz.keys108_ren) { Tryz.keys108 with } Fence.wide _ trivial rfl w.heap.size _ (by simp) (by simp)
  exact AnyZ.sorted_in Tryz.sorted107 Fence.wide 5 trivial trivial trivial trivial rfl (by omega) (Tryz.sorts107 _) (enters_of Tryz.func142 (by kernel_rfl) rfl) 143 #[.pointer (some ⟨w.heap.size, 0, none⟩)] trivial (enters_of Tryz.func143 (by kernel_rfl) rfl) _ 0 (Nat.zero_le _) (by omega) _ hseq



end Go.Proofs
end
/- Disk: each: every file in its name's order. -/
section
namespace Go.Proofs.YtijcpmbfhfppmaaGreatDoor
open Go.ChangeShapes Go.WideShapes Go.ChangeAt Go.RowKit Go.Maps

def str (x : Nm) : ByteArray := ⟨x.toArray⟩
theorem str_list (x : Nm) : (str x).data.toList = x := rfl
theorem str_size (x : Nm) : (str x).size = x.length := rfl
theorem names_shape {w : World} {base n : Nat} {v : Value} {l : List Nm} (h : w.ownsRow base 9 1 v n (l.map encStr)) (hl : l.length = n) :
    ∃ sp c, v = .slice sp n c ∧ ∀ i (hi : i < l.length), ∃ g, sp = some ⟨g, 0, none⟩ ∧ base ≤ g ∧ g < w.heap.size ∧ ∀ w' : World, w'.heap[g]? = w.heap[g]? → w'.cell? ⟨g, i, none⟩ = some (.string (str l[i])) := by
  rcases h.2 with ⟨hv, h0⟩ | ⟨g, cap, cur, hv, hb, hg, hle, hmx, hsz, ht⟩
  · exact ⟨none, 0, by rw [hv, h0], fun i hi => by omega⟩
  · refine ⟨some ⟨g, 0, none⟩, cap, hv, fun i hi => ⟨g, rfl, hb, (Array.getElem?_eq_some_iff.1 hg).1, fun w' hw => ?_⟩⟩
    rw [cell_of_row w' g i cur _ _ (hw.trans hg)]
    have e : (l.map encStr)[i]? = some (.string (str l[i])) := by rw [List.getElem?_map, List.getElem?_eq_getElem hi]; rfl
    rw [← ht, List.getElem?_take, if_pos (by omega)] at e
    rw [← Array.getElem?_toList, e]
theorem DiskAt.c1 {base d M room N : Nat} {w : World} {fs : List Fe} (h : DiskAt base w d M room N fs) : w.cell? ⟨d, 1, none⟩ = some (.map (some M)) := fcell h.box 1 _ rfl
theorem DiskAt.c0 {base d M room N : Nat} {w : World} {fs : List Fe} (h : DiskAt base w d M room N fs) : w.cell? ⟨d, 0, none⟩ = some (.int .i64 (room : Int)) := fcell h.box 0 _ rfl
set_option maxRecDepth 20000 in
set_option maxHeartbeats 40000000 in
theorem each_calls (base d M room N : Nat) (w : World) (fs : List Fe) (h : DiskAt base w d M room N fs) (K : Nat) (caps : Array Value) (hK : ∀ (c : Array Value) (w : World), (callFunc K c).run Tryz.prog w = .ok (.enter K c) w) (Post : World → Prop)
    (hv : ∀ W0, Below w.heap.size w W0 → ∃ I : Nat → World → Prop, I 0 W0 ∧ (∀ i w1, I i w1 → ∀ g, w.heap.size ≤ g → g < W0.heap.size → w1.heap[g]? = W0.heap[g]?) ∧
      (∀ i (hi : i < fs.length) w1, I i w1 → w1.cell? ⟨d, 1, none⟩ = some (.map (some M)) ∧ (Instr.lookup 99 (.map (some M)) (.string (str fs[i].1)) false).run Tryz.prog w1 = .ok (.pointer (some ⟨fs[i].2.1, 0, none⟩)) w1 ∧
        Calls Tryz.prog K (#[.string (str fs[i].1), .pointer (some ⟨fs[i].2.1, 0, none⟩)] ++ caps) w1 fun e w2 => e = .returned (.tuple #[]) ∧ I (i + 1) w2) ∧
      (∀ w1, I fs.length w1 → Post w1)) :
    Calls Tryz.prog 72 #[.pointer (some ⟨d, 0, none⟩), .func (.func K) #[] caps] w fun e w' => e = .returned (.tuple #[]) ∧ Post w' := by
  obtain ⟨D, hD, hDs, hDk⟩ := h.map.keys (h.rise.map _)
  have hfl : (ptrs fs).length = fs.length := by simp [ptrs]
  have hf16 := h.few
  have c1 := h.c1
  have CK := hide (callsIn_wide.1 (Tryz.maps_Keys_108 (some M) w))
  have CS := hide (callsIn_wide.1 (Tryz.slices_Sorted_keys_107_108 M _ D fileElem w hD (by rw [hDs, hfl]; simp only [maxLen]; omega) (by rw [hDs, hfl]; omega)))
  have HN := hide (fun ss (hp : List.Perm ss (strKeys D)) => show (ss.mergeSort (fun x y => decide (x ≤ y))) = fs.map (·.1) by rw [hDk ss hp]; simp [ptrs])
  have HV := hide hv
  have b0 : Below w.heap.size w (w.alloc (.cells #[.map (some M)] 99)) := (Below.refl _ _).alloc (Nat.le_refl _) _
  have B0 := hide b0
  clear h hv hD hDs hDk b0 hfl
  go_enter Tryz.func72, Tryz.ntmps72
  go_wp2_with (first
    | (go_at_call 108; refine (unhide CK).mono ?_; rintro e w' ⟨rfl, rfl⟩)
    | (go_at_call 107; refine (unhide CS).mono ?_; rintro e W0 ⟨v, ss, rfl, hp, hrow, hnil, hb⟩; rw [unhide HN ss hp] at hrow; have hlen : ss.length = fs.length := (by have := congrArg List.length (unhide HN ss hp); rw [List.length_mergeSort, List.length_map] at this; exact this); rw [hlen] at hrow; obtain ⟨sp, cap, rfl, hcell⟩ := names_shape hrow (by simp); obtain ⟨I, hI0, hIk, hIs, hIe⟩ := unhide HV W0 ((unhide B0).trans (hb.mono (unhide B0).size)); have HC := hide hcell; have H0 := hide hI0; have HIK := hide hIk; have HIS := hide hIs; have HIE := hide hIe; have HS := hide (show w.heap.size ≤ (w.alloc (.cells #[.map (some M)] 99)).heap.size from (unhide B0).size); clear hp hrow hnil hb hlen hcell hI0 hIk hIs hIe))
  have hlm : (fs.map (·.1)).length = fs.length := by simp
  go_loopw [13] (fun i wr => ∃ j : Nat, j ≤ fs.length ∧ i = .int .i64 (j : Int) ∧ Hid (I j wr)) (fun i _ => fs.length - (intOf i).toNat)
  case atStart => exact ⟨0, by omega, rfl, H0⟩
  case round =>
    obtain ⟨j, hj, rfl, HI⟩ := hrel
    by_cases hjn : j < fs.length
    · have hj0 : (0 : Int) ≤ (j : Int) := by omega
      have hj1 : (j : Int) < (fs.length : Int) := by omega
      obtain ⟨g, rfl, hg1, hg2, hgc⟩ := unhide HC j (by rw [hlm]; exact hjn)
      have p0 := hgc wr (unhide HIK j wr (unhide HI) g (Nat.le_trans (unhide HS) hg1) hg2)
      rw [List.getElem_map] at p0
      obtain ⟨q1, q2, q3⟩ := unhide HIS j hjn wr (unhide HI)
      generalize str fs[j].1 = nm at *
      generalize fs[j].2.1 = F at *
      have Q3 := hide q3
      clear q3 hgc
      go_wp2_with fail
      refine (unhide Q3).mono ?_
      rintro e w2 ⟨rfl, hI2⟩
      have HI2 := hide hI2
      clear hI2
      go_wp2
      exact ⟨⟨j + 1, by omega, by go_num, unhide HI2⟩, by simp [intOf]; omega⟩
    · have hj2 : ¬ ((j : Int) < (fs.length : Int)) := by omega
      obtain rfl : j = fs.length := by omega
      go_wp2
      go_end0
      exact ⟨rfl, unhide HIE _ (unhide HI)⟩
end Go.Proofs.YtijcpmbfhfppmaaGreatDoor
end
/- Disk: by the document; find, Sync, Cut, Remove, Rename, Read, Sure. -/
section
namespace Go.Proofs.YtijcpmbfhfppmaaGreatDoor
open Go.ChangeShapes Go.WideShapes Go.ChangeAt Go.RowKit Go.Maps

section
variable {α β : Type}
def getS (k : Nm) (l : List (Nm × α)) : Option α := (l.find? (fun x => decide (x.1 = k))).map (·.2)
theorem getS_some {k : Nm} {l : List (Nm × α)} {v : α} (h : getS k l = some v) : (k, v) ∈ l := by
  unfold getS at h
  rw [Option.map_eq_some_iff] at h
  obtain ⟨x, hx, rfl⟩ := h
  have h1 := List.find?_some hx
  have h2 := List.mem_of_find?_eq_some hx
  simp only [decide_eq_true_eq] at h1
  rw [← h1]; exact h2
theorem getS_none {k : Nm} {l : List (Nm × α)} : getS k l = none ↔ k ∉ l.map (·.1) := by
  unfold getS
  rw [Option.map_eq_none_iff, List.find?_eq_none]
  simp only [List.mem_map, decide_eq_true_eq]
  constructor
  · rintro h ⟨x, hx, rfl⟩; exact h x hx rfl
  · intro h x hx e; exact h ⟨x, hx, e⟩
theorem getS_mem {k : Nm} {l : List (Nm × α)} {v : α} (hr : Rises l) (h : (k, v) ∈ l) : getS k l = some v := by
  cases e : getS k l with
  | none => exact absurd (List.mem_map.2 ⟨_, h, rfl⟩) (getS_none.1 e)
  | some u => rw [show u = v by have := hr.one (getS_some e) h rfl; simpa using this]
theorem getS_map (g : α → β) (k : Nm) (l : List (Nm × α)) : getS k (l.map (fun x => (x.1, g x.2))) = (getS k l).map g := by
  unfold getS
  rw [List.find?_map]
  simp only [Option.map_map, Function.comp_def]
theorem getS_put {k : Nm} {v : α} {l : List (Nm × α)} (hr : Rises l) (j : Nm) : getS j (putF k v l) = if j = k then some v else getS j l := by
  by_cases e : j = k
  · subst e
    rw [if_pos rfl]
    exact getS_mem (hr.put _ _) ((mem_putF hr _).2 (.inl rfl))
  · rw [if_neg e]
    cases h : getS j l with
    | some u => exact getS_mem (hr.put _ _) ((mem_putF hr _).2 (.inr ⟨getS_some h, e⟩))
    | none =>
      rw [getS_none] at h ⊢
      intro hm
      obtain ⟨x, hx, ex⟩ := List.mem_map.1 hm
      rcases (mem_putF hr x).1 hx with rfl | ⟨hx, _⟩
      · exact e ex.symm
      · exact h (List.mem_map.2 ⟨x, hx, ex⟩)
end
abbrev Ds := List (Nm × Sp)
def sp0 : Sp := ⟨false, [], []⟩
def nameL (k : Nm) : Bool := decide (1 ≤ k.length) && (decide (k.length ≤ 64) && k.all (fun b => stands b.toNat))
theorem nameOk_list (s : ByteArray) : nameOk s = nameL s.data.toList := by
  unfold nameOk nameL
  rw [Array.length_toList]; rfl
def usedS (ss : Ds) : Nat := (ss.map (fun x => x.2.now.length)).sum
def dSync (k : Nm) (ss : Ds) : Nat × Ds := match getS k ss with
  | none => (8, ss)
  | some s => (0, putF k ⟨true, s.now, []⟩ ss)
def dCut (k : Nm) (z : Int) (ss : Ds) : Nat × Ds := match getS k ss with
  | none => (8, ss)
  | some s => if z < 0 ∨ z > s.now.length then (2, ss) else (0, putF k ⟨s.la, s.y, s.cs ++ [(true, z.toNat, [])]⟩ ss)
def dRemove (k : Nm) (ss : Ds) : Nat × Ds := match getS k ss with
  | none => (8, ss)
  | some _ => (0, delF k ss)
def dRename (a b : Nm) (ss : Ds) : Nat × Ds := match getS a ss with
  | none => (8, ss)
  | some s => if nameL b then (0, putF b s (delF a ss)) else (14, ss)
def wrote (s : Sp) (z : Nat) (o : List Nat) : Sp := if o.length = 0 then s else ⟨s.la, s.y, s.cs ++ [(false, z, o)]⟩
def dWrite (room : Nat) (k : Nm) (z : Int) (o : List Nat) (ss : Ds) : Nat × Ds :=
  if nameL k = false then (14, ss) else
  if z < 0 ∨ z > ((getS k ss).getD sp0).now.length then (2, ss) else
  if ((getS k ss).isNone = true ∧ 16 ≤ ss.length) ∨ (o.length : Int) > 262144 - z then (6, ss) else
  if (usedS ss : Int) + max (z + o.length - ((getS k ss).getD sp0).now.length) 0 > room then (9, ss) else
  (0, putF k (wrote ((getS k ss).getD sp0) z.toNat o) ss)
/-- How a call on a disk ends: the error, the files by the document. -/
def DEnd (base d M room N : Nat) (w : World) (fs : List Fe) (r : Nat × Ds) (e : Ending) (w' : World) : Prop :=
  e = .returned (.int .i64 (r.1 : Int)) ∧ ∃ fs', DiskAt base w' d M room N fs' ∧ DGrew d M w fs w' fs' ∧ sps fs' = r.2
section
variable {base d M room N : Nat} {w w' : World} {fs fs' : List Fe}
theorem DiskAt.riseS (h : DiskAt base w d M room N fs) : Rises (sps fs) := h.rise.map (fun x : Nat × Fil => x.2.sp)
theorem sps_get (k : Nm) (fs : List Fe) : getS k (sps fs) = (getS k fs).map (fun x => x.2.sp) := getS_map (fun x : Nat × Fil => x.2.sp) k fs
theorem sps_put (k : Nm) (F : Nat) (f : Fil) (fs : List Fe) : sps (putF k (F, f) fs) = putF k f.sp (sps fs) := putF_map (fun x : Nat × Fil => x.2.sp) k (F, f) fs
theorem sps_del (k : Nm) (fs : List Fe) : sps (delF k fs) = delF k (sps fs) := delF_map (fun x : Nat × Fil => x.2.sp) k fs
theorem ptrs_put (k : Nm) (F : Nat) (f : Fil) (fs : List Fe) : ptrs (putF k (F, f) fs) = putF k F (ptrs fs) := putF_map (fun x : Nat × Fil => x.1) k (F, f) fs
theorem ptrs_del (k : Nm) (fs : List Fe) : ptrs (delF k fs) = delF k (ptrs fs) := delF_map (fun x : Nat × Fil => x.1) k fs
theorem DiskAt.nows (h : DiskAt base w d M room N fs) {x : Fe} (hx : x ∈ fs) : x.2.2.sp.now = x.2.2.b := ((h.ok x hx).now).symm
theorem DEnd.stay {r : Nat × Ds} {e : Ending} (h : DiskAt base w d M room N fs) (he : e = .returned (.int .i64 (r.1 : Int))) (hr : r.2 = sps fs) : DEnd base d M room N w fs r e w := ⟨he, fs, h, DGrew.refl, hr.symm⟩
theorem DEnd.below {r : Nat × Ds} {e : Ending} (h : DiskAt base w d M room N fs) (he : e = .returned (.int .i64 (r.1 : Int))) (hr : r.2 = sps fs) (hb : Below w.heap.size w w') : DEnd base d M room N w fs r e w' := ⟨he, fs, h.later hb, DGrew.ofBelow hb, hr.symm⟩
theorem find_yes (h : DiskAt base w d M room N fs) (s : ByteArray) (hs : s.size ≤ maxLen) (F : Nat) (f : Fil) (hx : getS s.data.toList fs = some (F, f)) :
    Calls Tryz.prog 76 #[.pointer (some ⟨d, 0, none⟩), .string s] w fun e w' => e = .returned (.tuple #[.pointer (some ⟨F, 0, none⟩), .int .i64 0]) ∧ w' = w := by
  have c1 := h.c1
  have l1 := (h.map.look_yes s hs F (List.mem_map.2 ⟨_, getS_some hx, rfl⟩)).1
  clear h hx
  go_enter Tryz.func76, Tryz.ntmps76
  go_wp2
  go_ret2
  exact ⟨rfl, rfl⟩
theorem find_no (h : DiskAt base w d M room N fs) (s : ByteArray) (hs : s.size ≤ maxLen) (hx : getS s.data.toList fs = none) :
    Calls Tryz.prog 76 #[.pointer (some ⟨d, 0, none⟩), .string s] w fun e w' => e = .returned (.tuple #[.pointer none, .int .i64 8]) ∧ w' = w := by
  have c1 := h.c1
  have l1 := h.map.look_no s hs (by rw [ptrs, List.map_map]; exact getS_none.1 hx)
  clear h hx
  go_enter Tryz.func76, Tryz.ntmps76
  go_wp2
  go_ret2
  exact ⟨rfl, rfl⟩
theorem dsync_calls (h : DiskAt base w d M room N fs) (hbs : base ≤ w.heap.size) (s : ByteArray) (hs : s.size ≤ maxLen) :
    Calls Tryz.prog 37 #[.pointer (some ⟨d, 0, none⟩), .string s] w (DEnd base d M room N w fs (dSync s.data.toList (sps fs))) := by
  have HS := hide (sps_get s.data.toList fs)
  cases hg : getS s.data.toList fs with
  | none =>
    have F1 := hide (find_no h s hs hg)
    have E1 := hide (DEnd.stay (w := w) (r := dSync s.data.toList (sps fs)) (e := .returned (.int .i64 8)) h (by simp [dSync, unhide HS, hg]) (by simp [dSync, unhide HS, hg]))
    clear h hbs hg HS
    go_enter Tryz.func37, Tryz.ntmps37
    go_wp2_with (go_at_call 76; refine (unhide F1).mono ?_; rintro e w' ⟨rfl, rfl⟩)
    go_ret
    exact unhide E1
  | some x =>
    obtain ⟨F, f⟩ := x
    have hm := getS_some hg
    have F1 := hide (find_yes h s hs F f hg)
    have S1 := hide (sync_calls base w F f (h.file _ hm) (by have := (h.ok _ hm).b8; simp only at this; omega) hbs)
    have E1 := hide (show ∀ w' yp, FileAt base w' F (f.synced yp) → FGrew F w f w' (f.synced yp) → DEnd base d M room N w fs (dSync s.data.toList (sps fs)) (.returned (.int .i64 0)) w' from fun w' yp hf hg' => by
      obtain ⟨k1, k2⟩ := h.upd (w' := w') hm hf hg' ((h.ok _ hm).synced yp) (Nat.le_refl _)
      have hn : f.sp.now = f.b := h.nows hm
      refine ⟨by simp [dSync, unhide HS, hg], _, k1, k2, ?_⟩
      rw [sps_put]
      simp only [dSync, unhide HS, hg, Option.map_some, hn]
      rfl)
    clear h hbs hg HS hm
    go_enter Tryz.func37, Tryz.ntmps37
    go_wp2_with (first
      | (go_at_call 76; refine (unhide F1).mono ?_; rintro e w' ⟨rfl, rfl⟩)
      | (go_at_call 81; refine (unhide S1).mono ?_; rintro e W ⟨rfl, yp, hf, hg⟩; have E2 := hide (unhide E1 W yp hf hg); clear hf hg))
    go_ret
    exact unhide E2
theorem dremove_calls (h : DiskAt base w d M room N fs) (s : ByteArray) (hs : s.size ≤ maxLen) :
    Calls Tryz.prog 97 #[.pointer (some ⟨d, 0, none⟩), .string s] w (DEnd base d M room N w fs (dRemove s.data.toList (sps fs))) := by
  have HS := hide (sps_get s.data.toList fs)
  cases hg : getS s.data.toList fs with
  | none =>
    have F1 := hide (find_no h s hs hg)
    have E1 := hide (DEnd.stay (w := w) (r := dRemove s.data.toList (sps fs)) (e := .returned (.int .i64 8)) h (by simp [dRemove, unhide HS, hg]) (by simp [dRemove, unhide HS, hg]))
    clear h hg HS
    go_enter Tryz.func97, Tryz.ntmps97
    go_wp2_with (go_at_call 76; refine (unhide F1).mono ?_; rintro e w' ⟨rfl, rfl⟩)
    go_ret
    exact unhide E1
  | some x =>
    obtain ⟨F, f⟩ := x
    have F1 := hide (find_yes h s hs F f hg)
    have c1 := h.c1
    obtain ⟨W, hd, hm, hgr, hsz⟩ := h.map.drop (h.rise.map (fun x : Nat × Fil => x.1)) s hs 0
    have hd' : ∀ ty, (Builtin.delete_ #[99, 9] ty #[.map (some M), .string s]).run Tryz.prog w = .ok (.tuple #[]) W := fun ty => hd
    have E1 := hide (show DEnd base d M room N w fs (dRemove s.data.toList (sps fs)) (.returned (.int .i64 0)) W by
      have hinj : ∀ y ∈ delF s.data.toList fs, ∀ z ∈ delF s.data.toList fs, y.1 ≠ z.1 → ∀ a ∈ fs, ∀ b ∈ fs, y.2 = a.2 → z.2 = b.2 → a.1 ≠ b.1 := by
        intro y hy z hz hne a ha b hb ea eb e
        have hy' := ((mem_delF y).1 hy).1
        have hz' := ((mem_delF z).1 hz).1
        have := h.rise.one ha hb e
        subst this
        have h1 : y.2.1 = z.2.1 := by rw [ea, eb]
        exact h.ap y hy' z hz' hne y.2.1 (.inl rfl) (by rw [h1]; exact .inl rfl)
      obtain ⟨k1, k2⟩ := h.remap (fs' := delF s.data.toList fs) hgr (by rw [ptrs_del]; exact hm) (h.rise.del _) (fun y hy => ⟨h.names y ((mem_delF y).1 hy).1, y, ((mem_delF y).1 hy).1, rfl⟩) hinj (Nat.le_trans (List.length_filter_le _ _) h.few)
      refine ⟨by simp [dRemove, unhide HS, hg], _, k1, k2, ?_⟩
      simp only [dRemove, unhide HS, hg, Option.map_some]
      exact sps_del _ _)
    clear h hg HS hgr hm hd hsz
    go_enter Tryz.func97, Tryz.ntmps97
    go_wp2_with (go_at_call 76; refine (unhide F1).mono ?_; rintro e w' ⟨rfl, rfl⟩)
    go_ret
    exact unhide E1
end
end Go.Proofs.YtijcpmbfhfppmaaGreatDoor
end
/- Logs: names of files and their numbers. -/
section
namespace Go.Proofs.YtijcpmbfhfppmaaGreatDoor
open Go.ChangeShapes Go.WideShapes Go.ChangeAt Go.RowKit
set_option linter.unusedVariables false

theorem u8_digit (d : Nat) (h : d < 10) : (UInt8.ofNat (48 + d)).toNat = 48 + d := by
  simp
  omega
theorem parse_snoc : ∀ (l : List UInt8) (acc u d : Nat), Lib.parseUint10 acc l = .ok u → d < 10 → u * 10 + d < 1000000000000000000 → Lib.parseUint10 acc (l ++ [UInt8.ofNat (48 + d)]) = .ok (u * 10 + d)
  | [], acc, u, d, h, hd, hb => by
    simp only [Lib.parseUint10, Lib.NumEnd.ok.injEq] at h
    subst h
    rw [List.nil_append]
    simp only [Lib.parseUint10, u8_digit d hd]
    rw [if_pos (by omega), if_neg (by omega), if_neg (by omega), show 48 + d - 48 = d by omega]
  | c :: r, acc, u, d, h, hd, hb => by
    rw [List.cons_append]
    simp only [Lib.parseUint10] at h ⊢
    split at h
    · rename_i hc
      split at h
      · cases h
      · rename_i h1
        split at h
        · cases h
        · rename_i h2
          rw [if_pos hc, if_neg h1, if_neg h2]
          exact parse_snoc r _ u d h hd hb
    · cases h
theorem dec_small {u : Nat} (h : u < 10) : Lib.decDigits u = [UInt8.ofNat (48 + u)] := by rw [Lib.decDigits, dif_pos h]
theorem dec_big {u : Nat} (h : ¬ u < 10) : Lib.decDigits u = Lib.decDigits (u / 10) ++ [UInt8.ofNat (48 + u % 10)] := by rw [Lib.decDigits, dif_neg h]
theorem parse_dec (n : Nat) : n < 1000000000000000000 → Lib.parseUint10 0 (Lib.decDigits n) = .ok n := by
  induction n using Nat.strongRecOn with
  | ind n ih =>
    intro hn
    by_cases h : n < 10
    · rw [dec_small h]
      have := parse_snoc [] 0 0 n rfl h (by omega)
      rw [Nat.zero_mul, Nat.zero_add, List.nil_append] at this
      exact this
    · rw [dec_big h]
      have := parse_snoc _ 0 (n / 10) (n % 10) (ih (n / 10) (by omega) (by omega)) (by omega) (by omega)
      rw [this]
      congr 1
      omega
theorem dec_digits (n : Nat) : ∀ c ∈ Lib.decDigits n, 48 ≤ c.toNat ∧ c.toNat ≤ 57 := by
  induction n using Nat.strongRecOn with
  | ind n ih =>
    by_cases h : n < 10
    · rw [dec_small h]
      intro c hc
      rw [List.mem_singleton] at hc
      subst hc
      rw [u8_digit n h]
      omega
    · rw [dec_big h]
      intro c hc
      rcases List.mem_append.1 hc with hc | hc
      · exact ih (n / 10) (by omega) c hc
      · rw [List.mem_singleton] at hc
        subst hc
        rw [u8_digit _ (by omega)]
        omega
theorem dec_ne (n : Nat) : Lib.decDigits n ≠ [] := by
  by_cases h : n < 10
  · rw [dec_small h]; simp
  · rw [dec_big h]; simp
theorem dec_len : ∀ (k n : Nat), n < 10 ^ (k + 1) → (Lib.decDigits n).length ≤ k + 1
  | 0, n, h => by rw [dec_small (by simpa using h)]; simp
  | k + 1, n, h => by
    by_cases h10 : n < 10
    · rw [dec_small h10]; simp
    · rw [dec_big h10, List.length_append]
      have := dec_len k (n / 10) (by rw [Nat.pow_succ] at h; omega)
      simp only [List.length_cons, List.length_nil]
      omega
theorem atoi_dec (n : Nat) (hn : n < 1000000000000000000) : Lib.atoiAll (Lib.decDigits n) = .ok (n : Int) := by
  have hd := dec_digits n
  have hp := parse_dec n hn
  cases hl : Lib.decDigits n with
  | nil => exact absurd hl (dec_ne n)
  | cons c r =>
    rw [hl] at hd hp
    have hc := hd c (by simp)
    unfold Lib.atoiAll
    dsimp only
    rw [if_neg (by omega)]
    unfold Lib.parseMag
    rw [if_neg (by simp), hp]
    dsimp only
    rw [if_neg (by omega), if_neg (by omega), if_neg (by omega)]
/-- The name of a log's file. -/
def walW : Nm := [119, 97, 108, 45]
def tmpW : Nm := [119, 97, 108, 46, 116, 109, 112]
def walNm (n : Nat) : Nm := walW ++ Lib.decDigits n
/-- The number of a log's file; 0, if the name is none of one. -/
def numW (s : Nm) : Nat := if Lib.hasPrefix s walW = true then (match Lib.atoiAll (Lib.trimPrefix s walW) with
  | .ok v => if 1 ≤ v ∧ v ≤ 1099511627776 ∧ walNm v.toNat = s then v.toNat else 0
  | _ => 0) else 0
theorem pre_wal (l : Nm) : Lib.hasPrefix (walW ++ l) walW = true := by
  unfold Lib.hasPrefix
  exact List.isPrefixOf_iff_prefix.2 (List.prefix_append _ _)
theorem trim_wal (l : Nm) : Lib.trimPrefix (walW ++ l) walW = l := by
  unfold Lib.trimPrefix
  rw [if_pos (pre_wal l), List.drop_left]
theorem numW_walNm (n : Nat) (h1 : 1 ≤ n) (h2 : n ≤ 1099511627776) : numW (walNm n) = n := by
  unfold numW walNm
  rw [if_pos (pre_wal _), trim_wal, atoi_dec n (by omega)]
  dsimp only
  rw [if_pos ⟨by omega, by omega, by rw [Int.toNat_natCast]⟩, Int.toNat_natCast]
theorem numW_is {s : Nm} {n : Nat} (h : numW s = n) (hn : 0 < n) : s = walNm n ∧ n ≤ 1099511627776 := by
  unfold numW at h
  split at h
  · split at h
    · split at h
      · rename_i v _ hc
        obtain ⟨h1, h2, h3⟩ := hc
        subst h
        exact ⟨h3.symm, by omega⟩
      · omega
    · omega
  · omega
theorem walNm_inj {a b : Nat} (ha : a < 1000000000000000000) (hb : b < 1000000000000000000) (h : walNm a = walNm b) : a = b := by
  have h1 := List.append_cancel_left h
  have h2 := atoi_dec a ha
  rw [h1, atoi_dec b hb] at h2
  have := Lib.NumEnd.ok.inj h2
  omega
theorem walNm_len (n : Nat) (hn : n < 10000000000000) : (walNm n).length ≤ 17 := by
  unfold walNm
  rw [List.length_append]
  have := dec_len 12 n hn
  simp only [walW, List.length_cons, List.length_nil]
  omega
theorem walNm_ok (n : Nat) (hn : n < 10000000000000) : nameL (walNm n) = true := by
  have hl := walNm_len n hn
  unfold nameL
  rw [decide_eq_true (by unfold walNm walW; simp), decide_eq_true (by omega), Bool.true_and, Bool.true_and, List.all_eq_true]
  intro c hc
  rcases List.mem_append.1 hc with hc | hc
  · have hw : ∀ c ∈ walW, stands c.toNat = true := by decide
    exact hw c hc
  · have := dec_digits n c hc
    unfold stands
    rw [decide_eq_true this.1, decide_eq_true this.2]
    simp
theorem tmp_ne (n : Nat) : walNm n ≠ tmpW := by
  intro h
  have := congrArg (fun l => l.drop 3) h
  simp [walNm, walW, tmpW] at this
theorem tmp_num : numW tmpW = 0 := by decide +kernel
end Go.Proofs.YtijcpmbfhfppmaaGreatDoor
end
