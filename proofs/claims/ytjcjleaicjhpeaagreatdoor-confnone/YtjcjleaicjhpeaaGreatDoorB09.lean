/- The keys of a map of names, sorted: contracts of the library's functions at this program's numbers. -/
import Derived.Shelf.SlIter.Nil
import Derived.Shelf.SortM.Plain
import Derived.Shelf.SortM.SortNone
import Derived.Ground.GgzProg
import Derived.Ground.SlgmProg
import Derived.Test.YtjcjleaicjhpeaaGreatDoorProg
import Derived.Test.YtjcjleaicjhpeaaGreatDoorB08
import Derived.Laws.BitsAllLaws
import Derived.Test.YtjcjleaicjhpeaaGreatDoorB01
import Derived.Laws.Bits128
import Derived.Deep.RegionHeld3
import Derived.Test.YtjcjleaicjhpeaaGreatDoorB07
import Derived.Test.YtjcjleaicjhpeaaGreatDoorB02
section
namespace Go.Proofs
open Go.RowKit Go.Maps Go.Sort Go.Shelf
def Tryz.keys42_ren : Go.Shelf.Ren := ⟨fun | 7 => 42 | 10 => 84 | n => n, fun | 23 => 75 | 26 => 9 | 3 => 54 | 28 => 83 | 0 => 0 | 27 => 82 | 33 => 58 | 4 => 4 | n => n, fun | n => n⟩
theorem Tryz.keys42 : Go.Proofs.SlLaysZ.n7 Tryz.prog Tryz.keys42_ren := {
  mixed := by kernel_rfl
  f7 := ⟨Tryz.f42.name, by decide, Tryz.func42.trans (congrArg some (by kernel_rfl))⟩
  f10 := ⟨Tryz.f84.name, by decide, Tryz.func84.trans (congrArg some (by kernel_rfl))⟩
  t0 := Tryz.underlying0
  a0 := Tryz.isAgg0
  z0 := Tryz.sizeOf0
  v0 := Tryz.zeroValue0
  t4 := Tryz.underlying4
  a4 := Tryz.isAgg4
  z4 := Tryz.sizeOf4
  v4 := Tryz.zeroValue4
  t23 := Tryz.underlying75
  a23 := Tryz.isAgg75
  z23 := Tryz.sizeOf75
  v23 := Tryz.zeroValue75
  t26 := Tryz.underlying9
  a26 := Tryz.isAgg9
  z26 := Tryz.sizeOf9
  v26 := Tryz.zeroValue9
  t27 := Tryz.underlying82
  a27 := Tryz.isAgg82
  z27 := Tryz.sizeOf82
  v27 := Tryz.zeroValue82
  t28 := Tryz.underlying83
  a28 := Tryz.isAgg83
  z28 := Tryz.sizeOf83
  v28 := Tryz.zeroValue83
  t33 := Tryz.underlying58
  a33 := Tryz.isAgg58
  z33 := Tryz.sizeOf58
  v33 := Tryz.zeroValue58 }
def Tryz.sorted41_ren : Go.Shelf.Ren := ⟨fun | 6 => 41 | 8 => 82 | 9 => 83 | 11 => 142 | 13 => 144 | 12 => 143 | 23 => 178 | 24 => 179 | 14 => 169 | 15 => 170 | 16 => 171 | 17 => 172 | 18 => 173 | 19 => 174 | 20 => 175 | 21 => 176 | 22 => 177 | 25 => 204 | 26 => 205 | 27 => 206 | 28 => 207 | 29 => 208 | 30 => 147 | 31 => 219 | n => n, fun | 26 => 9 | 28 => 83 | 24 => 80 | 0 => 0 | 3 => 3 | 37 => 191 | 48 => 218 | 50 => 143 | 4 => 4 | 40 => 210 | 39 => 209 | 45 => 215 | 5 => 5 | 9 => 9 | 51 => 237 | 55 => 241 | 57 => 251 | 58 => 252 | 33 => 58 | n => n, fun | n => n⟩
theorem Tryz.sorted41 : Go.Proofs.SlLaysZ.n6 Tryz.prog Tryz.sorted41_ren := {
  mixed := by kernel_rfl
  f6 := ⟨Tryz.f41.name, by decide, Tryz.func41.trans (congrArg some (by kernel_rfl))⟩
  f8 := ⟨Tryz.f82.name, by decide, Tryz.func82.trans (congrArg some (by kernel_rfl))⟩
  f11 := ⟨Tryz.f142.name, by decide, Tryz.func142.trans (congrArg some (by kernel_rfl))⟩
  t0 := Tryz.underlying0
  a0 := Tryz.isAgg0
  z0 := Tryz.sizeOf0
  v0 := Tryz.zeroValue0
  t24 := Tryz.underlying80
  a24 := Tryz.isAgg80
  z24 := Tryz.sizeOf80
  v24 := Tryz.zeroValue80
  t26 := Tryz.underlying9
  a26 := Tryz.isAgg9
  z26 := Tryz.sizeOf9
  v26 := Tryz.zeroValue9
  t28 := Tryz.underlying83
  a28 := Tryz.isAgg83
  z28 := Tryz.sizeOf83
  v28 := Tryz.zeroValue83
  i26 := by kernel_rfl }
def Tryz.sort83_ren : Go.Shelf.Ren := ⟨fun | 6 => 83 | 8 => 144 | 9 => 143 | 19 => 178 | 20 => 179 | 21 => 169 | 22 => 170 | 23 => 171 | 24 => 172 | 25 => 173 | 26 => 174 | 27 => 175 | 28 => 176 | 29 => 177 | 36 => 204 | 31 => 205 | 32 => 206 | 37 => 207 | 38 => 208 | 39 => 147 | 41 => 219 | n => n, fun | 27 => 80 | 29 => 9 | 3 => 3 | 32 => 191 | 26 => 80 | 0 => 0 | 44 => 218 | 46 => 143 | 4 => 4 | 36 => 210 | 35 => 209 | 41 => 215 | 5 => 5 | 9 => 9 | 53 => 237 | 57 => 241 | 63 => 251 | 64 => 252 | n => n, fun | n => n⟩
theorem Tryz.sort83 : Go.Proofs.SlLaysM.n6 Tryz.prog Tryz.sort83_ren := {
  mixed := by kernel_rfl
  f6 := ⟨Tryz.f83.name, by decide, Tryz.func83.trans (congrArg some (by kernel_rfl))⟩
  f8 := Tryz.func144.trans (congrArg some (by kernel_rfl))
  f9 := ⟨Tryz.f143.name, by decide, Tryz.func143.trans (congrArg some (by kernel_rfl))⟩
  f19 := Tryz.func178.trans (congrArg some (by kernel_rfl))
  f20 := Tryz.func179.trans (congrArg some (by kernel_rfl))
  f21 := ⟨Tryz.f169.name, by decide, Tryz.func169.trans (congrArg some (by kernel_rfl))⟩
  f22 := ⟨Tryz.f170.name, by decide, Tryz.func170.trans (congrArg some (by kernel_rfl))⟩
  f23 := ⟨Tryz.f171.name, by decide, Tryz.func171.trans (congrArg some (by kernel_rfl))⟩
  f24 := ⟨Tryz.f172.name, by decide, Tryz.func172.trans (congrArg some (by kernel_rfl))⟩
  f25 := ⟨Tryz.f173.name, by decide, Tryz.func173.trans (congrArg some (by kernel_rfl))⟩
  f26 := ⟨Tryz.f174.name, by decide, Tryz.func174.trans (congrArg some (by kernel_rfl))⟩
  f27 := ⟨Tryz.f175.name, by decide, Tryz.func175.trans (congrArg some (by kernel_rfl))⟩
  f28 := ⟨Tryz.f176.name, by decide, Tryz.func176.trans (congrArg some (by kernel_rfl))⟩
  f29 := ⟨Tryz.f177.name, by decide, Tryz.func177.trans (congrArg some (by kernel_rfl))⟩
  f31 := Tryz.func205.trans (congrArg some (by kernel_rfl))
  f32 := Tryz.func206.trans (congrArg some (by kernel_rfl))
  f36 := ⟨Tryz.f204.name, by decide, Tryz.func204.trans (congrArg some (by kernel_rfl))⟩
  f37 := ⟨Tryz.f207.name, by decide, Tryz.func207.trans (congrArg some (by kernel_rfl))⟩
  f38 := ⟨Tryz.f208.name, by decide, Tryz.func208.trans (congrArg some (by kernel_rfl))⟩
  f39 := ⟨Tryz.f147.name, by decide, Tryz.func147.trans (congrArg some (by kernel_rfl))⟩
  f41 := ⟨Tryz.f219.name, by decide, Tryz.func219.trans (congrArg some (by kernel_rfl))⟩
  t0 := Tryz.underlying0
  a0 := Tryz.isAgg0
  z0 := Tryz.sizeOf0
  v0 := Tryz.zeroValue0
  t3 := Tryz.underlying3
  a3 := Tryz.isAgg3
  z3 := Tryz.sizeOf3
  v3 := Tryz.zeroValue3
  t4 := Tryz.underlying4
  a4 := Tryz.isAgg4
  z4 := Tryz.sizeOf4
  v4 := Tryz.zeroValue4
  t5 := Tryz.underlying5
  a5 := Tryz.isAgg5
  z5 := Tryz.sizeOf5
  v5 := Tryz.zeroValue5
  t9 := Tryz.underlying9
  a9 := Tryz.isAgg9
  z9 := Tryz.sizeOf9
  v9 := Tryz.zeroValue9
  t26 := Tryz.underlying80
  a26 := Tryz.isAgg80
  z26 := Tryz.sizeOf80
  v26 := Tryz.zeroValue80
  t27 := Tryz.underlying80
  a27 := Tryz.isAgg80
  z27 := Tryz.sizeOf80
  v27 := Tryz.zeroValue80
  t29 := Tryz.underlying9
  a29 := Tryz.isAgg9
  z29 := Tryz.sizeOf9
  v29 := Tryz.zeroValue9
  t32 := Tryz.underlying191
  a32 := Tryz.isAgg191
  z32 := Tryz.sizeOf191
  v32 := Tryz.zeroValue191
  t35 := Tryz.underlying209
  a35 := Tryz.isAgg209
  z35 := Tryz.sizeOf209
  v35 := Tryz.zeroValue209
  t36 := Tryz.underlying210
  a36 := Tryz.isAgg210
  z36 := Tryz.sizeOf210
  v36 := Tryz.zeroValue210
  t41 := Tryz.underlying215
  a41 := Tryz.isAgg215
  z41 := Tryz.sizeOf215
  v41 := Tryz.zeroValue215
  t44 := Tryz.underlying218
  a44 := Tryz.isAgg218
  z44 := Tryz.sizeOf218
  v44 := Tryz.zeroValue218
  t46 := Tryz.underlying143
  a46 := Tryz.isAgg143
  z46 := Tryz.sizeOf143
  v46 := Tryz.zeroValue143
  t53 := Tryz.underlying237
  a53 := Tryz.isAgg237
  z53 := Tryz.sizeOf237
  v53 := Tryz.zeroValue237
  t57 := Tryz.underlying241
  a57 := Tryz.isAgg241
  z57 := Tryz.sizeOf241
  v57 := Tryz.zeroValue241
  t63 := Tryz.underlying251
  a63 := Tryz.isAgg251
  z63 := Tryz.sizeOf251
  v63 := Tryz.zeroValue251
  t64 := Tryz.underlying252
  a64 := Tryz.isAgg252
  z64 := Tryz.sizeOf252
  v64 := Tryz.zeroValue252 }

theorem Tryz.sorts41 (m : Nat) : AnyZ.SortsIn Tryz.prog Tryz.sorted41_ren Fence.wide m :=
  ⟨fun blk off cap ss W hH hblk hsz => callsIn_wide.2 (AnyM.slices_Sort_string Tryz.sort83 blk off cap ss W hH hblk hsz),
   fun p cap W => callsIn_wide.2 (AnyM.slices_Sort_string_none Tryz.sort83 p cap W)⟩

theorem Tryz.maps_Keys_42 (mb : Option Nat) (W : World) : CallsIn Fence.wide 5 Tryz.prog 42 #[.map mb] W fun e w' => e = .returned (.func (.func 84) #[] #[.pointer (some ⟨W.heap.size, 0, none⟩)]) ∧ w' = W.alloc (.cells #[.map mb] 75) :=
  AnyZ.keys_in Tryz.keys42 Fence.wide 5 trivial rfl mb W

set_option maxHeartbeats 1000000 in
theorem Tryz.slices_Sorted_keys_41_42 {H : Type} (b nn : Nat) (D0 : DataW H) (R : Value → Option (DataW H × List MemPlace)) (w : World) (hown : w.ownsMap Tryz.prog 9 R b nn D0) (hmax : Maps.size D0 ≤ maxLen) (hbytes : Maps.size D0 * 16 ≤ 140737488355328) :
    CallsIn Fence.wide 5 Tryz.prog 41 #[.func (.func 84) #[] #[.pointer (some ⟨w.heap.size, 0, none⟩)]] (w.alloc (.cells #[.map (some b)] 75)) fun e w' => ∃ (v : Value) (ss : List (List UInt8)), e = .returned v ∧ ss.Perm (strKeys D0) ∧
      w'.ownsRow (w.alloc (.cells #[.map (some b)] 75)).heap.size 9 1 v ss.length ((ss.mergeSort (fun x y => decide (x ≤ y))).map encStr) ∧ (v = .slice none 0 0 ↔ ss = []) ∧ Below (w.alloc (.cells #[.map (some b)] 75)).heap.size (w.alloc (.cells #[.map (some b)] 75)) w' := by
  have hbl := hown.lt
  have hseq : SeqGives Fence.wide 2 Tryz.prog 84 #[.pointer (some ⟨w.heap.size, 0, none⟩)] encStr (fun ss => ss.Perm (strKeys D0)) (Maps.size D0) (w.alloc (.cells #[.map (some b)] 75)) :=
    AnyZ.keys_gives (ρ := Tryz.keys42_ren) { Tryz.keys42 with } Fence.wide _ trivial rfl (by omega) w.heap.size b nn D0 _ (by simp) (by simp) (by
      obtain ⟨es, clock, hb, Ft, hs, hD⟩ := hown
      exact ⟨es, clock, (Below.heap_alloc _ _ b hbl).trans hb, Ft, hs, hD⟩)
  exact AnyZ.sorted_in Tryz.sorted41 Fence.wide 5 trivial trivial trivial trivial rfl (by omega) (Tryz.sorts41 _) (enters_of Tryz.func83 (by kernel_rfl) rfl) 84 #[.pointer (some ⟨w.heap.size, 0, none⟩)] trivial (enters_of Tryz.func84 (by kernel_rfl) rfl) _ _ hmax hbytes _ hseq

set_option maxHeartbeats 1000000 in
theorem Tryz.slices_Sorted_keys_nil_41_42 (w : World) :
    CallsIn Fence.wide 5 Tryz.prog 41 #[.func (.func 84) #[] #[.pointer (some ⟨w.heap.size, 0, none⟩)]] (w.alloc (.cells #[.map none] 75)) fun e w' => ∃ (v : Value) (ss : List (List UInt8)), e = .returned v ∧ ss = [] ∧
      w'.ownsRow (w.alloc (.cells #[.map none] 75)).heap.size 9 1 v ss.length ((ss.mergeSort (fun x y => decide (x ≤ y))).map encStr) ∧ (v = .slice none 0 0 ↔ ss = []) ∧ Below (w.alloc (.cells #[.map none] 75)).heap.size (w.alloc (.cells #[.map none] 75)) w' := by
  have hseq : SeqGives Fence.wide 2 Tryz.prog 84 #[.pointer (some ⟨w.heap.size, 0, none⟩)] encStr (fun ss : List (List UInt8) => ss = []) 0 (w.alloc (.cells #[.map none] 75)) :=
    AnyZ.keys_gives_nil (ρ := Tryz.keys42_ren) { Tryz.keys42 with } Fence.wide _ trivial rfl w.heap.size _ (by simp) (by simp)
  exact AnyZ.sorted_in Tryz.sorted41 Fence.wide 5 trivial trivial trivial trivial rfl (by omega) (Tryz.sorts41 _) (enters_of Tryz.func83 (by kernel_rfl) rfl) 84 #[.pointer (some ⟨w.heap.size, 0, none⟩)] trivial (enters_of Tryz.func84 (by kernel_rfl) rfl) _ 0 (Nat.zero_le _) (by omega) _ hseq


end Go.Proofs
end
/- Conf: a map's names, sorted. -/
section
namespace Go.Proofs.YtjcjleaicjhpeaaGreatDoor
open Go.ChangeShapes Go.WideShapes Go.ChangeAt Go.RowKit Go.Maps Go.Shelf Go.Sort
set_option linter.unusedVariables false

theorem MapG.keysS {w : World} {B : Nat} {fs : List (ByteArray × Value)} (h : MapG kxS w B fs) : ∃ D : DataW Value, w.ownsMap Tryz.prog 9 valElem B fs.length D ∧ Maps.size D = fs.length ∧ ∀ ss : List (List UInt8), ss.Perm (strKeys D) → ss.mergeSort (fun x y => decide (x ≤ y)) = fs.map (fun x => x.1.data.toList) := by
  obtain ⟨D, hD, hH, hA, hS⟩ := h.map
  refine ⟨D, hD, hS, fun ss hp => ?_⟩
  obtain ⟨es, rfl, hke⟩ := hD.keysOf
  obtain ⟨es', e', ht⟩ := hD.tidy kxS.law
  obtain rfl : es = es' := by simpa using e'
  have hk2 : ∀ p ∈ es, ∃ x, p.1 = .string x := fun p hp => by
    obtain ⟨key, hk⟩ := hke p hp
    obtain ⟨x, _, hx, _⟩ := Maps.keyOf_str Tryz.underlying9 hk
    exact ⟨x, hx⟩
  have hinj : ∀ a b : ByteArray × Value, a.1.data.toList = b.1.data.toList → a.1 = b.1 := fun a b e => bytes_ext e
  have hnd : (fs.map (fun x => x.1.data.toList)).Nodup := by
    rw [List.Nodup, List.pairwise_map]
    refine List.Pairwise.imp ?_ (show fs.Pairwise (fun x y => Kord.lt x.1 y.1) from h.rise)
    intro a b hab e
    rw [hinj a b e] at hab
    exact Kord.irr _ hab
  have hq : (fs.map (fun x => x.1.data.toList)).Perm (strKeys (.map es)) := by
    refine perm_strKeys ht hk2 hnd (fun x => ?_)
    constructor
    · intro hx
      obtain ⟨y, hy, rfl⟩ := List.mem_map.1 hx
      exact (hH y.1 (h.okk y hy)).2 (List.mem_map.2 ⟨y, hy, rfl⟩)
    · intro hx
      have hex : ∃ p ∈ es, p.1 = .string x := by
        rw [Maps.has_eq, List.any_eq_true] at hx
        obtain ⟨p, hp1, hp2⟩ := hx
        obtain ⟨a, ha⟩ := hk2 p hp1
        rw [ha] at hp2
        simp [Lit.sameKey] at hp2
        exact ⟨p, hp1, by rw [ha, hp2]⟩
      obtain ⟨p, hp1, hp2⟩ := hex
      obtain ⟨key, hk⟩ := hke p hp1
      obtain ⟨s, hs, _, hl⟩ := kxS.inv hk
      rw [hp2] at hl
      have e : x = s.data.toList := by simpa [kxS] using hl
      have h3 := (hH s hs).1 (by show Maps.has _ (.string s.data.toList) = true; rw [← e]; exact hx)
      obtain ⟨y, hy, hy2⟩ := List.mem_map.1 h3
      exact List.mem_map.2 ⟨y, hy, by rw [hy2, e]⟩
  have h1 := mergeSort_of_perm (hp.trans hq.symm)
  refine h1.trans (List.mergeSort_of_pairwise ?_)
  refine List.pairwise_map.2 (List.Pairwise.imp (fun {a b} hab => ?_) (show fs.Pairwise (fun x y => Kord.lt x.1 y.1) from h.rise))
  simp only [leB, decide_eq_true_eq]
  exact List.le_of_lt hab
/-- A row of names of one's own. -/
def OwnSt (base : Nat) (w : World) (sp : Option Addr) (c : Nat) (l : List ByteArray) : Prop := w.ownsRow base 9 1 (.slice sp l.length c) l.length (l.map Value.string)
theorem OwnSt.cell {base : Nat} {w : World} {sp : Option Addr} {c : Nat} {l : List ByteArray} (h : OwnSt base w sp c l) (i : Nat) (hi : i < l.length) : ∃ g, sp = some ⟨g, 0, none⟩ ∧ base ≤ g ∧ g < w.heap.size ∧ ∀ w' : World, w'.heap[g]? = w.heap[g]? → w'.cell? ⟨g, i, none⟩ = some (.string l[i]) := by
  rcases h.2 with ⟨hv, h0⟩ | ⟨g, cap, cur, hv, hb, hg, hle, hmx, hsz, ht⟩
  · omega
  · simp only [Value.slice.injEq] at hv
    refine ⟨g, hv.1, hb, (Array.getElem?_eq_some_iff.1 hg).1, fun w' hw => ?_⟩
    rw [cell_of_row w' g i cur _ _ (hw.trans hg)]
    have e : (l.map Value.string)[i]? = some (.string l[i]) := by rw [List.getElem?_map, List.getElem?_eq_getElem hi]; rfl
    rw [← ht, List.getElem?_take, if_pos (by omega)] at e
    rw [← Array.getElem?_toList, e]
theorem keysS_calls (b : Nat) (w : World) : Calls Tryz.prog 42 #[.map (some b)] w fun e w' => e = .returned (.func (.func 84) #[] #[.pointer (some ⟨w.heap.size, 0, none⟩)]) ∧ w' = w.alloc (.cells #[.map (some b)] 75) :=
  callsIn_wide.1 (Tryz.maps_Keys_42 (some b) w)
theorem sortedS_calls {w : World} {fs : List (ByteArray × Value)} {b : Nat} (h : MapG kxS w b fs) (hl : fs.length ≤ 1000) :
    Calls Tryz.prog 41 #[.func (.func 84) #[] #[.pointer (some ⟨w.heap.size, 0, none⟩)]] (w.alloc (.cells #[.map (some b)] 75)) fun e w' => ∃ sp c, e = .returned (.slice sp fs.length c) ∧ OwnSt w.heap.size w' sp c (fs.map (·.1)) ∧ Below w.heap.size w w' := by
  obtain ⟨D, hD, hS, hK⟩ := h.keysS
  refine (callsIn_wide.1 (Tryz.slices_Sorted_keys_41_42 b _ D valElem w hD (by rw [hS]; simp only [maxLen]; omega) (by rw [hS]; omega))).mono ?_
  rintro e w' ⟨v, ss, rfl, hp, hrow, hnil, hb⟩
  have hm := hK ss hp
  rw [hm] at hrow
  have hlen : ss.length = fs.length := by have := congrArg List.length hm; rw [List.length_mergeSort, List.length_map] at this; exact this
  rw [hlen] at hrow
  have e1 : (fs.map (fun x => x.1.data.toList)).map encStr = (fs.map (·.1)).map Value.string := by
    rw [List.map_map, List.map_map]
    exact List.map_congr_left fun x _ => by simp [encStr]
  rw [e1] at hrow
  have b1 : Below w.heap.size w (w.alloc (.cells #[.map (some b)] 75)) := (Below.refl _ _).alloc (Nat.le_refl _) _
  have hv : ∃ sp c, v = .slice sp fs.length c := by
    rcases hrow.2 with ⟨hv, h0⟩ | ⟨g, cap, cur, hv, _⟩
    · exact ⟨none, 0, by rw [hv, h0]⟩
    · exact ⟨_, _, hv⟩
  obtain ⟨sp, c, rfl⟩ := hv
  refine ⟨sp, c, rfl, ?_, b1.trans (hb.mono b1.size)⟩
  unfold OwnSt
  rw [List.length_map]
  exact ⟨hrow.1, hrow.2.imp id (fun ⟨g, cap, cur, h1, h2, h3⟩ => ⟨g, cap, cur, h1, Nat.le_trans b1.size h2, h3⟩)⟩
end Go.Proofs.YtjcjleaicjhpeaaGreatDoor
end
/- Plain: a number as bytes, seven bits a byte, the lowest first. -/
section
namespace Go.Proofs.YtjcjleaicjhpeaaGreatDoor

def numBf : Nat → Nat → List Nat
  | 0, n => [n]
  | f + 1, n => if n < 128 then [n] else (n % 128 + 128) :: numBf f (n / 128)
theorem numBf_same : ∀ (n f g : Nat), n ≤ f → n ≤ g → numBf f n = numBf g n := by
  intro n
  induction n using Nat.strongRecOn with
  | ind n ih =>
    intro f g hf hg
    by_cases h : n < 128
    · cases f <;> cases g <;> simp only [numBf, if_pos h]
    · match f, g, hf, hg with
      | 0, _, hf, _ => omega
      | _ + 1, 0, _, hg => omega
      | f + 1, g + 1, hf, hg =>
        simp only [numBf, if_neg h]
        rw [ih (n / 128) (by omega) f g (by omega) (by omega)]
/-- A number's bytes. -/
def numB (n : Nat) : List Nat := numBf n n
theorem numB_small {n : Nat} (h : n < 128) : numB n = [n] := by
  unfold numB
  cases n with
  | zero => rfl
  | succ k => simp only [numBf, if_pos h]
theorem numB_great {n : Nat} (h : ¬ n < 128) : numB n = (n % 128 + 128) :: numB (n / 128) := by
  unfold numB
  cases n with
  | zero => omega
  | succ k =>
    simp only [numBf, if_neg h]
    rw [numBf_same ((k + 1) / 128) k ((k + 1) / 128) (by omega) (Nat.le_refl _)]
theorem numB_length (n : Nat) : 1 ≤ (numB n).length ∧ (numB n).length ≤ n + 1 := by
  induction n using Nat.strongRecOn with
  | ind n ih =>
    by_cases h : n < 128
    · rw [numB_small h]; simp
    · rw [numB_great h]
      have := ih (n / 128) (by omega)
      simp only [List.length_cons]
      omega
theorem numB_lt (n : Nat) : ∀ c ∈ numB n, c < 256 := by
  induction n using Nat.strongRecOn with
  | ind n ih =>
    by_cases h : n < 128
    · rw [numB_small h]; intro c hc; simp only [List.mem_cons, List.not_mem_nil, or_false] at hc; omega
    · rw [numB_great h]
      intro c hc
      rcases List.mem_cons.1 hc with h1 | h1
      · omega
      · exact ih (n / 128) (by omega) c h1
end Go.Proofs.YtjcjleaicjhpeaaGreatDoor
end
/- The contracts of wire.within, addNumber and Number. -/
section
namespace Go.Proofs.YtjcjleaicjhpeaaGreatDoor
open Go.ChangeShapes Go.WideShapes Go.ChangeAt Go.RowKit

theorem within_yes (n a b : Int) (w : World) (h : a ≤ n ∧ n ≤ b) : Calls Tryz.prog 150 #[.int .i64 n, .int .i64 a, .int .i64 b] w fun e w' => e = .returned (.bool true) ∧ w' = w := by
  obtain ⟨h1, h2⟩ := h
  go_enter Tryz.func150, Tryz.ntmps150
  go_wp2
  go_ret
  exact ⟨by simp, rfl⟩
theorem within_no (n a b : Int) (w : World) (h : ¬ (a ≤ n ∧ n ≤ b)) : Calls Tryz.prog 150 #[.int .i64 n, .int .i64 a, .int .i64 b] w fun e w' => e = .returned (.bool false) ∧ w' = w := by
  by_cases h1 : a ≤ n
  · have h2 : ¬ n ≤ b := fun h2 => h ⟨h1, h2⟩
    clear h
    go_enter Tryz.func150, Tryz.ntmps150
    go_wp2
    go_ret
    exact ⟨by simp, rfl⟩
  · clear h
    go_enter Tryz.func150, Tryz.ntmps150
    go_wp2
    go_ret
    exact ⟨rfl, rfl⟩

theorem wraps63 (n : Int) (h₀ : 0 ≤ n) (h₁ : n < 2 ^ 63) : IntKind.i64.wrap n = n := by rw [IntKind.wrap_i64]; omega
theorem low_byte (m : Nat) : bits .or .i64 (bits .and .i64 (m : Int) 127) 128 % 256 = ((m % 128 + 128 : Nat) : Int) := by
  rw [i64_and127]
  have h0 : (0 : Int) ≤ (m : Int) % 128 := by omega
  have h1 : (m : Int) % 128 < 128 := by omega
  generalize hy : (m : Int) % 128 = y at *
  have hc : bits .or .i64 y 128 = bits .or .i64 128 y := by simp only [bits, BitVec.or_comm]
  rw [hc, bits_join .i64 63 (by decide) wraps63 7 128 y (by decide) (by decide) (by decide) h0 h1 (by omega)]
  omega

set_option maxRecDepth 20000 in
set_option maxHeartbeats 1000000 in
theorem addNumber_grew (base : Nat) (sp : Option Addr) (n0 c : Nat) (l : List Nat) (n : Nat) (w : World) (hn0 : l.length = n0) (hown : OwnB base w sp c l) (hl : l.length ≤ 1099511627776) (hn : n ≤ 1099511627776) (hbase : base ≤ w.heap.size) :
    Calls Tryz.prog 151 #[.slice sp n0 c, .int .i64 (n : Int)] w fun e w' => ∃ sp' n' c', e = .returned (.slice sp' n' c') ∧ Hid ((l ++ numB n).length = n') ∧ OwnB base w' sp' c' (l ++ numB n) ∧ Grew w sp w' sp' := by
  have HO := hide hown
  have HN := hide hn0
  have HLen := hide (show (l ++ numB n).length ≤ 2199023255553 by rw [List.length_append]; have := (numB_length n).2; omega)
  clear hown hn0
  go_enter Tryz.func151, Tryz.ntmps151
  go_wp2
  go_loopw [0, 1] (fun v i wr => ∃ (sp' : Option Addr) (n' c' : Nat) (l' : List Nat) (m : Nat), m ≤ 1099511627776 ∧ v = .slice sp' n' c' ∧ i = .int .i64 (m : Int) ∧ Hid (l'.length = n') ∧ Hid (OwnB base wr sp' c' l') ∧ Hid (l' ++ numB m = l ++ numB n) ∧ Hid (Grew w sp wr sp')) (fun _ i _ => (intOf i).toNat)
  case atStart => exact ⟨sp, n0, c, l, n, hn, rfl, rfl, unhide HN, unhide HO, rfl, Grew.refl _ _⟩
  case round =>
    obtain ⟨sp', n', c', l', m, hm, rfl, rfl, hl', ho', heq, hbw⟩ := hrel
    have hlen' := hide (show l'.length + 1 ≤ 140737488355328 by
      have h1 := unhide HLen
      rw [← unhide heq, List.length_append] at h1
      have := (numB_length m).1
      omega)
    have hbr : base ≤ wr.heap.size := Nat.le_trans hbase (unhide hbw).grown.size
    by_cases h128 : m < 128
    · have hlit := hide (bytesAt_block (l := [m]) (heap_new wr (.cells #[.int .u8 (m : Int)] 5)) (by intro c hc; simp only [List.mem_cons, List.not_mem_nil, or_false] at hc; omega))
      have bA := hide (show Below wr.heap.size wr (wr.alloc (.cells #[.int .u8 (m : Int)] 5)) from (Below.refl _ _).alloc (Nat.le_refl _) _)
      have heq' := hide (show l' ++ [m] = l ++ numB n by rw [← unhide heq, numB_small h128])
      have hm0 : (m : Int) < 128 := by omega
      go_wp2_with (at_builtin; refine wpList_append8L rfl (.tmp 16) (.tmp 19) rfl base sp' n' c' l' rfl (unhide hl') (by exact (unhide ho').later (unhide bA)) (some ⟨wr.heap.size, 0, none⟩) 1 1 rfl [m] rfl (by exact unhide hlit) (fun h => by cases h) (unhide hlen') (Nat.le_trans hbr (unhide bA).size) ?_; intro sp2 n2 c2 W2 hn2 ho2 hg2 hb2)
      rw [unhide heq'] at hn2 ho2
      go_ret
      exact ⟨sp2, n2, c2, rfl, hn2, ho2, (unhide hbw).trans (Grew.aside (unhide bA) ⟨hg2, hb2⟩)⟩
    · have hlit := hide (bytesAt_block (l := [m % 128 + 128]) (heap_new wr (.cells #[.int .u8 ((m % 128 + 128 : Nat) : Int)] 5)) (by intro c hc; simp only [List.mem_cons, List.not_mem_nil, or_false] at hc; omega))
      have bA := hide (show Below wr.heap.size wr (wr.alloc (.cells #[.int .u8 ((m % 128 + 128 : Nat) : Int)] 5)) from (Below.refl _ _).alloc (Nat.le_refl _) _)
      have heq' := hide (show l' ++ [m % 128 + 128] ++ numB (m / 128) = l ++ numB n by rw [← unhide heq, numB_great h128, List.append_assoc]; rfl)
      have hm0 : ¬ (m : Int) < 128 := by omega
      have hlow := low_byte m
      generalize hq : m % 128 + 128 = q at *
      go_wp2_with (at_builtin; refine wpList_append8L rfl (.tmp 7) (.tmp 12) rfl base sp' n' c' l' rfl (unhide hl') (by exact (unhide ho').later (unhide bA)) (some ⟨wr.heap.size, 0, none⟩) 1 1 rfl [q] rfl (by exact unhide hlit) (fun h => by cases h) (unhide hlen') (Nat.le_trans hbr (unhide bA).size) ?_; intro sp2 n2 c2 W2 hn2 ho2 hg2 hb2)
      have hbn := (unhide hbw).trans (Grew.aside (unhide bA) ⟨hg2, hb2⟩)
      exact ⟨⟨sp2, n2, c2, l' ++ [q], m / 128, by omega, rfl, by go_num, hn2, ho2, unhide heq', hbn⟩, by simp [intOf]; omega⟩
theorem addNumber_calls (base : Nat) (sp : Option Addr) (n0 c : Nat) (l : List Nat) (n : Nat) (w : World) (hn0 : l.length = n0) (hown : OwnB base w sp c l) (hl : l.length ≤ 1099511627776) (hn : n ≤ 1099511627776) (hbase : base ≤ w.heap.size) :
    Calls Tryz.prog 151 #[.slice sp n0 c, .int .i64 (n : Int)] w fun e w' => ∃ sp' n' c', e = .returned (.slice sp' n' c') ∧ Hid ((l ++ numB n).length = n') ∧ OwnB base w' sp' c' (l ++ numB n) ∧ Below base w w' := by
  refine (addNumber_grew base sp n0 c l n w hn0 hown hl hn hbase).mono ?_
  rintro e w' ⟨sp', n', c', he, h1, h2, h3⟩
  exact ⟨sp', n', c', he, h1, h2, h3.below hown hbase⟩
end Go.Proofs.YtjcjleaicjhpeaaGreatDoor
end
/- The contract of wire.Number. -/
section
namespace Go.Proofs.YtjcjleaicjhpeaaGreatDoor
open Go.ChangeShapes Go.WideShapes Go.ChangeAt Go.RowKit

theorem number_no (n : Int) (w : World) (h : ¬ (0 ≤ n ∧ n ≤ 1099511627776)) :
    Calls Tryz.prog 94 #[.int .i64 n] w fun e w' => e = .returned (.tuple #[.slice none 0 0, .int .i64 2]) ∧ w' = w := by
  have H := hide h
  clear h
  go_enter Tryz.func94, Tryz.ntmps94
  go_wp2_with fail
  refine (within_no n 0 1099511627776 _ (unhide H)).mono ?_
  rintro e w' ⟨rfl, rfl⟩
  go_wp2
  go_ret2
  exact ⟨rfl, rfl⟩
theorem number_yes (n : Nat) (w : World) (h : n ≤ 1099511627776) :
    Calls Tryz.prog 94 #[.int .i64 (n : Int)] w fun e w' => ∃ sp n' c', e = .returned (.tuple #[.slice sp n' c', .int .i64 0]) ∧ Hid ((numB n).length = n') ∧ OwnB w.heap.size w' sp c' (numB n) ∧ Below w.heap.size w w' := by
  go_enter Tryz.func94, Tryz.ntmps94
  go_wp2_with fail
  refine (within_yes n 0 1099511627776 _ ⟨by omega, by omega⟩).mono ?_
  rintro e w1 ⟨rfl, rfl⟩
  go_wp2_with fail
  refine (addNumber_calls w1.heap.size none 0 0 [] n _ rfl (OwnB.ofNil _ _) (by simp) h (Nat.le_refl _)).mono ?_
  rintro e w' ⟨sp, n', c', rfl, hn, ho, hb⟩
  rw [List.nil_append] at hn ho
  go_wp2
  go_ret2
  exact ⟨sp, n', c', rfl, hn, ho, hb⟩
end Go.Proofs.YtjcjleaicjhpeaaGreatDoor
end
/- Conf: numbers and texts appended to bytes of one's own. -/
section
namespace Go.Proofs.YtjcjleaicjhpeaaGreatDoor
open Go.ChangeShapes Go.WideShapes Go.ChangeAt Go.RowKit
set_option linter.unusedVariables false

theorem numB_sixK : ∀ (f n : Nat), n < 128 ^ (f + 1) → (numB n).length ≤ f + 1
  | 0, n, h => by have : n < 128 := by omega
                  rw [numB_small this]; simp
  | f + 1, n, h => by
    by_cases h1 : n < 128
    · rw [numB_small h1]; simp
    · rw [numB_great h1, List.length_cons]
      have := numB_sixK f (n / 128) (by rw [Nat.pow_succ] at h; omega)
      omega
theorem numB_len6 (n : Nat) (h : n ≤ 1099511627776) : (numB n).length ≤ 6 :=
  numB_sixK 5 n (by have : (128 : Nat) ^ (5 + 1) = 4398046511104 := rfl; omega)
def numsB (ns : List Nat) : List Nat := ns.flatMap numB
def txB (s : ByteArray) : List Nat := numB s.size ++ bsT s
def txsB (ts : List ByteArray) : List Nat := ts.flatMap txB
theorem flat_take {α : Type} (f : α → List Nat) (l : List α) (j : Nat) (h : j < l.length) : (l.take (j + 1)).flatMap f = (l.take j).flatMap f ++ f l[j] := by
  rw [List.take_succ_eq_append_getElem h, List.flatMap_append]; simp
theorem flat_le {α : Type} (f : α → List Nat) (k : Nat) : ∀ (l : List α), (∀ x ∈ l, (f x).length ≤ k) → (l.flatMap f).length ≤ k * l.length
  | [], _ => by simp
  | x :: r, h => by
    rw [List.flatMap_cons, List.length_append, List.length_cons]
    have h1 := h x List.mem_cons_self
    have h2 := flat_le f k r (fun y hy => h y (List.mem_cons_of_mem _ hy))
    rw [Nat.mul_add, Nat.mul_one]
    omega
theorem txB_len (s : ByteArray) (h : s.size ≤ 1099511627776) : (txB s).length ≤ s.size + 6 := by
  unfold txB
  rw [List.length_append, bsT_len]
  have := numB_len6 s.size h
  omega
/-- Numbers in a block of their own. -/
def nsRow (ns : List Nat) : Array Value := (ns.map (fun (n : Nat) => Value.int .i64 (n : Int))).toArray
theorem nsRow_at (ns : List Nat) (j : Nat) (h : j < ns.length) : (nsRow ns)[j]? = some (.int .i64 (ns[j] : Int)) := by
  unfold nsRow
  simp [h]
theorem OwnB.ne {base : Nat} {w : World} {sp : Option Addr} {c : Nat} {l : List Nat} (h : OwnB base w sp c l) {B : Nat} {cs : Array Value} {T : TypeId} {fr : Nat × Nat} (hB : w.heap[B]? = some (.cells cs T fr)) (hT : T ≠ 5) : blk sp ≠ some B := by
  intro e
  rcases h.owns.2 with ⟨hv, h0⟩ | ⟨g, cap, cur, hv, _, hg, _⟩
  · simp only [Value.slice.injEq] at hv
    rw [hv.1] at e; cases e
  · simp only [Value.slice.injEq] at hv
    rw [hv.1] at e
    simp only [blk, Option.map_some, Option.some.injEq] at e
    rw [e, hB] at hg
    simp only [Option.some.injEq, Obj.cells.injEq] at hg
    exact hT hg.2.1
theorem OwnB.cap0 {base : Nat} {w : World} {sp : Option Addr} {c : Nat} {l : List Nat} (h : OwnB base w sp c l) : sp = none → c = 0 := by
  intro e
  rcases h.owns.2 with ⟨hv, h0⟩ | ⟨g, cap, cur, hv, _⟩
  · simp only [Value.slice.injEq] at hv
    exact hv.2.2
  · simp only [Value.slice.injEq] at hv
    rw [hv.1] at e; cases e
theorem OwnB.some_ {base : Nat} {w : World} {sp : Option Addr} {c : Nat} {l : List Nat} (h : OwnB base w sp c l) (hl : 0 < l.length) : sp ≠ none := by
  rcases h.owns.2 with ⟨hv, h0⟩ | ⟨g, cap, cur, hv, _⟩
  · omega
  · simp only [Value.slice.injEq] at hv
    rw [hv.1]; simp
theorem tyne : (3 : TypeId) ≠ 5 ∧ (9 : TypeId) ≠ 5 := by decide
set_option maxRecDepth 20000 in
set_option maxHeartbeats 4000000 in
theorem addNumbers_calls (base : Nat) {w : World} {sp : Option Addr} {n0 c : Nat} {l : List Nat} (hn0 : l.length = n0) (hown : OwnB base w sp c l) (B m mc : Nat) (ns : List Nat) (hm : ns.length = m) (hB : w.heap[B]? = some (.cells (nsRow ns) 3 (0, 0)))
    (hns : ∀ n ∈ ns, n ≤ 1099511627776) (hsz : l.length + 6 * m ≤ 140737488355328) (hm2 : m ≤ 1000) (hbase : base ≤ w.heap.size) :
    Calls Tryz.prog 49 #[.slice sp n0 c, .slice (some ⟨B, 0, none⟩) m mc] w fun e w' => ∃ sp' n' c', e = .returned (.slice sp' n' c') ∧ Hid ((l ++ numsB ns).length = n') ∧ OwnB base w' sp' c' (l ++ numsB ns) ∧ Grew w sp w' sp' := by
  have HO := hide hown
  have HN := hide hn0
  have HM := hide hm
  have HB := hide hB
  have HNE := hide (hown.ne hB tyne.1)
  have HNS := hide hns
  have LE := hide (show ∀ j, ((ns.take j).flatMap numB).length ≤ 6 * m from fun j => by
    have h1 := flat_le numB 6 (ns.take j) (fun x hx => numB_len6 x (hns x (List.mem_of_mem_take hx)))
    have h2 : (ns.take j).length ≤ m := by rw [← hm, List.length_take]; omega
    omega)
  clear hown hn0 hm hB hns
  go_enter Tryz.func49, Tryz.ntmps49
  go_wp2
  go_loopw [0, 11] (fun v i wr => ∃ (j : Nat) (sp' : Option Addr) (n' c' : Nat), j ≤ m ∧ v = .slice sp' n' c' ∧ i = .int .i64 (j : Int) ∧ Hid ((l ++ (ns.take j).flatMap numB).length = n') ∧ Hid (OwnB base wr sp' c' (l ++ (ns.take j).flatMap numB)) ∧ Hid (Grew w sp wr sp')) (fun _ i _ => m - (intOf i).toNat)
  case atStart => exact ⟨0, sp, n0, c, by omega, rfl, rfl, hide (by simpa using unhide HN), hide (by simpa using unhide HO), Grew.refl _ _⟩
  case round =>
    obtain ⟨j, sp', n', c', hj, rfl, rfl, hl', ho', hg'⟩ := hrel
    by_cases hjm : j < m
    · have y0 : (0 : Int) ≤ (j : Int) := by omega
      have y1 : (j : Int) < (m : Int) := by omega
      have hjl : j < ns.length := by rw [unhide HM]; exact hjm
      have hBr := Grew.block (unhide hg') (unhide HB) (unhide HNE)
      have p0 := box_cell hBr j _ (nsRow_at ns j hjl)
      have hx := unhide HNS ns[j] (List.getElem_mem hjl)
      have FT := hide (flat_take numB ns j hjl)
      generalize ns[j] = x at *
      have hs1 := hide (show (l ++ (ns.take j).flatMap numB).length + (numB x).length ≤ 140737488355328 by
        have := unhide LE (j + 1)
        rw [unhide FT, List.length_append] at this
        rw [List.length_append]; omega)
      have hbr : base ≤ wr.heap.size := Nat.le_trans hbase (unhide hg').grown.size
      clear hBr
      go_wp2_with fail
      refine (number_yes x wr hx).mono ?_
      rintro e V ⟨xp, xn, xc, rfl, hxn, hxo, hxb⟩
      have ho2 := hide ((unhide ho').later hxb)
      have HV := hide hxb
      have XB := hide hxo.bytes
      have X0 := hide hxo.cap0
      have hvs : base ≤ V.heap.size := Nat.le_trans hbr hxb.size
      have hs2 := hide (show (l ++ (ns.take j).flatMap numB).length + xn ≤ 140737488355328 by rw [← unhide hxn]; exact unhide hs1)
      clear hxb hxo hx
      go_wp2_with (at_builtin; refine wpList_append8L rfl (.tmp 20) (.tmp 21) rfl base sp' n' c' _ rfl (unhide hl') (unhide ho2) xp xn xc rfl (numB x) (unhide hxn) (unhide XB) (unhide X0) (unhide hs2) hvs ?_; intro sp2 n2 c2 W2 hn2 ho3 hg2 hb2; rw [List.append_assoc, ← unhide FT] at hn2 ho3; have HO3 := hide ho3; clear ho3)
      have hbn := hide ((unhide hg').trans (Grew.aside (unhide HV) ⟨hg2, hb2⟩))
      exact ⟨⟨j + 1, sp2, n2, c2, by omega, rfl, by go_num, by first | exact hn2 | exact hide (by rw [List.length_append]; exact unhide hn2), unhide HO3, unhide hbn⟩, by simp [intOf]; omega⟩
    · have hjj : ¬ (j : Int) < (m : Int) := by omega
      have E := hide (show (ns.take j).flatMap numB = numsB ns by rw [List.take_of_length_le (by rw [unhide HM]; omega)]; rfl)
      go_wp2
      go_ret
      exact ⟨sp', n', c', rfl, hide (by rw [← unhide E]; simpa using unhide hl'), by rw [← unhide E]; exact unhide ho', unhide hg'⟩
end Go.Proofs.YtjcjleaicjhpeaaGreatDoor
end
