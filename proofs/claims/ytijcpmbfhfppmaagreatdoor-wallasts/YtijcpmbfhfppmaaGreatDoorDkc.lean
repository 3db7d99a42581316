/- Disk: each: every file in its name's order. -/
import Derived.Test.YtijcpmbfhfppmaaGreatDoorDkb
import Derived.Test.YtijcpmbfhfppmaaGreatDoorIter
namespace Go.Proofs.YtijcpmbfhfppmaaGreatDoor
open Go.ChangeShapes Go.WideShapes Go.ChangeAt Go.RowKit Go.Maps

def str (x : Nm) : ByteArray := ⟨x.toArray⟩
theorem str_list (x : Nm) : (str x).data.toList = x := rfl
theorem str_size (x : Nm) : (str x).size = x.length := rfl
theorem names_shape {w : World} {base n : Nat} {v : Value} {l : List Nm} (h : w.ownsRow base 9 1 v n (l.map encStr)) (hl : l.length = n) :
    ∃ sp c, v = .slice sp n c ∧ ∀ i (hi : i < l.length), ∃ g, sp = some ⟨g, 0, none⟩ ∧ base ≤ g ∧ g < w.heap.size ∧ ∀ w' : World, w'.heap[g]? = w.heap[g]? → w'.cell? ⟨g, i, none⟩ = some (.string (str l[i])) := by
  rcases h.2 with ⟨hv, h0⟩ | ⟨g, cap, cur, hv, hb, hg, hle, hmx, hsz, ht⟩
  · exact ⟨none, 0, by rw [hv, h0], fun i hi => by omega⟩
  · refine ⟨some ⟨g, 0, none⟩, cap, hv, fun i hi => ⟨g, rfl, hb, (Array.getElem?_eq_some_iff.1 hg).1, fun w' hw => ?_⟩⟩
    rw [cell_of_row w' g i cur _ _ (hw.trans hg)]
    have e : (l.map encStr)[i]? = some (.string (str l[i])) := by rw [List.getElem?_map, List.getElem?_eq_getElem hi]; rfl
    rw [← ht, List.getElem?_take, if_pos (by omega)] at e
    rw [← Array.getElem?_toList, e]
theorem DiskAt.c1 {base d M room N : Nat} {w : World} {fs : List Fe} (h : DiskAt base w d M room N fs) : w.cell? ⟨d, 1, none⟩ = some (.map (some M)) := fcell h.box 1 _ rfl
theorem DiskAt.c0 {base d M room N : Nat} {w : World} {fs : List Fe} (h : DiskAt base w d M room N fs) : w.cell? ⟨d, 0, none⟩ = some (.int .i64 (room : Int)) := fcell h.box 0 _ rfl
set_option maxRecDepth 20000 in
set_option maxHeartbeats 40000000 in
theorem each_calls (base d M room N : Nat) (w : World) (fs : List Fe) (h : DiskAt base w d M room N fs) (K : Nat) (caps : Array Value) (hK : ∀ (c : Array Value) (w : World), (callFunc K c).run Tryz.prog w = .ok (.enter K c) w) (Post : World → Prop)
    (hv : ∀ W0, Below w.heap.size w W0 → ∃ I : Nat → World → Prop, I 0 W0 ∧ (∀ i w1, I i w1 → ∀ g, w.heap.size ≤ g → g < W0.heap.size → w1.heap[g]? = W0.heap[g]?) ∧
      (∀ i (hi : i < fs.length) w1, I i w1 → w1.cell? ⟨d, 1, none⟩ = some (.map (some M)) ∧ (Instr.lookup 99 (.map (some M)) (.string (str fs[i].1)) false).run Tryz.prog w1 = .ok (.pointer (some ⟨fs[i].2.1, 0, none⟩)) w1 ∧
        Calls Tryz.prog K (#[.string (str fs[i].1), .pointer (some ⟨fs[i].2.1, 0, none⟩)] ++ caps) w1 fun e w2 => e = .returned (.tuple #[]) ∧ I (i + 1) w2) ∧
      (∀ w1, I fs.length w1 → Post w1)) :
    Calls Tryz.prog 72 #[.pointer (some ⟨d, 0, none⟩), .func (.func K) #[] caps] w fun e w' => e = .returned (.tuple #[]) ∧ Post w' := by
  obtain ⟨D, hD, hDs, hDk⟩ := h.map.keys (h.rise.map _)
  have hfl : (ptrs fs).length = fs.length := by simp [ptrs]
  have hf16 := h.few
  have c1 := h.c1
  have CK := hide (callsIn_wide.1 (Tryz.maps_Keys_108 (some M) w))
  have CS := hide (callsIn_wide.1 (Tryz.slices_Sorted_keys_107_108 M _ D fileElem w hD (by rw [hDs, hfl]; simp only [maxLen]; omega) (by rw [hDs, hfl]; omega)))
  have HN := hide (fun ss (hp : List.Perm ss (strKeys D)) => show (ss.mergeSort (fun x y => decide (x ≤ y))) = fs.map (·.1) by rw [hDk ss hp]; simp [ptrs])
  have HV := hide hv
  have b0 : Below w.heap.size w (w.alloc (.cells #[.map (some M)] 99)) := (Below.refl _ _).alloc (Nat.le_refl _) _
  have B0 := hide b0
  clear h hv hD hDs hDk b0 hfl
  go_enter Tryz.func72, Tryz.ntmps72
  go_wp2_with (first
    | (go_at_call 108; refine (unhide CK).mono ?_; rintro e w' ⟨rfl, rfl⟩)
    | (go_at_call 107; refine (unhide CS).mono ?_; rintro e W0 ⟨v, ss, rfl, hp, hrow, hnil, hb⟩; rw [unhide HN ss hp] at hrow; have hlen : ss.length = fs.length := (by have := congrArg List.length (unhide HN ss hp); rw [List.length_mergeSort, List.length_map] at this; exact this); rw [hlen] at hrow; obtain ⟨sp, cap, rfl, hcell⟩ := names_shape hrow (by simp); obtain ⟨I, hI0, hIk, hIs, hIe⟩ := unhide HV W0 ((unhide B0).trans (hb.mono (unhide B0).size)); have HC := hide hcell; have H0 := hide hI0; have HIK := hide hIk; have HIS := hide hIs; have HIE := hide hIe; have HS := hide (show w.heap.size ≤ (w.alloc (.cells #[.map (some M)] 99)).heap.size from (unhide B0).size); clear hp hrow hnil hb hlen hcell hI0 hIk hIs hIe))
  have hlm : (fs.map (·.1)).length = fs.length := by simp
  go_loopw [13] (fun i wr => ∃ j : Nat, j ≤ fs.length ∧ i = .int .i64 (j : Int) ∧ Hid (I j wr)) (fun i _ => fs.length - (intOf i).toNat)
  case atStart => exact ⟨0, by omega, rfl, H0⟩
  case round =>
    obtain ⟨j, hj, rfl, HI⟩ := hrel
    by_cases hjn : j < fs.length
    · have hj0 : (0 : Int) ≤ (j : Int) := by omega
      have hj1 : (j : Int) < (fs.length : Int) := by omega
      obtain ⟨g, rfl, hg1, hg2, hgc⟩ := unhide HC j (by rw [hlm]; exact hjn)
      have p0 := hgc wr (unhide HIK j wr (unhide HI) g (Nat.le_trans (unhide HS) hg1) hg2)
      rw [List.getElem_map] at p0
      obtain ⟨q1, q2, q3⟩ := unhide HIS j hjn wr (unhide HI)
      generalize str fs[j].1 = nm at *
      generalize fs[j].2.1 = F at *
      have Q3 := hide q3
      clear q3 hgc
      go_wp2_with fail
      refine (unhide Q3).mono ?_
      rintro e w2 ⟨rfl, hI2⟩
      have HI2 := hide hI2
      clear hI2
      go_wp2
      exact ⟨⟨j + 1, by omega, by go_num, unhide HI2⟩, by simp [intOf]; omega⟩
    · have hj2 : ¬ ((j : Int) < (fs.length : Int)) := by omega
      obtain rfl : j = fs.length := by omega
      go_wp2
      go_end0
      exact ⟨rfl, unhide HIE _ (unhide HI)⟩
end Go.Proofs.YtijcpmbfhfppmaaGreatDoor
