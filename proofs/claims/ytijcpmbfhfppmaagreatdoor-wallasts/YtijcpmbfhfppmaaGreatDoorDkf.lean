/- Disk: Used, Rename. -/
import Derived.Test.YtijcpmbfhfppmaaGreatDoorDke
namespace Go.Proofs.YtijcpmbfhfppmaaGreatDoor
open Go.ChangeShapes Go.WideShapes Go.ChangeAt Go.RowKit Go.Maps

theorem enter_used (c : Array Value) (w : World) : (callFunc 113 c).run Tryz.prog w = .ok (.enter 113 c) w := by
  simp [callFunc, go_sem, Tryz.func113]
  rw [if_neg (by decide +kernel), if_neg (fun h => by cases h)]
set_option maxHeartbeats 4000000 in
theorem used1_calls (s : ByteArray) (F U : Nat) (bp : Option Addr) (n c u : Nat) (w : World) (hU : w.heap[U]? = some (.cells #[.int .i64 (u : Int)] 3 (0, 0))) (hF : w.cell? ⟨F, 0, none⟩ = some (.slice bp n c)) (hn : u + n ≤ 4611686018427387904) :
    Calls Tryz.prog 113 #[.string s, .pointer (some ⟨F, 0, none⟩), .pointer (some ⟨U, 0, none⟩)] w fun e w' => e = .returned (.tuple #[]) ∧ w'.heap[U]? = some (.cells #[.int .i64 ((u + n : Nat) : Int)] 3 (0, 0)) ∧ w.grownBy w' (some U) ∧ w'.heap.size = w.heap.size := by
  have c0 := fcell hU 0 (.int .i64 (u : Int)) rfl
  have z0 := ffree hU 0
  have hw : IntKind.i64.wrap ((u : Int) + (n : Int)) = (u : Int) + (n : Int) := by rw [IntKind.wrap_i64]; omega
  have HU := hide hU
  clear hU
  go_enter Tryz.func113, Tryz.ntmps113
  go_region
  all_goals
    go_wp2
    go_end0
    have hg := grown_set w U 0 (.int .i64 ((u : Int) + (n : Int)))
    exact ⟨rfl, by rw [show ((u + n : Nat) : Int) = (u : Int) + (n : Int) by omega]; exact heap_setCell_same w U 0 #[.int .i64 (u : Int)] 3 (.int .i64 ((u : Int) + (n : Int))) (unhide HU), ⟨hg.os, hg.tape, hg.output, hg.size, hg.block⟩, by simp [World.setCell]⟩
def usedF (fs : List Fe) : Nat := (fs.map (fun x => x.2.2.b.length)).sum
theorem usedF_le : ∀ (fs : List Fe), (∀ x ∈ fs, x.2.2.b.length ≤ 262144) → usedF fs ≤ fs.length * 262144
  | [], _ => by simp [usedF]
  | x :: r, h => by
    have h1 := usedF_le r (fun y hy => h y (List.mem_cons_of_mem _ hy))
    have h2 := h x List.mem_cons_self
    simp only [usedF, List.map_cons, List.sum_cons, List.length_cons] at h1 ⊢
    omega
theorem usedF_take (fs : List Fe) (i : Nat) (hi : i < fs.length) : usedF (fs.take (i + 1)) = usedF (fs.take i) + fs[i].2.2.b.length := by
  rw [List.take_succ_eq_append_getElem hi]
  simp only [usedF, List.map_append, List.map_cons, List.map_nil, List.sum_append_nat, List.sum_cons, List.sum_nil, Nat.add_zero]
theorem usedF_take_le (fs : List Fe) (i : Nat) : usedF (fs.take i) ≤ usedF fs := by
  have : usedF fs = usedF (fs.take i) + usedF (fs.drop i) := by
    unfold usedF
    rw [← List.sum_append_nat, ← List.map_append, List.take_append_drop]
  omega
section
variable {base d M room N : Nat} {w w' : World} {fs fs' : List Fe}
theorem DiskAt.usedS (h : DiskAt base w d M room N fs) : usedS (sps fs) = usedF fs := by
  unfold Go.Proofs.YtijcpmbfhfppmaaGreatDoor.usedS usedF sps
  rw [List.map_map]
  congr 1
  exact List.map_congr_left (fun x hx => by show x.2.2.sp.now.length = _; rw [h.nows hx])
theorem DiskAt.used_le (h : DiskAt base w d M room N fs) : usedF fs ≤ 4194304 := by
  have h1 := usedF_le fs (fun x hx => (h.ok x hx).b8)
  have := h.few
  omega
/-- A world in which nothing of the disk has changed. -/
theorem DiskAt.still (h : DiskAt base w d M room N fs) (hs : ∀ g, g < w.heap.size → w'.heap[g]? = w.heap[g]?) : DiskAt base w' d M room N fs := h.same (fun g hg _ => hs g hg)
theorem DiskAt.lookAt (h : DiskAt base w d M room N fs) (i : Nat) (hi : i < fs.length) : (Instr.lookup 99 (.map (some M)) (.string (str fs[i].1)) false).run Tryz.prog w = .ok (.pointer (some ⟨fs[i].2.1, 0, none⟩)) w :=
  (h.map.look_yes (str fs[i].1) (by rw [str_size]; have := h.names _ (List.getElem_mem hi); simp only [maxLen]; omega) fs[i].2.1 (List.mem_map.2 ⟨fs[i], List.getElem_mem hi, rfl⟩)).2
theorem dused_calls (h : DiskAt base w d M room N fs) : Calls Tryz.prog 79 #[.pointer (some ⟨d, 0, none⟩)] w fun e w' => e = .returned (.int .i64 (usedS (sps fs) : Int)) ∧ Below w.heap.size w w' := by
  have b0 : Below w.heap.size w (w.alloc (.cells #[.int .i64 0] 3)) := (Below.refl _ _).alloc (Nat.le_refl _) _
  have hW : (w.alloc (.cells #[.int .i64 0] 3)).heap.size = w.heap.size + 1 := by simp
  have hU0 := heap_new w (.cells #[.int .i64 0] 3)
  have EC := hide (each_calls base d M room N (w.alloc (.cells #[.int .i64 0] 3)) fs (h.later b0) 113 #[.pointer (some ⟨w.heap.size, 0, none⟩)] enter_used
    (fun w' => w'.heap[w.heap.size]? = some (.cells #[.int .i64 (usedS (sps fs) : Int)] 3 (0, 0)) ∧ Below w.heap.size w w') (fun W0 hb => by
      have hbW : Below w.heap.size w W0 := b0.trans (hb.mono b0.size)
      refine ⟨fun i w1 => w1.heap[w.heap.size]? = some (.cells #[.int .i64 (usedF (fs.take i) : Int)] 3 (0, 0)) ∧ W0.grownBy w1 (some w.heap.size), ⟨?_, ?_⟩, ?_, ?_, ?_⟩
      · rw [hb.block w.heap.size (by omega)]
        exact hU0
      · exact grown_refl _ _
      · rintro i w1 ⟨_, hg⟩ g hg1 hg2
        exact hg.block g hg2 (fun e => by have := Option.some.inj e; omega)
      · rintro i hi w1 ⟨hU, hg⟩
        have hs : ∀ g, g < w.heap.size → w1.heap[g]? = w.heap[g]? := fun g hlt => (hg.block g (Nat.lt_of_lt_of_le hlt hbW.size) (fun e => by have := Option.some.inj e; omega)).trans (hbW.block g hlt)
        have h1 := h.still hs
        refine ⟨h1.c1, h1.lookAt i hi, ?_⟩
        have hx := h1.file _ (List.getElem_mem hi)
        have hle := usedF_take_le fs (i + 1)
        have hu := h.used_le
        rw [usedF_take fs i hi] at hle
        refine (used1_calls (str fs[i].1) fs[i].2.1 w.heap.size _ _ _ _ w1 hU hx.c0 (by omega)).mono ?_
        rintro e w2 ⟨rfl, hU2, hg2, _⟩
        refine ⟨rfl, ?_, hg.trans hg2⟩
        rw [usedF_take fs i hi]
        exact hU2
      · rintro w1 ⟨hU, hg⟩
        rw [List.take_length] at hU
        refine ⟨by rw [h.usedS]; exact hU, ?_⟩
        exact hbW.grown hg hbW.size (fun g e => by have := Option.some.inj e; omega)))
  clear h b0 hW hU0
  go_enter Tryz.func79, Tryz.ntmps79
  go_wp2_with (go_at_call 72; refine (unhide EC).mono ?_; rintro e W ⟨rfl, hU, hB⟩; have c0 := fcell hU 0 _ rfl; have HB := hide hB; clear hU hB)
  go_ret
  exact ⟨rfl, unhide HB⟩
end
end Go.Proofs.YtijcpmbfhfppmaaGreatDoor
