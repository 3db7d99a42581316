/- The contract of wire.caught: what a reading that is given up answers. -/
import Derived.Test.YtpkpnedcecjlbaaGreatDoorB04
import Derived.Recover
namespace Go.Proofs.YtpkpnedcecjlbaaGreatDoor
open Go.ChangeShapes Go.WideShapes Go.ChangeAt Go.RowKit

theorem run_assert_fault (v : Value) (w : World) : (Instr.typeAssert (.iface 142 v) 20 142 true).run Tryz.prog w = .ok (.tuple #[v, .bool true]) w := by
  simp [Instr.typeAssert, go_sem]
theorem catch_fault (B k : Nat) (w : World) (hb : w.heap[B]? = some (.cells #[.int .i64 0] 27 (0, 0))) :
    CallsD Tryz.prog 108 #[.pointer (some ⟨B, 0, none⟩)] (.panicking (given k)) w fun e u' w' =>
      e = .returned (.tuple #[]) ∧ u' = .panicking [{ v := .iface 142 (.agg #[.int .i64 (k : Int)]), recovered := true }] ∧ w' = (w.alloc (.cells #[.int .i64 (k : Int)] 142)).setCell ⟨B, 0, none⟩ (.int .i64 (k : Int)) := by
  have hlt := (Array.getElem?_eq_some_iff.1 hb).1
  have hb' : (w.alloc (.cells #[.int .i64 (k : Int)] 142)).heap[B]? = some (.cells #[.int .i64 0] 27 (0, 0)) := (Below.heap_alloc w _ B hlt).trans hb
  have hc : (w.alloc (.cells #[.int .i64 (k : Int)] 142)).cell? ⟨B, 0, none⟩ = some (.int .i64 0) := by rw [cell_of_row _ B 0 _ _ _ hb']; rfl
  have hz : (w.alloc (.cells #[.int .i64 (k : Int)] 142)).frozen? ⟨B, 0, none⟩ = false := by simp [World.frozen?, hb']
  clear hb hb' hlt
  refine callsD_of_wpS Tryz.func108 rfl fun c₀ cs hu => ?_
  apply wpS_seq
  apply wpS_region
  simp [wpOpsS, go_sem, recoverD, hu, Tryz.ntmps108, Exit.thenS]
  simp only [Array.replicate, List.replicate]
  have ha := run_assert_fault
  apply wpS_of_wp
  go_wp2
  simp [bodyPostS, results, Tryz.results108]
theorem catch_idle (B : Nat) (w : World) :
    CallsD Tryz.prog 108 #[.pointer (some ⟨B, 0, none⟩)] .returning w fun e u' w' => e = .returned (.tuple #[]) ∧ u' = .returning ∧ w' = w := by
  refine callsD_of_wpS Tryz.func108 rfl fun c₀ cs hu => ?_
  apply wpS_seq
  apply wpS_region
  simp [wpOpsS, go_sem, recoverD, hu, Tryz.ntmps108, Exit.thenS]
  apply wpS_of_wp
  go_wp2
  cases c₀
  simp_all [bodyPostS, results, Tryz.results108]

theorem caught_calls (K : Nat) (caps : Array Value) (w : World) (hK : ∀ (c : Array Value) (w : World), (callFunc K c).run Tryz.prog w = .ok (.enter K c) w) (S : Ending → World → Prop) (hS : Calls Tryz.prog K caps (w.alloc (.cells #[.int .i64 0] 27)) S)
    (hb : ∀ e w', S e w' → w'.heap[w.heap.size]? = some (.cells #[.int .i64 0] 27 (0, 0))) (he : ∀ e w', S e w' → e = .returned (.tuple #[]) ∨ ∃ k : Nat, e = .panicked (given k)) :
    Calls Tryz.prog 93 #[.func (.func K) #[] caps] w fun e w' => ∃ e1 w1, S e1 w1 ∧ w1.grownBy w' (some w.heap.size) ∧ (e1 = .returned (.tuple #[]) ∧ e = .returned (.int .i64 0) ∨ ∃ k : Nat, e1 = .panicked (given k) ∧ e = .returned (.int .i64 (k : Int))) := by
  have hmf : ∀ (fn : Fn) (first cap : Array Value) (w : World), (Instr.makeFunc fn first cap).run Tryz.prog w = .ok (.func fn first cap) w := fun _ _ _ _ => rfl
  have HS := hide hS
  have HB := hide hb
  have HE := hide he
  clear hS hb he
  go_enter_defers Tryz.func93, Tryz.ntmps93
  go_wp2_with fail
  refine (unhide HS).mono ?_
  intro e w1 hs
  have hb1 := unhide HB _ _ hs
  have hlt := (Array.getElem?_eq_some_iff.1 hb1).1
  have hc : w1.cell? ⟨w.heap.size, 0, none⟩ = some (.int .i64 0) := by rw [cell_of_row _ _ 0 _ _ _ hb1]; rfl
  have hz : w1.frozen? ⟨w.heap.size, 0, none⟩ = false := by simp [World.frozen?, hb1]
  rcases unhide HE _ _ hs with rfl | ⟨k, rfl⟩
  · have H1 := hide hb1
    have HS1 := hide hs
    clear hb1 hs
    have hc2 : (w1.setCell ⟨w.heap.size, 0, none⟩ (.int .i64 0)).cell? ⟨w.heap.size, 0, none⟩ = some (.int .i64 0) := by
      have := heap_setCell_same w1 w.heap.size 0 _ 27 (.int .i64 0) (unhide H1)
      rw [cell_of_row _ _ 0 _ _ _ this]; rfl
    go_wp2_with fail
    refine leaves_cons (f := 108) (args := #[.pointer (some ⟨w.heap.size, 0, none⟩)]) (by simp) (by simp [go_sem]) ?_
    refine (catch_idle w.heap.size _).mono ?_
    rintro e u' w'' ⟨rfl, rfl, rfl⟩
    simp [Leaves, settle, results, Tryz.results93, go_sem, hc2]
    exact ⟨_, w1, unhide HS1, grown_set _ _ _ _, .inl rfl⟩
  · have H1 := hide hb1
    have HS1 := hide hs
    clear hb1 hs
    have hb2 := (Below.heap_alloc w1 (.cells #[.int .i64 (k : Int)] 142) _ hlt).trans (unhide H1)
    have hc2 : ((w1.alloc (.cells #[.int .i64 (k : Int)] 142)).setCell ⟨w.heap.size, 0, none⟩ (.int .i64 (k : Int))).cell? ⟨w.heap.size, 0, none⟩ = some (.int .i64 (k : Int)) := by
      have := heap_setCell_same _ w.heap.size 0 _ 27 (.int .i64 (k : Int)) hb2
      rw [cell_of_row _ _ 0 _ _ _ this]; rfl
    clear hb2
    go_wp2_with fail
    refine leaves_cons (f := 108) (args := #[.pointer (some ⟨w.heap.size, 0, none⟩)]) (by simp) (by simp [go_sem]) ?_
    refine (catch_fault w.heap.size k _ (unhide H1)).mono ?_
    rintro e u' w'' ⟨rfl, rfl, rfl⟩
    simp [Leaves, settle, results, Tryz.results93, go_sem, hc2]
    exact ⟨_, w1, unhide HS1, grown_trans (grown_below _ ((Below.refl _ _).alloc (Nat.le_refl _) _)) (grown_set _ _ _ _), .inr ⟨k, rfl, rfl⟩⟩
end Go.Proofs.YtpkpnedcecjlbaaGreatDoor
