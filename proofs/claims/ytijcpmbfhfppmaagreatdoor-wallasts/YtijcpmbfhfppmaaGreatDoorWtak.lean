/- The contract of wire.TakeNumber. -/
import Derived.Test.YtijcpmbfhfppmaaGreatDoorKpt
namespace Go.Proofs.YtijcpmbfhfppmaaGreatDoor
open Go.ChangeShapes Go.WideShapes Go.ChangeAt Go.RowKit

theorem take_arg (a : Option Addr) (c : Nat) (l : List Nat) (k : Int) (w : World) (h : ¬ (0 ≤ k ∧ k ≤ (l.length : Int))) :
    Calls Tryz.prog 185 #[.slice a l.length c, .int .i64 k] w fun e w' => e = .returned (.tuple #[.int .i64 0, .int .i64 0, .int .i64 2]) ∧ w' = w := by
  have H := hide h
  clear h
  go_enter Tryz.func185, Tryz.ntmps185
  go_wp2_with fail
  refine (within_no k 0 l.length _ (unhide H)).mono ?_
  rintro e w' ⟨rfl, rfl⟩
  go_wp2
  go_ret3
  exact ⟨rfl, rfl⟩
theorem enter_take (c : Array Value) (w : World) : (callFunc 210 c).run Tryz.prog w = .ok (.enter 210 c) w := by
  simp [callFunc, go_sem, Tryz.func210]
  rw [if_neg (by decide +kernel), if_neg (fun h => by cases h)]
theorem take1_ok (R N : Nat) (z : Int) (a : Option Addr) (c : Nat) (l : List Nat) (k n k2 : Nat) (w : World) (h : RdAt R w a c l k) (hl : l.length ≤ maxLen) (hN : w.heap[N]? = some (.cells #[.int .i64 z] 3 (0, 0))) (hne : N ≠ R) (ht : takeN l k = (0, n, k2)) :
    Calls Tryz.prog 210 #[.pointer (some ⟨R, 0, none⟩), .pointer (some ⟨N, 0, none⟩)] w fun e w' => e = .returned (.tuple #[]) ∧ w'.heap[N]? = some (.cells #[.int .i64 (n : Int)] 3 (0, 0)) ∧ w'.heap[R]? = some (.cells #[.slice a l.length c, .int .i64 (k2 : Int)] 242 (0, 0)) ∧ Kept R N w w' := by
  have HN := hide hN
  have HR := hide h
  clear hN h
  go_enter Tryz.func210, Tryz.ntmps210
  go_wp2_with fail
  refine (number_ok R a c l k n k2 _ (unhide HR) hl ht).mono ?_
  rintro e w1 ⟨rfl, hr1, hg1⟩
  have hN1 : w1.heap[N]? = some (.cells #[.int .i64 z] 3 (0, 0)) := (hg1.block N (Array.getElem?_eq_some_iff.1 (unhide HN)).1 (fun e => hne (Option.some.inj e))).trans (unhide HN)
  have hc : w1.cell? ⟨N, 0, none⟩ = some (.int .i64 z) := by rw [cell_of_row _ _ 0 _ _ _ hN1]; rfl
  have hz : w1.frozen? ⟨N, 0, none⟩ = false := by simp [World.frozen?, hN1]
  have hN2 := heap_setCell_same w1 N 0 _ 3 (.int .i64 (n : Int)) hN1
  have H2 := hide hN2
  have HR1 := hide hr1
  have HG1 := hide hg1
  clear hN1 hN2 hr1 hg1
  go_wp2
  go_end0
  refine ⟨rfl, unhide H2, ?_, (Kept.ofGrown (unhide HG1)).trans (Kept.ofGrown' (grown_set _ _ _ _))⟩
  rw [heap_setCell_other _ _ _ _ (fun e => hne e.symm)]
  exact (unhide HR1).blk
theorem take1_bad (R N : Nat) (a : Option Addr) (c : Nat) (l : List Nat) (k x : Nat) (w : World) (h : RdAt R w a c l k) (hl : l.length ≤ maxLen) (ht : (takeN l k).1 = x) (hx : x ≠ 0) :
    Calls Tryz.prog 210 #[.pointer (some ⟨R, 0, none⟩), .pointer (some ⟨N, 0, none⟩)] w fun e w' => e = .panicked (given x) ∧ Kept R N w w' := by
  have HR := hide h
  clear h
  go_enter Tryz.func210, Tryz.ntmps210
  go_wp2_with fail
  refine (number_bad R a c l k x _ (unhide HR) hl ht hx).mono ?_
  rintro e w1 ⟨rfl, ⟨k', hr1⟩, hg1⟩
  go_wp2
  exact ⟨rfl, rfl, Kept.ofGrown hg1⟩

theorem take_ok (a : Option Addr) (m c : Nat) (l : List Nat) (k n k2 : Nat) (kk : Int) (w : World) (hm : l.length = m) (hkk : kk = (k : Int)) (hl : l.length ≤ maxLen) (hk : k ≤ l.length) (hb : BytesAt w a l) (ht : takeN l k = (0, n, k2)) :
    Calls Tryz.prog 185 #[.slice a m c, .int .i64 kk] w fun e w' => e = .returned (.tuple #[.int .i64 (n : Int), .int .i64 (k2 : Int), .int .i64 0]) ∧ Below w.heap.size w w' := by
  subst hm hkk
  have HB := hide hb
  have HT := hide ht
  have HL := hide hl
  clear hb ht hl
  have hmf : ∀ (fn : Fn) (first cap : Array Value) (w : World), (Instr.makeFunc fn first cap).run Tryz.prog w = .ok (.func fn first cap) w := fun _ _ _ _ => rfl
  go_enter Tryz.func185, Tryz.ntmps185
  go_wp2_with fail
  refine (within_yes k 0 l.length _ ⟨by omega, by omega⟩).mono ?_
  rintro e w' ⟨rfl, rfl⟩
  go_wp2_with fail
  have hN0 := heap_new w' (.cells #[.int .i64 0] 3)
  have hR0 := heap_new (w'.alloc (.cells #[.int .i64 0] 3)) (.cells #[.slice a l.length c, .int .i64 (k : Int)] 242)
  have hN1 := heap_old (.cells #[.slice a l.length c, .int .i64 (k : Int)] 242) hN0
  rw [size_alloc] at hR0
  have hbl : Below w'.heap.size w' ((w'.alloc (.cells #[.int .i64 0] 3)).alloc (.cells #[.slice a l.length c, .int .i64 (k : Int)] 242)) := ((Below.refl _ _).alloc (Nat.le_refl _) _).alloc (by rw [size_alloc]; omega) _
  have hsz : ((w'.alloc (.cells #[.int .i64 0] 3)).alloc (.cells #[.slice a l.length c, .int .i64 (k : Int)] 242)).heap.size = w'.heap.size + 2 := by rw [size_alloc, size_alloc]
  generalize (w'.alloc (.cells #[.int .i64 0] 3)).alloc (.cells #[.slice a l.length c, .int .i64 (k : Int)] 242) = W at *
  have hbl2 : Below w'.heap.size w' (W.alloc (.cells #[.int .i64 0] 49)) := hbl.alloc hbl.size _
  have hE := heap_new W (.cells #[.int .i64 0] 49)
  have hr := rd_new (unhide HB) hbl2 (Nat.le_succ _) (heap_old _ hR0) hk
  have hN2 := heap_old (.cells #[.int .i64 0] 49) hN1
  refine (caught_calls 210 _ W enter_take _ (take1_ok (w'.heap.size + 1) w'.heap.size 0 a c l k n k2 _ hr (unhide HL) hN2 (by omega) (unhide HT)) ?_ ?_).mono ?_
  · rintro e w1 ⟨_, _, _, hk1⟩
    exact (hk1.block _ (by rw [size_alloc]; omega) (by omega) (by omega)).trans hE
  · rintro e w1 ⟨rfl, _⟩
    exact .inl rfl
  · rintro e w2 ⟨e1, w1, ⟨rfl, h1, h2, hk1⟩, hg, ⟨_, rfl⟩ | ⟨x, hx, _⟩⟩
    · have h1' : w2.heap[w'.heap.size]? = _ := (hg.block _ (Array.getElem?_eq_some_iff.1 h1).1 (fun e => by have := Option.some.inj e; omega)).trans h1
      have h2' : w2.heap[w'.heap.size + 1]? = _ := (hg.block _ (Array.getElem?_eq_some_iff.1 h2).1 (fun e => by have := Option.some.inj e; omega)).trans h2
      have c1 : w2.cell? ⟨w'.heap.size, 0, none⟩ = some (.int .i64 (n : Int)) := by rw [cell_of_row _ _ 0 _ _ _ h1']; rfl
      have c2 : w2.cell? ⟨w'.heap.size + 1, 1, none⟩ = some (.int .i64 (k2 : Int)) := by rw [cell_of_row _ _ 1 _ _ _ h2']; rfl
      have HF := hide ((hbl2.trans (hk1.below (by rw [size_alloc]; omega) (by omega) (Nat.le_refl _))).trans ((Below.refl w'.heap.size w1).grown hg (by have := hk1.size; rw [size_alloc] at this; omega) (fun j e => by have := Option.some.inj e; omega)))
      clear h1 h2 h1' h2' hk1 hg hE hr hN2 hN1 hN0 hR0 hbl hbl2
      go_wp2_with fail
      go_quiet (fail)
      go_wp2
      go_ret3
      exact ⟨rfl, below_drewN (unhide HF) _⟩
    · cases hx
theorem take_bad (a : Option Addr) (m c : Nat) (l : List Nat) (k x : Nat) (kk : Int) (w : World) (hm : l.length = m) (hkk : kk = (k : Int)) (hl : l.length ≤ maxLen) (hk : k ≤ l.length) (hb : BytesAt w a l) (ht : (takeN l k).1 = x) (hx : x ≠ 0) :
    Calls Tryz.prog 185 #[.slice a m c, .int .i64 kk] w fun e w' => e = .returned (.tuple #[.int .i64 0, .int .i64 0, .int .i64 (x : Int)]) ∧ Below w.heap.size w w' := by
  subst hm hkk
  have HB := hide hb
  have HT := hide ht
  have HL := hide hl
  clear hb ht hl
  have hmf : ∀ (fn : Fn) (first cap : Array Value) (w : World), (Instr.makeFunc fn first cap).run Tryz.prog w = .ok (.func fn first cap) w := fun _ _ _ _ => rfl
  go_enter Tryz.func185, Tryz.ntmps185
  go_wp2_with fail
  refine (within_yes k 0 l.length _ ⟨by omega, by omega⟩).mono ?_
  rintro e w' ⟨rfl, rfl⟩
  go_wp2_with fail
  have hR0 := heap_new (w'.alloc (.cells #[.int .i64 0] 3)) (.cells #[.slice a l.length c, .int .i64 (k : Int)] 242)
  rw [size_alloc] at hR0
  have hbl : Below w'.heap.size w' ((w'.alloc (.cells #[.int .i64 0] 3)).alloc (.cells #[.slice a l.length c, .int .i64 (k : Int)] 242)) := ((Below.refl _ _).alloc (Nat.le_refl _) _).alloc (by rw [size_alloc]; omega) _
  have hsz : ((w'.alloc (.cells #[.int .i64 0] 3)).alloc (.cells #[.slice a l.length c, .int .i64 (k : Int)] 242)).heap.size = w'.heap.size + 2 := by rw [size_alloc, size_alloc]
  generalize (w'.alloc (.cells #[.int .i64 0] 3)).alloc (.cells #[.slice a l.length c, .int .i64 (k : Int)] 242) = W at *
  have hbl2 : Below w'.heap.size w' (W.alloc (.cells #[.int .i64 0] 49)) := hbl.alloc hbl.size _
  have hE := heap_new W (.cells #[.int .i64 0] 49)
  have hr := rd_new (unhide HB) hbl2 (Nat.le_succ _) (heap_old _ hR0) hk
  refine (caught_calls 210 _ W enter_take _ (take1_bad (w'.heap.size + 1) w'.heap.size a c l k x _ hr (unhide HL) (unhide HT) hx) ?_ ?_).mono ?_
  · rintro e w1 ⟨_, hk1⟩
    exact (hk1.block _ (by rw [size_alloc]; omega) (by omega) (by omega)).trans hE
  · rintro e w1 ⟨rfl, _⟩
    exact .inr ⟨x, rfl⟩
  · rintro e w2 ⟨e1, w1, ⟨rfl, hk1⟩, hg, ⟨hx, _⟩ | ⟨y, hy, rfl⟩⟩
    · cases hx
    · have hxy : y = x := by
        simp only [given, Ending.panicked.injEq, List.cons.injEq, PanicEntry.mk.injEq, Value.iface.injEq, Value.agg.injEq, and_true, true_and] at hy
        have := congrArg (fun z : Array Value => z[0]?) hy
        simp at this
        omega
      subst hxy
      have HF := hide ((hbl2.trans (hk1.below (by rw [size_alloc]; omega) (by omega) (Nat.le_refl _))).trans ((Below.refl w'.heap.size w1).grown hg (by have := hk1.size; rw [size_alloc] at this; omega) (fun j e => by have := Option.some.inj e; omega)))
      clear hk1 hg hE hr hR0 hbl hbl2
      have hx0 : ¬ (y : Int) = 0 := by omega
      go_wp2
      go_ret3
      exact ⟨rfl, unhide HF⟩
end Go.Proofs.YtijcpmbfhfppmaaGreatDoor
