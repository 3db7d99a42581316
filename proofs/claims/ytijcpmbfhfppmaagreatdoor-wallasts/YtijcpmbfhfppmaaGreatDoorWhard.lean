/- The contract of wire.PutHard. -/
import Derived.Test.YtijcpmbfhfppmaaGreatDoorWput
namespace Go.Proofs.YtijcpmbfhfppmaaGreatDoor
open Go.ChangeShapes Go.WideShapes Go.ChangeAt Go.RowKit

theorem size_alloc (w : World) (o : Obj) : (w.alloc o).heap.size = w.heap.size + 1 := by simp
theorem heap_old {w : World} {g : Nat} {x : Obj} (o : Obj) (h : w.heap[g]? = some x) : (w.alloc o).heap[g]? = some x :=
  (Below.heap_alloc w o g (Array.getElem?_eq_some_iff.1 h).1).trans h
theorem numB_short (n : Nat) (h : n ≤ 1099511627776) : (numB n).length ≤ 6 := by
  have key : ∀ (s m : Nat), m < 128 ^ (s + 1) → (numB m).length ≤ s + 1 := by
    intro s
    induction s with
    | zero => intro m hm; rw [numB_small (by simpa using hm)]; simp
    | succ s ih =>
      intro m hm
      by_cases h : m < 128
      · rw [numB_small h]; simp
      · rw [numB_great h, List.length_cons]
        have := ih (m / 128) (by rw [Nat.div_lt_iff_lt_mul (by decide)]; rw [Nat.pow_succ] at hm; exact hm)
        omega
  exact key 5 n (by omega)
set_option maxHeartbeats 1000000 in
theorem putHard_yes (t v : Nat) (w : World) (ht : t ≤ 1099511627776) (hv : v ≤ 9) :
    Calls Tryz.prog 106 #[.agg #[.int .i64 (t : Int), .int .i64 (v : Int)]] w fun e w' => ∃ sp n c, e = .returned (.tuple #[.slice sp n c, .int .i64 0]) ∧ Hid ((numB t ++ numB v).length = n) ∧ OwnB w.heap.size w' sp c (numB t ++ numB v) ∧ Below w.heap.size w w' := by
  have h0 := heap_new w (.cells #[.int .i64 (t : Int), .int .i64 (v : Int)] 29)
  have c0 : (w.alloc (.cells #[.int .i64 (t : Int), .int .i64 (v : Int)] 29)).cell? ⟨w.heap.size, 0, none⟩ = some (.int .i64 (t : Int)) := by rw [cell_of_row _ _ 0 _ _ _ h0]; rfl
  have c1 : (w.alloc (.cells #[.int .i64 (t : Int), .int .i64 (v : Int)] 29)).cell? ⟨w.heap.size, 1, none⟩ = some (.int .i64 (v : Int)) := by rw [cell_of_row _ _ 1 _ _ _ h0]; rfl
  have bA := hide (show Below w.heap.size w (w.alloc (.cells #[.int .i64 (t : Int), .int .i64 (v : Int)] 29)) from (Below.refl _ _).alloc (Nat.le_refl _) _)
  have hsz := hide (size_alloc w (.cells #[.int .i64 (t : Int), .int .i64 (v : Int)] 29))
  have hl6 := hide (numB_short t ht)
  clear h0
  go_enter Tryz.func106, Tryz.ntmps106
  go_wp2_with fail
  generalize w.alloc _ = W at *
  refine (within_yes t 0 1099511627776 _ ⟨by omega, by omega⟩).mono ?_
  rintro e w1 ⟨rfl, rfl⟩
  go_wp2_with fail
  refine (within_yes v 0 9 _ ⟨by omega, by omega⟩).mono ?_
  rintro e w2 ⟨rfl, rfl⟩
  go_wp2_with fail
  go_region_held3 (fun w' => w'.cell? ⟨w.heap.size, 0, none⟩ = some (.int .i64 (t : Int)) ∧ w'.cell? ⟨w.heap.size, 1, none⟩ = some (.int .i64 (v : Int)))
    (first
      | exact ⟨((hb1.trans hb2).cell (p := ⟨w.heap.size, 0, none⟩) (Nat.lt_succ_self _)).trans c0, ((hb1.trans hb2).cell (p := ⟨w.heap.size, 1, none⟩) (Nat.lt_succ_self _)).trans c1⟩
      | exact ⟨(hb1.cell (p := ⟨w.heap.size, 0, none⟩) (Nat.lt_succ_self _)).trans c0, (hb1.cell (p := ⟨w.heap.size, 1, none⟩) (Nat.lt_succ_self _)).trans c1⟩
      | exact ⟨c0, c1⟩)
    (first
      | (go_at_call_of 140 (Value.slice none 0 0); refine (addNumber_calls (w.heap.size + 1) none 0 0 [] t _ rfl (OwnB.ofNil _ _) (by simp) ht (by exact Nat.le_of_eq (unhide hsz).symm)).mono ?_; rintro e W1 ⟨sp1, n1, k1, rfl, hn1, ho1, hb1⟩)
      | (go_at_call_of 140 (Value.slice sp1 n1 k1); refine (addNumber_calls (w.heap.size + 1) sp1 n1 k1 ([] ++ numB t) v _ (unhide hn1) ho1 (by have := unhide hl6; simp only [List.nil_append]; omega) (by omega) (by exact Nat.le_trans (Nat.le_of_eq (unhide hsz).symm) hb1.size)).mono ?_; rintro e W2 ⟨sp2, n2, k2, rfl, hn2, ho2, hb2⟩))
  rw [List.nil_append] at hn2 ho2
  have HF := hide ((unhide bA).drew.trans ((hb1.trans hb2).mono (Nat.le_succ _)))
  have HO := hide (ho2.mono (Nat.le_succ _))
  clear hb1 hb2 ho1 ho2 hn1
  go_wp2
  go_ret2
  exact ⟨sp2, n2, k2, rfl, hn2, unhide HO, unhide HF⟩
theorem putHard_no (t v : Int) (w : World) (h : ¬ (0 ≤ t ∧ t ≤ 1099511627776 ∧ 0 ≤ v ∧ v ≤ 9)) :
    Calls Tryz.prog 106 #[.agg #[.int .i64 t, .int .i64 v]] w fun e w' => e = .returned (.tuple #[.slice none 0 0, .int .i64 2]) ∧ Below w.heap.size w w' := by
  have h0 := heap_new w (.cells #[.int .i64 t, .int .i64 v] 29)
  have c0 : (w.alloc (.cells #[.int .i64 t, .int .i64 v] 29)).cell? ⟨w.heap.size, 0, none⟩ = some (.int .i64 t) := by rw [cell_of_row _ _ 0 _ _ _ h0]; rfl
  have c1 : (w.alloc (.cells #[.int .i64 t, .int .i64 v] 29)).cell? ⟨w.heap.size, 1, none⟩ = some (.int .i64 v) := by rw [cell_of_row _ _ 1 _ _ _ h0]; rfl
  have bA := hide (show Below w.heap.size w (w.alloc (.cells #[.int .i64 t, .int .i64 v] 29)) from (Below.refl _ _).alloc (Nat.le_refl _) _)
  have H := hide h
  clear h0 h
  go_enter Tryz.func106, Tryz.ntmps106
  go_wp2_with fail
  generalize w.alloc _ = W at *
  by_cases ht : 0 ≤ t ∧ t ≤ 1099511627776
  · have hv : ¬ (0 ≤ v ∧ v ≤ 9) := fun hv => unhide H ⟨ht.1, ht.2, hv.1, hv.2⟩
    refine (within_yes t 0 1099511627776 _ ht).mono ?_
    rintro e w1 ⟨rfl, rfl⟩
    have HV := hide hv
    clear hv
    go_wp2_with fail
    refine (within_no v 0 9 _ (unhide HV)).mono ?_
    rintro e w2 ⟨rfl, rfl⟩
    go_wp2
    go_ret2
    exact ⟨rfl, unhide bA⟩
  · refine (within_no t 0 1099511627776 _ ht).mono ?_
    rintro e w1 ⟨rfl, rfl⟩
    clear ht
    go_wp2
    go_ret2
    exact ⟨rfl, unhide bA⟩
end Go.Proofs.YtijcpmbfhfppmaaGreatDoor
