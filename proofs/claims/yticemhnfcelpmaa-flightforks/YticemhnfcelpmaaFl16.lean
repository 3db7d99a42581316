/- Flight: the document's SamePacket. -/
import Derived.Test.YticemhnfcelpmaaFl15
namespace Go.Proofs.Yticemhnfcelpmaa
open Go.ChangeShapes Go.WideShapes Go.ChangeAt Go.RowKit Go.Maps

theorem str_eq_same (l : List Nat) : ((strOf l).toList == (strOf l).toList) = true := by simp
def pkB (i f t : Int) (a : Option Addr) (n c : Nat) : Obj := .cells #[.int .i64 i, .int .i64 f, .int .i64 t, .slice a n c] 35 (0, 0)
theorem pkB_cells {w : World} {B : Nat} {i f t : Int} {a : Option Addr} {n c : Nat} (h : w.heap[B]? = some (pkB i f t a n c)) : w.cell? ⟨B, 0, none⟩ = some (.int .i64 i) ∧ w.cell? ⟨B, 1, none⟩ = some (.int .i64 f) ∧ w.cell? ⟨B, 2, none⟩ = some (.int .i64 t) ∧ w.cell? ⟨B, 3, none⟩ = some (.slice a n c) :=
  ⟨box_cell h 0 _ rfl, box_cell h 1 _ rfl, box_cell h 2 _ rfl, box_cell h 3 _ rfl⟩
set_option maxHeartbeats 1000000 in
theorem samePacket_yes (i f t : Int) (a a' : Option Addr) (n n' c c' : Nat) (l : List Nat) (w : World) (hn : l.length = n) (hn' : l.length = n') (hb : BytesAt w a l) (hb' : BytesAt w a' l) :
    Calls Try.prog 9 #[.agg #[.int .i64 i, .int .i64 f, .int .i64 t, .slice a n c], .agg #[.int .i64 i, .int .i64 f, .int .i64 t, .slice a' n' c']] w fun e w' => e = .returned (.bool true) ∧ Below w.heap.size w w' := by
  have x0 := heap_old (pkB i f t a' n' c') (heap_new w (pkB i f t a n c))
  have x1 := heap_new (w.alloc (pkB i f t a n c)) (pkB i f t a' n' c')
  rw [size_alloc] at x1
  obtain ⟨c0, c1, c2, c3⟩ := pkB_cells x0
  obtain ⟨d0, d1, d2, d3⟩ := pkB_cells x1
  have bA : Below w.heap.size w ((w.alloc (pkB i f t a n c)).alloc (pkB i f t a' n' c')) := ((Below.refl _ _).alloc (Nat.le_refl _) _).alloc (by rw [size_alloc]; omega) _
  have s1 := run_string8 (c := c) n hn (hb.later bA)
  have s2 := run_string8 (c := c') n' hn' (hb'.later bA)
  have t1 := str_eq_same l
  have BA := hide bA
  simp only [pkB] at c0 c1 c2 c3 d0 d1 d2 d3 s1 s2
  clear x0 x1 bA hb hb' hn hn'
  go_enter Try.func9, Try.ntmps9
  go_wp2
  go_ret
  exact ⟨rfl, unhide BA⟩
end Go.Proofs.Yticemhnfcelpmaa
