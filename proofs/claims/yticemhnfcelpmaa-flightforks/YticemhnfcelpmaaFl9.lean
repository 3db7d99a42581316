/- Flight: what Part and Take pick; lose, Part. -/
import Derived.Test.YticemhnfcelpmaaFl8
import Derived.RegionTactic
import Derived.Laws.StructEq
namespace Go.Proofs.Yticemhnfcelpmaa
open Go.ChangeShapes Go.WideShapes Go.ChangeAt Go.RowKit Go.Maps

def ofLink (f t : Int) (p : Pkt) : Bool := decide (p.2.1 = f) && decide (p.2.2.1 = t)
theorem enter_part (c : Array Value) (w : World) : (callFunc 46 c).run Try.prog w = .ok (.enter 46 c) w := by
  simp [callFunc, go_sem, Try.func46]
  rw [if_neg (by decide +kernel), if_neg (fun h => by cases h)]
theorem enter_take (c : Array Value) (w : World) : (callFunc 25 c).run Try.prog w = .ok (.enter 25 c) w := by
  simp [callFunc, go_sem, Try.func25]
  rw [if_neg (by decide +kernel), if_neg (fun h => by cases h)]
theorem eqLink (a b c d : Int) (w : World) : (binOp .eql 56 (.agg #[.int .i64 a, .int .i64 b]) (.agg #[.int .i64 c, .int .i64 d])).run Try.prog w = .ok (.bool (decide (a = c) && decide (b = d))) w := by
  have u3 := Try.underlying3
  have a3 := Try.isAgg3
  have z3 := Try.sizeOf3
  have hS : Try.prog.underlying 56 = some (.struct (Try.prog.fieldsOf 56)) := by kernel_rfl
  have hp : Try.prog.stoodInHeld 56 = false := by kernel_rfl
  rw [run_eql_struct, show (10000 : Nat) = 9999 + 1 from rfl, run_equalIn_agg w 9999 56 _ _ hS hp]
  simp only [Program.fieldsOf, Try.underlying56]
  go_simp
  by_cases h1 : a = c <;> by_cases h2 : b = d <;> simp [h1, h2]
theorem part_picks (B : Nat) (f t : Int) : Picker 46 #[.pointer (some ⟨B, 0, none⟩)] (ofLink f t) B (.cells #[.int .i64 f, .int .i64 t] 56) := by
  refine ⟨enter_part, fun x w hB => ?_⟩
  obtain ⟨⟨id, f', t', l⟩, dp, dc⟩ := x
  have h0 := heap_new w (.cells #[.int .i64 id, .int .i64 f', .int .i64 t', .slice dp l.length dc] 35)
  have c1 := box_cell h0 1 _ rfl
  have c2 := box_cell h0 2 _ rfl
  have bA := hide (show Below w.heap.size w (w.alloc (.cells #[.int .i64 id, .int .i64 f', .int .i64 t', .slice dp l.length dc] 35)) from (Below.refl _ _).alloc (Nat.le_refl _) _)
  have hB' := later_block (unhide bA) hB
  have d0 := box_cell hB' 0 _ rfl
  have d1 := box_cell hB' 1 _ rfl
  have he := eqLink f' t' f t
  clear h0 hB hB'
  go_enter Try.func46, Try.ntmps46
  go_wp2
  go_ret
  exact ⟨rfl, unhide bA⟩
end Go.Proofs.Yticemhnfcelpmaa
