/- Flight: what Part and Take pick; lose, Part. -/
import Derived.Test.YtiapcpcdhonefaaFl8
import Derived.RegionTactic
import Derived.Laws.StructEq
namespace Go.Proofs.Ytiapcpcdhonefaa
open Go.ChangeShapes Go.WideShapes Go.ChangeAt Go.RowKit Go.Maps

def ofLink (f t : Int) (p : Pkt) : Bool := decide (p.2.1 = f) && decide (p.2.2.1 = t)
theorem enter_take (c : Array Value) (w : World) : (callFunc 20 c).run Try.prog w = .ok (.enter 20 c) w := by
  simp [callFunc, go_sem, Try.func20]
  rw [if_neg (by decide +kernel), if_neg (fun h => by cases h)]
theorem eqLink (a b c d : Int) (w : World) : (binOp .eql 54 (.agg #[.int .i64 a, .int .i64 b]) (.agg #[.int .i64 c, .int .i64 d])).run Try.prog w = .ok (.bool (decide (a = c) && decide (b = d))) w := by
  have u3 := Try.underlying3
  have a3 := Try.isAgg3
  have z3 := Try.sizeOf3
  have hS : Try.prog.underlying 54 = some (.struct (Try.prog.fieldsOf 54)) := by kernel_rfl
  have hp : Try.prog.stoodInHeld 54 = false := by kernel_rfl
  rw [run_eql_struct, show (10000 : Nat) = 9999 + 1 from rfl, run_equalIn_agg w 9999 54 _ _ hS hp]
  simp only [Program.fieldsOf, Try.underlying54]
  go_simp
  by_cases h1 : a = c <;> by_cases h2 : b = d <;> simp [h1, h2]
end Go.Proofs.Ytiapcpcdhonefaa
