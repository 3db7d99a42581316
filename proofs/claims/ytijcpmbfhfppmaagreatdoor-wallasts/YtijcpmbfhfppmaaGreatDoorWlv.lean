/- Logs: live, plainly. -/
import Derived.Test.YtijcpmbfhfppmaaGreatDoorWgn
namespace Go.Proofs.YtijcpmbfhfppmaaGreatDoor
open Go.ChangeShapes Go.WideShapes Go.ChangeAt Go.RowKit
set_option linter.unusedVariables false
set_option maxRecDepth 100000

def lv1 : Ds := (wOpen 1000 []).2.1
def lvc : Wc := ⟨0, 0, 0, 0, [(1, 2, 1, [])]⟩
def lv2 : Ds := (wAppend 1000 1 wc0 [(1, 2, 1, [])] lv1).2.1
def lv3 : Ds := (dSync (walNm 1) lv2).2
def lv4 : Ds := (wHard 1000 1 lvc 3 1 lv3).2.1
def lv5 : Ds := crashS [] 0 lv4
def lv6 : Ds := (wOpen 1000 lv5).2.1
theorem lv1_is : wOpen 1000 [] = (0, lv1, some (wc0, 1)) := by kernel_rfl
theorem lv2_is : wAppend 1000 1 wc0 [(1, 2, 1, [])] lv1 = (0, lv2, lvc, 1) := by kernel_rfl
theorem lv3_is : dSync (walNm 1) lv2 = (0, lv3) := by kernel_rfl
theorem lv4_is : wHard 1000 1 lvc 3 1 lv3 = (0, lv4, ⟨0, 0, 3, 1, [(1, 2, 1, [])]⟩, 1) := by kernel_rfl
theorem lv6_is : wOpen 1000 lv5 = (0, lv6, some (lvc, 1)) := by kernel_rfl
end Go.Proofs.YtijcpmbfhfppmaaGreatDoor
