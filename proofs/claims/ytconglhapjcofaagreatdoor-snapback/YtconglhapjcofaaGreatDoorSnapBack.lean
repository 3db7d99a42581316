/- Proved: what is put is got as it was, and no other bytes are taken for a snapshot, for every snapshot and bytes; no condition beyond the tables that the row lists (tz_of). -/
import Derived.Test.YtconglhapjcofaaGreatDoorB10
import Derived.Test.YtconglhapjcofaaGreatDoorB26
import Derived.Test.YtconglhapjcofaaGreatDoorTie
import Derived.Test.YtconglhapjcofaaGreatDoorCards
import Derived.Lay
import Derived.MakeChecks
import Derived.SevenTiedAt
import Derived.Stop.Joined
import Derived.Test.YtconglhapjcofaaGreatDoorSnapBackP
namespace Go.Proofs.YtconglhapjcofaaGreatDoor.snapBack
open Go.ChangeShapes Go.WideShapes Go.ChangeAt Go.RowKit
set_option linter.unusedVariables false
set_option maxRecDepth 20000 in
set_option maxHeartbeats 4000000 in
theorem card : Rows.SnapBackCardSaid :=
  Claim7.holds_tied_plain_at .later [] [.data, .data, .data, .sentinel, .sentinel] true (true, "47e1503061fd0d687396750ae6caf10e065bcc1968c15fd97e1be8151e6b2c92") true proved (fun _ h => by cases h) (by as_aux_lemma => kernel_rfl) (fun _ h => by cases h) snapBack_row_tie rfl ⟨rfl, rfl⟩ (by as_aux_lemma => kernel_rfl) rfl
    (fun f fn hf hfn => by
      obtain rfl : f = 6 := Option.some.inj ((show Tryz.prog.funcNamed "tollgate/tollgatelaw07.SnapBack" = some 6 by as_aux_lemma => kernel_rfl).symm.trans hf) |>.symm
      obtain rfl : fn = Tryz.f6 := (Option.some.inj (Tryz.func6.symm.trans hfn)).symm
      exact ⟨by as_aux_lemma => kernel_rfl, fun j t ht => by
        rw [Tryz.params6] at ht
        have hm : t ∈ [29, 27] := by simpa using Array.mem_of_getElem? ht
        have hall : ([29, 27].all fun u => !Tryz.prog.wantsStandIn u) = true := by as_aux_lemma => kernel_rfl
        exact (show Tryz.prog.wantsStandIn t = false by simpa using List.all_eq_true.1 hall t hm)⟩)
    (by as_aux_lemma => kernel_rfl)
end Go.Proofs.YtconglhapjcofaaGreatDoor.snapBack
namespace Go.Proofs.YtconglhapjcofaaGreatDoor
theorem snapBack_holds : Rows.SnapBackCardSaid := snapBack.card
#print axioms snapBack_holds
end Go.Proofs.YtconglhapjcofaaGreatDoor
