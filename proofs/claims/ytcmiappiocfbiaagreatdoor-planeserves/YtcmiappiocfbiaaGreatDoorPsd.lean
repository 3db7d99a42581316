/- Plane: the law PlaneSame, where it looks at nothing (under way: the rest of the walk). -/
import Derived.Test.YtcmiappiocfbiaaGreatDoorPsc
import Derived.Test.YtcmiappiocfbiaaGreatDoorPlh
import Derived.Test.YtcmiappiocfbiaaGreatDoorPl7
namespace Go.Proofs.YtcmiappiocfbiaaGreatDoor
open Go.ChangeShapes Go.WideShapes Go.ChangeAt Go.RowKit
set_option linter.unusedVariables false

set_option maxRecDepth 20000 in
set_option maxHeartbeats 8000000 in
theorem same_shortA (a : Cf) (ha : CfH) (b : Cf) (hb : CfH) (x : Pd) (hx : PdH) (w : World) (h1 : CfAt w a ha) (h2 : CfAt w b hb) (h3 : PdAt w x hx) (hs : shortC a = false) :
    Calls Tryz.prog 5 #[cfVal a ha, cfVal b hb, pdVal x hx] w fun e w' => e = .returned (.bool true) ∧ Below w.heap.size w w' := by
  have b1 : Below w.heap.size w (w.alloc (.cells #[.int .i64 a.ver, .slice ha.ra a.rs.length ha.rc, .slice ha.pa a.ps.length ha.pc] 28)) := (Below.refl _ _).alloc (Nat.le_refl _) _
  have X1 := heap_new w (.cells #[.int .i64 a.ver, .slice ha.ra a.rs.length ha.rc, .slice ha.pa a.ps.length ha.pc] 28)
  have b2 : Below (w.alloc (.cells #[.int .i64 a.ver, .slice ha.ra a.rs.length ha.rc, .slice ha.pa a.ps.length ha.pc] 28)).heap.size (w.alloc (.cells #[.int .i64 a.ver, .slice ha.ra a.rs.length ha.rc, .slice ha.pa a.ps.length ha.pc] 28)) ((w.alloc (.cells #[.int .i64 a.ver, .slice ha.ra a.rs.length ha.rc, .slice ha.pa a.ps.length ha.pc] 28)).alloc (.cells #[.int .i64 b.ver, .slice hb.ra b.rs.length hb.rc, .slice hb.pa b.ps.length hb.pc] 28)) := (Below.refl _ _).alloc (Nat.le_refl _) _
  have b3 := ((Below.refl ((w.alloc (.cells #[.int .i64 a.ver, .slice ha.ra a.rs.length ha.rc, .slice ha.pa a.ps.length ha.pc] 28)).alloc (.cells #[.int .i64 b.ver, .slice hb.ra b.rs.length hb.rc, .slice hb.pa b.ps.length hb.pc] 28)).heap.size _).alloc (Nat.le_refl _) (.cells #[.int .i64 x.kind, .int .i64 x.cf.ver, .slice hx.cf.ra x.cf.rs.length hx.cf.rc, .slice hx.cf.pa x.cf.ps.length hx.cf.pc, .slice hx.ba x.bs.length hx.bc, .float .f64 x.draw] 32))
  have B := b1.trans ((b2.trans (b3.mono b2.size)).mono b1.size)
  have row := later_block b3 (later_block b2 X1)
  have SC := short_calls (h1.later B)
  rw [hs] at SC
  have SC := hide SC
  have c0 := box_cell row 0 _ rfl
  have c1 := box_cell row 1 _ rfl
  have c2 := box_cell row 2 _ rfl
  have BB := hide B
  unfold cfVal pdVal at *
  clear b1 b2 b3 X1 row B h1 h2 h3 hs
  go_enter Tryz.func5, Tryz.ntmps5
  go_wp2_with (first
    | (go_at_call 7; refine (unhide SC).mono ?_; rintro r V1 ⟨rfl, v1⟩; have D1 := hide ((unhide BB).trans (v1.mono (unhide BB).size)); clear v1)
    | (go_at_call 15; refine (live10_calls _).mono ?_; rintro r V2 ⟨rfl, v2⟩; have D2 := hide ((unhide D1).trans (v2.mono (unhide D1).size)); clear v2))
  go_ret
  exact ⟨rfl, unhide D2⟩
end Go.Proofs.YtcmiappiocfbiaaGreatDoor
