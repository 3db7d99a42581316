/-
  DERIVED. GIVEN WITH THE SEED: THE CARDS: each row of YtcmiappiocfbiaaGreatDoorRows.lean that lists a variable, with what it lists TIED to the program's text (the seventh form; the later family's looks); each row that meets fmt, with fmt's text TOLD by the authors' own Lean function (tested against real Go, not proved from fmt's source: count such statements apart). THE CARD IS WHAT COUNTS. Prove the row's statement (the work); the ties are given (YtcmiappiocfbiaaGreatDoorTie.lean); close each card by the builder's one call (the guide's Derived/Test/ToyasCard.lean, 'card_holds'). Laid BY PROGRAM, IN A SANDBOX (cutbox-door.mjs). By AI agents, Wed Nov 11 2026. No macro, syntax, notation, axiom, sorry.
-/
import Derived.Test.YtcmiappiocfbiaaGreatDoorRows
import GoSem.ClaimSeven
namespace Go.Proofs.YtcmiappiocfbiaaGreatDoor
namespace Rows

/-- THE TIED CARD OF 'tollgatelaw10.PlaneServes'. -/
def planeServesCard : Claim7 := { stood := { row := planeServesRow, standIns := [], harness := (true, "47b1fa12dcda590fd344540124ecfd24233d7d6f0f953137380c7b4caf07fdec"), looks := false }, kinds := [], alts := [], laidByText := true, laidKinds := [.data, .pinned, .pinned], laidTests := true, laidLooks := .later }
def PlaneServesCardSaid : Prop := Claim7.holds Tryz.pinned (.plain (OpenSpec.ofChange planeServesSpec)) planeServesCard

/-- THE TIED CARD OF 'tollgatelaw10.PlaneAny'. -/
def planeAnyCard : Claim7 := { stood := { row := planeAnyRow, standIns := [], harness := (true, "47b1fa12dcda590fd344540124ecfd24233d7d6f0f953137380c7b4caf07fdec"), looks := false }, kinds := [], alts := [], laidByText := true, laidKinds := [.data, .pinned, .pinned], laidTests := true, laidLooks := .later }
def PlaneAnyCardSaid : Prop := Claim7.holds Tryz.pinned (.plain (OpenSpec.ofChange planeAnySpec)) planeAnyCard

/-- THE TIED CARD OF 'tollgatelaw10.PlaneSame'. -/
def planeSameCard : Claim7 := { stood := { row := planeSameRow, standIns := [], harness := (true, "47b1fa12dcda590fd344540124ecfd24233d7d6f0f953137380c7b4caf07fdec"), looks := false }, kinds := [], alts := [], laidByText := true, laidKinds := [.data, .pinned, .pinned], laidTests := true, laidLooks := .later }
def PlaneSameCardSaid : Prop := Claim7.holds Tryz.pinned (.plain (OpenSpec.ofChange planeSameSpec)) planeSameCard

/-- THE SECOND FORM's CARD OF 'tollgatelaw10.PlaneServes'. -/
def planeServesUptoCard : Claim7 := { stood := { row := planeServesUptoRow, standIns := [], harness := (true, "47b1fa12dcda590fd344540124ecfd24233d7d6f0f953137380c7b4caf07fdec"), looks := false }, kinds := [], alts := [], laidByText := true, laidKinds := [.data, .pinned, .pinned], laidTests := true, laidLooks := .later }
def PlaneServesUptoCardSaid : Prop := Claim7.holds Tryz.pinned (.plain (OpenSpec.upto planeServesSpec)) planeServesUptoCard

/-- THE SECOND FORM's CARD OF 'tollgatelaw10.PlaneAny'. -/
def planeAnyUptoCard : Claim7 := { stood := { row := planeAnyUptoRow, standIns := [], harness := (true, "47b1fa12dcda590fd344540124ecfd24233d7d6f0f953137380c7b4caf07fdec"), looks := false }, kinds := [], alts := [], laidByText := true, laidKinds := [.data, .pinned, .pinned], laidTests := true, laidLooks := .later }
def PlaneAnyUptoCardSaid : Prop := Claim7.holds Tryz.pinned (.plain (OpenSpec.upto planeAnySpec)) planeAnyUptoCard

/-- THE SECOND FORM's CARD OF 'tollgatelaw10.PlaneSame'. -/
def planeSameUptoCard : Claim7 := { stood := { row := planeSameUptoRow, standIns := [], harness := (true, "47b1fa12dcda590fd344540124ecfd24233d7d6f0f953137380c7b4caf07fdec"), looks := false }, kinds := [], alts := [], laidByText := true, laidKinds := [.data, .pinned, .pinned], laidTests := true, laidLooks := .later }
def PlaneSameUptoCardSaid : Prop := Claim7.holds Tryz.pinned (.plain (OpenSpec.upto planeSameSpec)) planeSameUptoCard
end Rows
end Go.Proofs.YtcmiappiocfbiaaGreatDoor
