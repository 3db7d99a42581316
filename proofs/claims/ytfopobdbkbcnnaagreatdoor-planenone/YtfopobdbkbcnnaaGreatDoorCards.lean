/-
  DERIVED. GIVEN WITH THE SEED: THE CARDS: each row of YtfopobdbkbcnnaaGreatDoorRows.lean that lists a variable, with what it lists TIED to the program's text (the seventh form; the later family's looks); each row that meets fmt, with fmt's text TOLD by the authors' own Lean function (tested against real Go, not proved from fmt's source: count such statements apart). THE CARD IS WHAT COUNTS. Prove the row's statement (the work); the ties are given (YtfopobdbkbcnnaaGreatDoorTie.lean); close each card by the builder's one call (the guide's Derived/Test/ToyasCard.lean, 'card_holds'). Laid BY PROGRAM, IN A SANDBOX (cutbox-door.mjs). By AI agents, Wed Nov 11 2026. No macro, syntax, notation, axiom, sorry.
-/
import Derived.Test.YtfopobdbkbcnnaaGreatDoorRows
import GoSem.ClaimSeven
namespace Go.Proofs.YtfopobdbkbcnnaaGreatDoor
namespace Rows

/-- THE TIED CARD OF 'tollgatelaw10.PlaneServes'. -/
def planeServesCard : Claim7 := { stood := { row := planeServesRow, standIns := [], harness := (true, "6c6017175fe422c8deb209e74c9dfea7679747bce4674083a1b607777356bcf7"), looks := false }, kinds := [], alts := [], laidByText := true, laidKinds := [.data, .pinned, .pinned], laidTests := true, laidLooks := .later }
def PlaneServesCardSaid : Prop := Claim7.holds Tryz.pinned (.plain (OpenSpec.ofChange planeServesSpec)) planeServesCard

/-- THE TIED CARD OF 'tollgatelaw10.PlaneAny'. -/
def planeAnyCard : Claim7 := { stood := { row := planeAnyRow, standIns := [], harness := (true, "6c6017175fe422c8deb209e74c9dfea7679747bce4674083a1b607777356bcf7"), looks := false }, kinds := [], alts := [], laidByText := true, laidKinds := [.data, .pinned, .pinned], laidTests := true, laidLooks := .later }
def PlaneAnyCardSaid : Prop := Claim7.holds Tryz.pinned (.plain (OpenSpec.ofChange planeAnySpec)) planeAnyCard

/-- THE TIED CARD OF 'tollgatelaw10.PlaneSame'. -/
def planeSameCard : Claim7 := { stood := { row := planeSameRow, standIns := [], harness := (true, "6c6017175fe422c8deb209e74c9dfea7679747bce4674083a1b607777356bcf7"), looks := false }, kinds := [], alts := [], laidByText := true, laidKinds := [.data, .pinned, .pinned], laidTests := true, laidLooks := .later }
def PlaneSameCardSaid : Prop := Claim7.holds Tryz.pinned (.plain (OpenSpec.ofChange planeSameSpec)) planeSameCard

/-- THE TIED CARD OF 'tollgatelaw10.PlaneNone'. -/
def planeNoneCard : Claim7 := { stood := { row := planeNoneRow, standIns := [], harness := (true, "6c6017175fe422c8deb209e74c9dfea7679747bce4674083a1b607777356bcf7"), looks := false }, kinds := [], alts := [], laidByText := true, laidKinds := [.data, .pinned, .pinned], laidTests := true, laidLooks := .later }
def PlaneNoneCardSaid : Prop := Claim7.holds Tryz.pinned (.plain (OpenSpec.ofChange planeNoneSpec)) planeNoneCard

/-- THE SECOND FORM's CARD OF 'tollgatelaw10.PlaneServes'. -/
def planeServesUptoCard : Claim7 := { stood := { row := planeServesUptoRow, standIns := [], harness := (true, "6c6017175fe422c8deb209e74c9dfea7679747bce4674083a1b607777356bcf7"), looks := false }, kinds := [], alts := [], laidByText := true, laidKinds := [.data, .pinned, .pinned], laidTests := true, laidLooks := .later }
def PlaneServesUptoCardSaid : Prop := Claim7.holds Tryz.pinned (.plain (OpenSpec.upto planeServesSpec)) planeServesUptoCard

/-- THE SECOND FORM's CARD OF 'tollgatelaw10.PlaneAny'. -/
def planeAnyUptoCard : Claim7 := { stood := { row := planeAnyUptoRow, standIns := [], harness := (true, "6c6017175fe422c8deb209e74c9dfea7679747bce4674083a1b607777356bcf7"), looks := false }, kinds := [], alts := [], laidByText := true, laidKinds := [.data, .pinned, .pinned], laidTests := true, laidLooks := .later }
def PlaneAnyUptoCardSaid : Prop := Claim7.holds Tryz.pinned (.plain (OpenSpec.upto planeAnySpec)) planeAnyUptoCard

/-- THE SECOND FORM's CARD OF 'tollgatelaw10.PlaneSame'. -/
def planeSameUptoCard : Claim7 := { stood := { row := planeSameUptoRow, standIns := [], harness := (true, "6c6017175fe422c8deb209e74c9dfea7679747bce4674083a1b607777356bcf7"), looks := false }, kinds := [], alts := [], laidByText := true, laidKinds := [.data, .pinned, .pinned], laidTests := true, laidLooks := .later }
def PlaneSameUptoCardSaid : Prop := Claim7.holds Tryz.pinned (.plain (OpenSpec.upto planeSameSpec)) planeSameUptoCard

/-- THE SECOND FORM's CARD OF 'tollgatelaw10.PlaneNone'. -/
def planeNoneUptoCard : Claim7 := { stood := { row := planeNoneUptoRow, standIns := [], harness := (true, "6c6017175fe422c8deb209e74c9dfea7679747bce4674083a1b607777356bcf7"), looks := false }, kinds := [], alts := [], laidByText := true, laidKinds := [.data, .pinned, .pinned], laidTests := true, laidLooks := .later }
def PlaneNoneUptoCardSaid : Prop := Claim7.holds Tryz.pinned (.plain (OpenSpec.upto planeNoneSpec)) planeNoneUptoCard
end Rows
end Go.Proofs.YtfopobdbkbcnnaaGreatDoor
