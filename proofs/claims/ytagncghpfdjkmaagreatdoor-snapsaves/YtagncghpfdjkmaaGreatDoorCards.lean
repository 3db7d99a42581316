/-
  DERIVED. GIVEN WITH THE SEED: THE CARDS: each row of YtagncghpfdjkmaaGreatDoorRows.lean that lists a variable, with what it lists TIED to the program's text (the seventh form; the later family's looks); each row that meets fmt, with fmt's text TOLD by the authors' own Lean function (tested against real Go, not proved from fmt's source: count such statements apart). THE CARD IS WHAT COUNTS. Prove the row's statement (the work); the ties are given (YtagncghpfdjkmaaGreatDoorTie.lean); close each card by the builder's one call (the guide's Derived/Test/ToyasCard.lean, 'card_holds'). Laid BY PROGRAM, IN A SANDBOX (cutbox-door.mjs). By AI agents, Wed Nov 11 2026. No macro, syntax, notation, axiom, sorry.
-/
import Derived.Test.YtagncghpfdjkmaaGreatDoorRows
import GoSem.ClaimSeven
namespace Go.Proofs.YtagncghpfdjkmaaGreatDoor
namespace Rows

/-- THE TIED CARD OF 'tollgatelaw07.SnapPuts'. -/
def snapPutsCard : Claim7 := { stood := { row := snapPutsRow, standIns := [], harness := (true, "1e839264e5e4b6257922fa7b06b1b4ef82c9e6baa8cadf88c7c2adf4e1a3758c"), looks := true }, kinds := [], alts := [], laidByText := true, laidKinds := [.data, .data, .data, .sentinel, .sentinel], laidTests := true, laidLooks := .later }
def SnapPutsCardSaid : Prop := Claim7.holds Tryz.pinned (.plain (OpenSpec.ofChange snapPutsSpec)) snapPutsCard

/-- THE TIED CARD OF 'tollgatelaw07.SnapGets'. -/
def snapGetsCard : Claim7 := { stood := { row := snapGetsRow, standIns := [], harness := (true, "1e839264e5e4b6257922fa7b06b1b4ef82c9e6baa8cadf88c7c2adf4e1a3758c"), looks := true }, kinds := [], alts := [], laidByText := true, laidKinds := [.data, .data, .data, .sentinel, .sentinel], laidTests := true, laidLooks := .later }
def SnapGetsCardSaid : Prop := Claim7.holds Tryz.pinned (.plain (OpenSpec.ofChange snapGetsSpec)) snapGetsCard

/-- THE TIED CARD OF 'tollgatelaw07.SnapFramed'. -/
def snapFramedCard : Claim7 := { stood := { row := snapFramedRow, standIns := [], harness := (true, "1e839264e5e4b6257922fa7b06b1b4ef82c9e6baa8cadf88c7c2adf4e1a3758c"), looks := true }, kinds := [], alts := [], laidByText := true, laidKinds := [.data, .data, .data, .sentinel, .sentinel], laidTests := true, laidLooks := .later }
def SnapFramedCardSaid : Prop := Claim7.holds Tryz.pinned (.plain (OpenSpec.ofChange snapFramedSpec)) snapFramedCard

/-- THE TIED CARD OF 'tollgatelaw07.SnapBack'. -/
def snapBackCard : Claim7 := { stood := { row := snapBackRow, standIns := [], harness := (true, "1e839264e5e4b6257922fa7b06b1b4ef82c9e6baa8cadf88c7c2adf4e1a3758c"), looks := true }, kinds := [], alts := [], laidByText := true, laidKinds := [.data, .data, .data, .sentinel, .sentinel], laidTests := true, laidLooks := .later }
def SnapBackCardSaid : Prop := Claim7.holds Tryz.pinned (.plain (OpenSpec.ofChange snapBackSpec)) snapBackCard

/-- THE TIED CARD OF 'tollgatelaw07.SnapTurned'. -/
def snapTurnedCard : Claim7 := { stood := { row := snapTurnedRow, standIns := [], harness := (true, "1e839264e5e4b6257922fa7b06b1b4ef82c9e6baa8cadf88c7c2adf4e1a3758c"), looks := true }, kinds := [], alts := [], laidByText := true, laidKinds := [.data, .data, .data, .sentinel, .sentinel], laidTests := true, laidLooks := .later }
def SnapTurnedCardSaid : Prop := Claim7.holds Tryz.pinned (.plain (OpenSpec.ofChange snapTurnedSpec)) snapTurnedCard

/-- THE TIED CARD OF 'tollgatelaw07.SnapSaves'. -/
def snapSavesCard : Claim7 := { stood := { row := snapSavesRow, standIns := [], harness := (true, "1e839264e5e4b6257922fa7b06b1b4ef82c9e6baa8cadf88c7c2adf4e1a3758c"), looks := true }, kinds := [], alts := [], laidByText := true, laidKinds := [.data, .data, .data, .sentinel, .sentinel], laidTests := true, laidLooks := .later }
def SnapSavesCardSaid : Prop := Claim7.holds Tryz.pinned (.plain (OpenSpec.ofChange snapSavesSpec)) snapSavesCard

/-- THE TIED CARD OF 'tollgatelaw07.SnapWhole'. -/
def snapWholeCard : Claim7 := { stood := { row := snapWholeRow, standIns := [], harness := (true, "1e839264e5e4b6257922fa7b06b1b4ef82c9e6baa8cadf88c7c2adf4e1a3758c"), looks := true }, kinds := [], alts := [], laidByText := true, laidKinds := [.data, .data, .data, .sentinel, .sentinel], laidTests := true, laidLooks := .later }
def SnapWholeCardSaid : Prop := Claim7.holds Tryz.pinned (.plain (OpenSpec.ofChange snapWholeSpec)) snapWholeCard

/-- THE TIED CARD OF 'tollgatelaw07.SnapNewest'. -/
def snapNewestCard : Claim7 := { stood := { row := snapNewestRow, standIns := [], harness := (true, "1e839264e5e4b6257922fa7b06b1b4ef82c9e6baa8cadf88c7c2adf4e1a3758c"), looks := true }, kinds := [], alts := [], laidByText := true, laidKinds := [.data, .data, .data, .sentinel, .sentinel], laidTests := true, laidLooks := .later }
def SnapNewestCardSaid : Prop := Claim7.holds Tryz.pinned (.plain (OpenSpec.ofChange snapNewestSpec)) snapNewestCard

/-- THE TIED CARD OF 'tollgatelaw07.SnapCutsUp'. -/
def snapCutsUpCard : Claim7 := { stood := { row := snapCutsUpRow, standIns := [], harness := (true, "1e839264e5e4b6257922fa7b06b1b4ef82c9e6baa8cadf88c7c2adf4e1a3758c"), looks := true }, kinds := [], alts := [], laidByText := true, laidKinds := [.data, .data, .data, .sentinel, .sentinel], laidTests := true, laidLooks := .later }
def SnapCutsUpCardSaid : Prop := Claim7.holds Tryz.pinned (.plain (OpenSpec.ofChange snapCutsUpSpec)) snapCutsUpCard

/-- THE TIED CARD OF 'tollgatelaw07.SnapGathers'. -/
def snapGathersCard : Claim7 := { stood := { row := snapGathersRow, standIns := [], harness := (true, "1e839264e5e4b6257922fa7b06b1b4ef82c9e6baa8cadf88c7c2adf4e1a3758c"), looks := true }, kinds := [], alts := [], laidByText := true, laidKinds := [.data, .data, .data, .sentinel, .sentinel], laidTests := true, laidLooks := .later }
def SnapGathersCardSaid : Prop := Claim7.holds Tryz.pinned (.plain (OpenSpec.ofChange snapGathersSpec)) snapGathersCard

/-- THE TIED CARD OF 'tollgatelaw07.SnapWays'. -/
def snapWaysCard : Claim7 := { stood := { row := snapWaysRow, standIns := [], harness := (true, "1e839264e5e4b6257922fa7b06b1b4ef82c9e6baa8cadf88c7c2adf4e1a3758c"), looks := true }, kinds := [], alts := [], laidByText := true, laidKinds := [.data, .data, .data, .sentinel, .sentinel], laidTests := true, laidLooks := .later }
def SnapWaysCardSaid : Prop := Claim7.holds Tryz.pinned (.plain (OpenSpec.ofChange snapWaysSpec)) snapWaysCard

/-- THE SECOND FORM's CARD OF 'tollgatelaw07.SnapPuts'. -/
def snapPutsUptoCard : Claim7 := { stood := { row := snapPutsUptoRow, standIns := [], harness := (true, "1e839264e5e4b6257922fa7b06b1b4ef82c9e6baa8cadf88c7c2adf4e1a3758c"), looks := true }, kinds := [], alts := [], laidByText := true, laidKinds := [.data, .data, .data, .sentinel, .sentinel], laidTests := true, laidLooks := .later }
def SnapPutsUptoCardSaid : Prop := Claim7.holds Tryz.pinned (.plain (OpenSpec.upto snapPutsSpec)) snapPutsUptoCard

/-- THE SECOND FORM's CARD OF 'tollgatelaw07.SnapGets'. -/
def snapGetsUptoCard : Claim7 := { stood := { row := snapGetsUptoRow, standIns := [], harness := (true, "1e839264e5e4b6257922fa7b06b1b4ef82c9e6baa8cadf88c7c2adf4e1a3758c"), looks := true }, kinds := [], alts := [], laidByText := true, laidKinds := [.data, .data, .data, .sentinel, .sentinel], laidTests := true, laidLooks := .later }
def SnapGetsUptoCardSaid : Prop := Claim7.holds Tryz.pinned (.plain (OpenSpec.upto snapGetsSpec)) snapGetsUptoCard

/-- THE SECOND FORM's CARD OF 'tollgatelaw07.SnapFramed'. -/
def snapFramedUptoCard : Claim7 := { stood := { row := snapFramedUptoRow, standIns := [], harness := (true, "1e839264e5e4b6257922fa7b06b1b4ef82c9e6baa8cadf88c7c2adf4e1a3758c"), looks := true }, kinds := [], alts := [], laidByText := true, laidKinds := [.data, .data, .data, .sentinel, .sentinel], laidTests := true, laidLooks := .later }
def SnapFramedUptoCardSaid : Prop := Claim7.holds Tryz.pinned (.plain (OpenSpec.upto snapFramedSpec)) snapFramedUptoCard

/-- THE SECOND FORM's CARD OF 'tollgatelaw07.SnapBack'. -/
def snapBackUptoCard : Claim7 := { stood := { row := snapBackUptoRow, standIns := [], harness := (true, "1e839264e5e4b6257922fa7b06b1b4ef82c9e6baa8cadf88c7c2adf4e1a3758c"), looks := true }, kinds := [], alts := [], laidByText := true, laidKinds := [.data, .data, .data, .sentinel, .sentinel], laidTests := true, laidLooks := .later }
def SnapBackUptoCardSaid : Prop := Claim7.holds Tryz.pinned (.plain (OpenSpec.upto snapBackSpec)) snapBackUptoCard

/-- THE SECOND FORM's CARD OF 'tollgatelaw07.SnapTurned'. -/
def snapTurnedUptoCard : Claim7 := { stood := { row := snapTurnedUptoRow, standIns := [], harness := (true, "1e839264e5e4b6257922fa7b06b1b4ef82c9e6baa8cadf88c7c2adf4e1a3758c"), looks := true }, kinds := [], alts := [], laidByText := true, laidKinds := [.data, .data, .data, .sentinel, .sentinel], laidTests := true, laidLooks := .later }
def SnapTurnedUptoCardSaid : Prop := Claim7.holds Tryz.pinned (.plain (OpenSpec.upto snapTurnedSpec)) snapTurnedUptoCard

/-- THE SECOND FORM's CARD OF 'tollgatelaw07.SnapSaves'. -/
def snapSavesUptoCard : Claim7 := { stood := { row := snapSavesUptoRow, standIns := [], harness := (true, "1e839264e5e4b6257922fa7b06b1b4ef82c9e6baa8cadf88c7c2adf4e1a3758c"), looks := true }, kinds := [], alts := [], laidByText := true, laidKinds := [.data, .data, .data, .sentinel, .sentinel], laidTests := true, laidLooks := .later }
def SnapSavesUptoCardSaid : Prop := Claim7.holds Tryz.pinned (.plain (OpenSpec.upto snapSavesSpec)) snapSavesUptoCard

/-- THE SECOND FORM's CARD OF 'tollgatelaw07.SnapWhole'. -/
def snapWholeUptoCard : Claim7 := { stood := { row := snapWholeUptoRow, standIns := [], harness := (true, "1e839264e5e4b6257922fa7b06b1b4ef82c9e6baa8cadf88c7c2adf4e1a3758c"), looks := true }, kinds := [], alts := [], laidByText := true, laidKinds := [.data, .data, .data, .sentinel, .sentinel], laidTests := true, laidLooks := .later }
def SnapWholeUptoCardSaid : Prop := Claim7.holds Tryz.pinned (.plain (OpenSpec.upto snapWholeSpec)) snapWholeUptoCard

/-- THE SECOND FORM's CARD OF 'tollgatelaw07.SnapNewest'. -/
def snapNewestUptoCard : Claim7 := { stood := { row := snapNewestUptoRow, standIns := [], harness := (true, "1e839264e5e4b6257922fa7b06b1b4ef82c9e6baa8cadf88c7c2adf4e1a3758c"), looks := true }, kinds := [], alts := [], laidByText := true, laidKinds := [.data, .data, .data, .sentinel, .sentinel], laidTests := true, laidLooks := .later }
def SnapNewestUptoCardSaid : Prop := Claim7.holds Tryz.pinned (.plain (OpenSpec.upto snapNewestSpec)) snapNewestUptoCard

/-- THE SECOND FORM's CARD OF 'tollgatelaw07.SnapCutsUp'. -/
def snapCutsUpUptoCard : Claim7 := { stood := { row := snapCutsUpUptoRow, standIns := [], harness := (true, "1e839264e5e4b6257922fa7b06b1b4ef82c9e6baa8cadf88c7c2adf4e1a3758c"), looks := true }, kinds := [], alts := [], laidByText := true, laidKinds := [.data, .data, .data, .sentinel, .sentinel], laidTests := true, laidLooks := .later }
def SnapCutsUpUptoCardSaid : Prop := Claim7.holds Tryz.pinned (.plain (OpenSpec.upto snapCutsUpSpec)) snapCutsUpUptoCard

/-- THE SECOND FORM's CARD OF 'tollgatelaw07.SnapGathers'. -/
def snapGathersUptoCard : Claim7 := { stood := { row := snapGathersUptoRow, standIns := [], harness := (true, "1e839264e5e4b6257922fa7b06b1b4ef82c9e6baa8cadf88c7c2adf4e1a3758c"), looks := true }, kinds := [], alts := [], laidByText := true, laidKinds := [.data, .data, .data, .sentinel, .sentinel], laidTests := true, laidLooks := .later }
def SnapGathersUptoCardSaid : Prop := Claim7.holds Tryz.pinned (.plain (OpenSpec.upto snapGathersSpec)) snapGathersUptoCard

/-- THE SECOND FORM's CARD OF 'tollgatelaw07.SnapWays'. -/
def snapWaysUptoCard : Claim7 := { stood := { row := snapWaysUptoRow, standIns := [], harness := (true, "1e839264e5e4b6257922fa7b06b1b4ef82c9e6baa8cadf88c7c2adf4e1a3758c"), looks := true }, kinds := [], alts := [], laidByText := true, laidKinds := [.data, .data, .data, .sentinel, .sentinel], laidTests := true, laidLooks := .later }
def SnapWaysUptoCardSaid : Prop := Claim7.holds Tryz.pinned (.plain (OpenSpec.upto snapWaysSpec)) snapWaysUptoCard
end Rows
end Go.Proofs.YtagncghpfdjkmaaGreatDoor
