/-
  DERIVED. GIVEN WITH THE SEED: THE CARDS: each row of YtijcpmbfhfppmaaGreatDoorRows.lean that lists a variable, with what it lists TIED to the program's text (the seventh form; the later family's looks); each row that meets fmt, with fmt's text TOLD by the authors' own Lean function (tested against real Go, not proved from fmt's source: count such statements apart). THE CARD IS WHAT COUNTS. Prove the row's statement (the work); the ties are given (YtijcpmbfhfppmaaGreatDoorTie.lean); close each card by the builder's one call (the guide's Derived/Test/ToyasCard.lean, 'card_holds'). Laid BY PROGRAM, IN A SANDBOX (cutbox-door.mjs). By AI agents, Wed Nov 11 2026. No macro, syntax, notation, axiom, sorry.
-/
import Derived.Test.YtijcpmbfhfppmaaGreatDoorRows
import GoSem.ClaimSeven
namespace Go.Proofs.YtijcpmbfhfppmaaGreatDoor
namespace Rows

/-- THE TIED CARD OF 'tollgatelaw06.WalPlays'. -/
def walPlaysCard : Claim7 := { stood := { row := walPlaysRow, standIns := [], harness := (true, "88ca12b5e2985bf86c8c037a77f67510c0f31dea6bd67df2758923acb4652b36"), looks := true }, kinds := [], alts := [], laidByText := true, laidKinds := [.data, .data, .data, .sentinel, .sentinel], laidTests := true, laidLooks := .later }
def WalPlaysCardSaid : Prop := Claim7.holds Tryz.pinned (.plain (OpenSpec.ofChange walPlaysSpec)) walPlaysCard

/-- THE TIED CARD OF 'tollgatelaw06.WalTells'. -/
def walTellsCard : Claim7 := { stood := { row := walTellsRow, standIns := [], harness := (true, "88ca12b5e2985bf86c8c037a77f67510c0f31dea6bd67df2758923acb4652b36"), looks := true }, kinds := [], alts := [], laidByText := true, laidKinds := [.data, .data, .data, .sentinel, .sentinel], laidTests := true, laidLooks := .later }
def WalTellsCardSaid : Prop := Claim7.holds Tryz.pinned (.plain (OpenSpec.ofChange walTellsSpec)) walTellsCard

/-- THE TIED CARD OF 'tollgatelaw06.WalLasts'. -/
def walLastsCard : Claim7 := { stood := { row := walLastsRow, standIns := [], harness := (true, "88ca12b5e2985bf86c8c037a77f67510c0f31dea6bd67df2758923acb4652b36"), looks := true }, kinds := [], alts := [], laidByText := true, laidKinds := [.data, .data, .data, .sentinel, .sentinel], laidTests := true, laidLooks := .later }
def WalLastsCardSaid : Prop := Claim7.holds Tryz.pinned (.plain (OpenSpec.ofChange walLastsSpec)) walLastsCard

/-- THE TIED CARD OF 'tollgatelaw06.WalSynced'. -/
def walSyncedCard : Claim7 := { stood := { row := walSyncedRow, standIns := [], harness := (true, "88ca12b5e2985bf86c8c037a77f67510c0f31dea6bd67df2758923acb4652b36"), looks := true }, kinds := [], alts := [], laidByText := true, laidKinds := [.data, .data, .data, .sentinel, .sentinel], laidTests := true, laidLooks := .later }
def WalSyncedCardSaid : Prop := Claim7.holds Tryz.pinned (.plain (OpenSpec.ofChange walSyncedSpec)) walSyncedCard

/-- THE TIED CARD OF 'tollgatelaw06.WalAgain'. -/
def walAgainCard : Claim7 := { stood := { row := walAgainRow, standIns := [], harness := (true, "88ca12b5e2985bf86c8c037a77f67510c0f31dea6bd67df2758923acb4652b36"), looks := true }, kinds := [], alts := [], laidByText := true, laidKinds := [.data, .data, .data, .sentinel, .sentinel], laidTests := true, laidLooks := .later }
def WalAgainCardSaid : Prop := Claim7.holds Tryz.pinned (.plain (OpenSpec.ofChange walAgainSpec)) walAgainCard

/-- THE TIED CARD OF 'tollgatelaw06.WalSwitches'. -/
def walSwitchesCard : Claim7 := { stood := { row := walSwitchesRow, standIns := [], harness := (true, "88ca12b5e2985bf86c8c037a77f67510c0f31dea6bd67df2758923acb4652b36"), looks := true }, kinds := [], alts := [], laidByText := true, laidKinds := [.data, .data, .data, .sentinel, .sentinel], laidTests := true, laidLooks := .later }
def WalSwitchesCardSaid : Prop := Claim7.holds Tryz.pinned (.plain (OpenSpec.ofChange walSwitchesSpec)) walSwitchesCard

/-- THE TIED CARD OF 'tollgatelaw06.WalOverwrites'. -/
def walOverwritesCard : Claim7 := { stood := { row := walOverwritesRow, standIns := [], harness := (true, "88ca12b5e2985bf86c8c037a77f67510c0f31dea6bd67df2758923acb4652b36"), looks := true }, kinds := [], alts := [], laidByText := true, laidKinds := [.data, .data, .data, .sentinel, .sentinel], laidTests := true, laidLooks := .later }
def WalOverwritesCardSaid : Prop := Claim7.holds Tryz.pinned (.plain (OpenSpec.ofChange walOverwritesSpec)) walOverwritesCard

/-- THE TIED CARD OF 'tollgatelaw06.WalFull'. -/
def walFullCard : Claim7 := { stood := { row := walFullRow, standIns := [], harness := (true, "88ca12b5e2985bf86c8c037a77f67510c0f31dea6bd67df2758923acb4652b36"), looks := true }, kinds := [], alts := [], laidByText := true, laidKinds := [.data, .data, .data, .sentinel, .sentinel], laidTests := true, laidLooks := .later }
def WalFullCardSaid : Prop := Claim7.holds Tryz.pinned (.plain (OpenSpec.ofChange walFullSpec)) walFullCard

/-- THE TIED CARD OF 'tollgatelaw06.WalOwn'. -/
def walOwnCard : Claim7 := { stood := { row := walOwnRow, standIns := [], harness := (true, "88ca12b5e2985bf86c8c037a77f67510c0f31dea6bd67df2758923acb4652b36"), looks := true }, kinds := [], alts := [], laidByText := true, laidKinds := [.data, .data, .data, .sentinel, .sentinel], laidTests := true, laidLooks := .later }
def WalOwnCardSaid : Prop := Claim7.holds Tryz.pinned (.plain (OpenSpec.ofChange walOwnSpec)) walOwnCard

/-- THE TIED CARD OF 'tollgatelaw06.WalNone'. -/
def walNoneCard : Claim7 := { stood := { row := walNoneRow, standIns := [], harness := (true, "88ca12b5e2985bf86c8c037a77f67510c0f31dea6bd67df2758923acb4652b36"), looks := true }, kinds := [], alts := [], laidByText := true, laidKinds := [.data, .data, .data, .sentinel, .sentinel], laidTests := true, laidLooks := .later }
def WalNoneCardSaid : Prop := Claim7.holds Tryz.pinned (.plain (OpenSpec.ofChange walNoneSpec)) walNoneCard

/-- THE TIED CARD OF 'tollgatetop.TopRecovers'. -/
def topRecoversCard : Claim7 := { stood := { row := topRecoversRow, standIns := [], harness := (true, "88ca12b5e2985bf86c8c037a77f67510c0f31dea6bd67df2758923acb4652b36"), looks := true }, kinds := [], alts := [], laidByText := true, laidKinds := [.data, .data, .data, .sentinel, .sentinel], laidTests := true, laidLooks := .later }
def TopRecoversCardSaid : Prop := Claim7.holds Tryz.pinned (.plain (OpenSpec.ofChange topRecoversSpec)) topRecoversCard

/-- THE SECOND FORM's CARD OF 'tollgatelaw06.WalPlays'. -/
def walPlaysUptoCard : Claim7 := { stood := { row := walPlaysUptoRow, standIns := [], harness := (true, "88ca12b5e2985bf86c8c037a77f67510c0f31dea6bd67df2758923acb4652b36"), looks := true }, kinds := [], alts := [], laidByText := true, laidKinds := [.data, .data, .data, .sentinel, .sentinel], laidTests := true, laidLooks := .later }
def WalPlaysUptoCardSaid : Prop := Claim7.holds Tryz.pinned (.plain (OpenSpec.upto walPlaysSpec)) walPlaysUptoCard

/-- THE SECOND FORM's CARD OF 'tollgatelaw06.WalTells'. -/
def walTellsUptoCard : Claim7 := { stood := { row := walTellsUptoRow, standIns := [], harness := (true, "88ca12b5e2985bf86c8c037a77f67510c0f31dea6bd67df2758923acb4652b36"), looks := true }, kinds := [], alts := [], laidByText := true, laidKinds := [.data, .data, .data, .sentinel, .sentinel], laidTests := true, laidLooks := .later }
def WalTellsUptoCardSaid : Prop := Claim7.holds Tryz.pinned (.plain (OpenSpec.upto walTellsSpec)) walTellsUptoCard

/-- THE SECOND FORM's CARD OF 'tollgatelaw06.WalLasts'. -/
def walLastsUptoCard : Claim7 := { stood := { row := walLastsUptoRow, standIns := [], harness := (true, "88ca12b5e2985bf86c8c037a77f67510c0f31dea6bd67df2758923acb4652b36"), looks := true }, kinds := [], alts := [], laidByText := true, laidKinds := [.data, .data, .data, .sentinel, .sentinel], laidTests := true, laidLooks := .later }
def WalLastsUptoCardSaid : Prop := Claim7.holds Tryz.pinned (.plain (OpenSpec.upto walLastsSpec)) walLastsUptoCard

/-- THE SECOND FORM's CARD OF 'tollgatelaw06.WalSynced'. -/
def walSyncedUptoCard : Claim7 := { stood := { row := walSyncedUptoRow, standIns := [], harness := (true, "88ca12b5e2985bf86c8c037a77f67510c0f31dea6bd67df2758923acb4652b36"), looks := true }, kinds := [], alts := [], laidByText := true, laidKinds := [.data, .data, .data, .sentinel, .sentinel], laidTests := true, laidLooks := .later }
def WalSyncedUptoCardSaid : Prop := Claim7.holds Tryz.pinned (.plain (OpenSpec.upto walSyncedSpec)) walSyncedUptoCard

/-- THE SECOND FORM's CARD OF 'tollgatelaw06.WalAgain'. -/
def walAgainUptoCard : Claim7 := { stood := { row := walAgainUptoRow, standIns := [], harness := (true, "88ca12b5e2985bf86c8c037a77f67510c0f31dea6bd67df2758923acb4652b36"), looks := true }, kinds := [], alts := [], laidByText := true, laidKinds := [.data, .data, .data, .sentinel, .sentinel], laidTests := true, laidLooks := .later }
def WalAgainUptoCardSaid : Prop := Claim7.holds Tryz.pinned (.plain (OpenSpec.upto walAgainSpec)) walAgainUptoCard

/-- THE SECOND FORM's CARD OF 'tollgatelaw06.WalSwitches'. -/
def walSwitchesUptoCard : Claim7 := { stood := { row := walSwitchesUptoRow, standIns := [], harness := (true, "88ca12b5e2985bf86c8c037a77f67510c0f31dea6bd67df2758923acb4652b36"), looks := true }, kinds := [], alts := [], laidByText := true, laidKinds := [.data, .data, .data, .sentinel, .sentinel], laidTests := true, laidLooks := .later }
def WalSwitchesUptoCardSaid : Prop := Claim7.holds Tryz.pinned (.plain (OpenSpec.upto walSwitchesSpec)) walSwitchesUptoCard

/-- THE SECOND FORM's CARD OF 'tollgatelaw06.WalOverwrites'. -/
def walOverwritesUptoCard : Claim7 := { stood := { row := walOverwritesUptoRow, standIns := [], harness := (true, "88ca12b5e2985bf86c8c037a77f67510c0f31dea6bd67df2758923acb4652b36"), looks := true }, kinds := [], alts := [], laidByText := true, laidKinds := [.data, .data, .data, .sentinel, .sentinel], laidTests := true, laidLooks := .later }
def WalOverwritesUptoCardSaid : Prop := Claim7.holds Tryz.pinned (.plain (OpenSpec.upto walOverwritesSpec)) walOverwritesUptoCard

/-- THE SECOND FORM's CARD OF 'tollgatelaw06.WalFull'. -/
def walFullUptoCard : Claim7 := { stood := { row := walFullUptoRow, standIns := [], harness := (true, "88ca12b5e2985bf86c8c037a77f67510c0f31dea6bd67df2758923acb4652b36"), looks := true }, kinds := [], alts := [], laidByText := true, laidKinds := [.data, .data, .data, .sentinel, .sentinel], laidTests := true, laidLooks := .later }
def WalFullUptoCardSaid : Prop := Claim7.holds Tryz.pinned (.plain (OpenSpec.upto walFullSpec)) walFullUptoCard

/-- THE SECOND FORM's CARD OF 'tollgatelaw06.WalOwn'. -/
def walOwnUptoCard : Claim7 := { stood := { row := walOwnUptoRow, standIns := [], harness := (true, "88ca12b5e2985bf86c8c037a77f67510c0f31dea6bd67df2758923acb4652b36"), looks := true }, kinds := [], alts := [], laidByText := true, laidKinds := [.data, .data, .data, .sentinel, .sentinel], laidTests := true, laidLooks := .later }
def WalOwnUptoCardSaid : Prop := Claim7.holds Tryz.pinned (.plain (OpenSpec.upto walOwnSpec)) walOwnUptoCard

/-- THE SECOND FORM's CARD OF 'tollgatelaw06.WalNone'. -/
def walNoneUptoCard : Claim7 := { stood := { row := walNoneUptoRow, standIns := [], harness := (true, "88ca12b5e2985bf86c8c037a77f67510c0f31dea6bd67df2758923acb4652b36"), looks := true }, kinds := [], alts := [], laidByText := true, laidKinds := [.data, .data, .data, .sentinel, .sentinel], laidTests := true, laidLooks := .later }
def WalNoneUptoCardSaid : Prop := Claim7.holds Tryz.pinned (.plain (OpenSpec.upto walNoneSpec)) walNoneUptoCard

/-- THE SECOND FORM's CARD OF 'tollgatetop.TopRecovers'. -/
def topRecoversUptoCard : Claim7 := { stood := { row := topRecoversUptoRow, standIns := [], harness := (true, "88ca12b5e2985bf86c8c037a77f67510c0f31dea6bd67df2758923acb4652b36"), looks := true }, kinds := [], alts := [], laidByText := true, laidKinds := [.data, .data, .data, .sentinel, .sentinel], laidTests := true, laidLooks := .later }
def TopRecoversUptoCardSaid : Prop := Claim7.holds Tryz.pinned (.plain (OpenSpec.upto topRecoversSpec)) topRecoversUptoCard
end Rows
end Go.Proofs.YtijcpmbfhfppmaaGreatDoor
