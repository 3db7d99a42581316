/-
  DERIVED. GIVEN WITH THE SEED: THE CARDS: each row of YtjcjleaicjhpeaaGreatDoorRows.lean that lists a variable, with what it lists TIED to the program's text (the seventh form; the later family's looks); each row that meets fmt, with fmt's text TOLD by the authors' own Lean function (tested against real Go, not proved from fmt's source: count such statements apart). THE CARD IS WHAT COUNTS. Prove the row's statement (the work); the ties are given (YtjcjleaicjhpeaaGreatDoorTie.lean); close each card by the builder's one call (the guide's Derived/Test/ToyasCard.lean, 'card_holds'). Laid BY PROGRAM, IN A SANDBOX (cutbox-door.mjs). By AI agents, Wed Nov 11 2026. No macro, syntax, notation, axiom, sorry.
-/
import Derived.Test.YtjcjleaicjhpeaaGreatDoorRows
import GoSem.ClaimSeven
namespace Go.Proofs.YtjcjleaicjhpeaaGreatDoor
namespace Rows

/-- THE TIED CARD OF 'tollgatelaw08.ConfDoes'. -/
def confDoesCard : Claim7 := { stood := { row := confDoesRow, standIns := [], harness := (true, "89d1760e23aee8cb48403b92d66bdb27becc73d2bdf8439e6d812ff72b70fd86"), looks := true }, kinds := [], alts := [], laidByText := true, laidKinds := [.data, .pinned], laidTests := true, laidLooks := .later }
def ConfDoesCardSaid : Prop := Claim7.holds Tryz.pinned (.plain (OpenSpec.ofChange confDoesSpec)) confDoesCard

/-- THE TIED CARD OF 'tollgatelaw08.ConfOnce'. -/
def confOnceCard : Claim7 := { stood := { row := confOnceRow, standIns := [], harness := (true, "89d1760e23aee8cb48403b92d66bdb27becc73d2bdf8439e6d812ff72b70fd86"), looks := true }, kinds := [], alts := [], laidByText := true, laidKinds := [.data, .pinned], laidTests := true, laidLooks := .later }
def ConfOnceCardSaid : Prop := Claim7.holds Tryz.pinned (.plain (OpenSpec.ofChange confOnceSpec)) confOnceCard

/-- THE TIED CARD OF 'tollgatelaw08.ConfExpects'. -/
def confExpectsCard : Claim7 := { stood := { row := confExpectsRow, standIns := [], harness := (true, "89d1760e23aee8cb48403b92d66bdb27becc73d2bdf8439e6d812ff72b70fd86"), looks := true }, kinds := [], alts := [], laidByText := true, laidKinds := [.data, .pinned], laidTests := true, laidLooks := .later }
def ConfExpectsCardSaid : Prop := Claim7.holds Tryz.pinned (.plain (OpenSpec.ofChange confExpectsSpec)) confExpectsCard

/-- THE TIED CARD OF 'tollgatelaw08.ConfSorted'. -/
def confSortedCard : Claim7 := { stood := { row := confSortedRow, standIns := [], harness := (true, "89d1760e23aee8cb48403b92d66bdb27becc73d2bdf8439e6d812ff72b70fd86"), looks := true }, kinds := [], alts := [], laidByText := true, laidKinds := [.data, .pinned], laidTests := true, laidLooks := .later }
def ConfSortedCardSaid : Prop := Claim7.holds Tryz.pinned (.plain (OpenSpec.ofChange confSortedSpec)) confSortedCard

/-- THE TIED CARD OF 'tollgatelaw08.ConfTells'. -/
def confTellsCard : Claim7 := { stood := { row := confTellsRow, standIns := [], harness := (true, "89d1760e23aee8cb48403b92d66bdb27becc73d2bdf8439e6d812ff72b70fd86"), looks := true }, kinds := [], alts := [], laidByText := true, laidKinds := [.data, .pinned], laidTests := true, laidLooks := .later }
def ConfTellsCardSaid : Prop := Claim7.holds Tryz.pinned (.plain (OpenSpec.ofChange confTellsSpec)) confTellsCard

/-- THE TIED CARD OF 'tollgatelaw08.ConfLoads'. -/
def confLoadsCard : Claim7 := { stood := { row := confLoadsRow, standIns := [], harness := (true, "89d1760e23aee8cb48403b92d66bdb27becc73d2bdf8439e6d812ff72b70fd86"), looks := true }, kinds := [], alts := [], laidByText := true, laidKinds := [.data, .pinned], laidTests := true, laidLooks := .later }
def ConfLoadsCardSaid : Prop := Claim7.holds Tryz.pinned (.plain (OpenSpec.ofChange confLoadsSpec)) confLoadsCard

/-- THE TIED CARD OF 'tollgatelaw08.ConfSaves'. -/
def confSavesCard : Claim7 := { stood := { row := confSavesRow, standIns := [], harness := (true, "89d1760e23aee8cb48403b92d66bdb27becc73d2bdf8439e6d812ff72b70fd86"), looks := true }, kinds := [], alts := [], laidByText := true, laidKinds := [.data, .pinned], laidTests := true, laidLooks := .later }
def ConfSavesCardSaid : Prop := Claim7.holds Tryz.pinned (.plain (OpenSpec.ofChange confSavesSpec)) confSavesCard

/-- THE TIED CARD OF 'tollgatelaw08.ConfForks'. -/
def confForksCard : Claim7 := { stood := { row := confForksRow, standIns := [], harness := (true, "89d1760e23aee8cb48403b92d66bdb27becc73d2bdf8439e6d812ff72b70fd86"), looks := true }, kinds := [], alts := [], laidByText := true, laidKinds := [.data, .pinned], laidTests := true, laidLooks := .later }
def ConfForksCardSaid : Prop := Claim7.holds Tryz.pinned (.plain (OpenSpec.ofChange confForksSpec)) confForksCard

/-- THE TIED CARD OF 'tollgatelaw08.ConfNone'. -/
def confNoneCard : Claim7 := { stood := { row := confNoneRow, standIns := [], harness := (true, "89d1760e23aee8cb48403b92d66bdb27becc73d2bdf8439e6d812ff72b70fd86"), looks := true }, kinds := [], alts := [], laidByText := true, laidKinds := [.data, .pinned], laidTests := true, laidLooks := .later }
def ConfNoneCardSaid : Prop := Claim7.holds Tryz.pinned (.plain (OpenSpec.ofChange confNoneSpec)) confNoneCard

/-- THE SECOND FORM's CARD OF 'tollgatelaw08.ConfDoes'. -/
def confDoesUptoCard : Claim7 := { stood := { row := confDoesUptoRow, standIns := [], harness := (true, "89d1760e23aee8cb48403b92d66bdb27becc73d2bdf8439e6d812ff72b70fd86"), looks := true }, kinds := [], alts := [], laidByText := true, laidKinds := [.data, .pinned], laidTests := true, laidLooks := .later }
def ConfDoesUptoCardSaid : Prop := Claim7.holds Tryz.pinned (.plain (OpenSpec.upto confDoesSpec)) confDoesUptoCard

/-- THE SECOND FORM's CARD OF 'tollgatelaw08.ConfOnce'. -/
def confOnceUptoCard : Claim7 := { stood := { row := confOnceUptoRow, standIns := [], harness := (true, "89d1760e23aee8cb48403b92d66bdb27becc73d2bdf8439e6d812ff72b70fd86"), looks := true }, kinds := [], alts := [], laidByText := true, laidKinds := [.data, .pinned], laidTests := true, laidLooks := .later }
def ConfOnceUptoCardSaid : Prop := Claim7.holds Tryz.pinned (.plain (OpenSpec.upto confOnceSpec)) confOnceUptoCard

/-- THE SECOND FORM's CARD OF 'tollgatelaw08.ConfExpects'. -/
def confExpectsUptoCard : Claim7 := { stood := { row := confExpectsUptoRow, standIns := [], harness := (true, "89d1760e23aee8cb48403b92d66bdb27becc73d2bdf8439e6d812ff72b70fd86"), looks := true }, kinds := [], alts := [], laidByText := true, laidKinds := [.data, .pinned], laidTests := true, laidLooks := .later }
def ConfExpectsUptoCardSaid : Prop := Claim7.holds Tryz.pinned (.plain (OpenSpec.upto confExpectsSpec)) confExpectsUptoCard

/-- THE SECOND FORM's CARD OF 'tollgatelaw08.ConfSorted'. -/
def confSortedUptoCard : Claim7 := { stood := { row := confSortedUptoRow, standIns := [], harness := (true, "89d1760e23aee8cb48403b92d66bdb27becc73d2bdf8439e6d812ff72b70fd86"), looks := true }, kinds := [], alts := [], laidByText := true, laidKinds := [.data, .pinned], laidTests := true, laidLooks := .later }
def ConfSortedUptoCardSaid : Prop := Claim7.holds Tryz.pinned (.plain (OpenSpec.upto confSortedSpec)) confSortedUptoCard

/-- THE SECOND FORM's CARD OF 'tollgatelaw08.ConfTells'. -/
def confTellsUptoCard : Claim7 := { stood := { row := confTellsUptoRow, standIns := [], harness := (true, "89d1760e23aee8cb48403b92d66bdb27becc73d2bdf8439e6d812ff72b70fd86"), looks := true }, kinds := [], alts := [], laidByText := true, laidKinds := [.data, .pinned], laidTests := true, laidLooks := .later }
def ConfTellsUptoCardSaid : Prop := Claim7.holds Tryz.pinned (.plain (OpenSpec.upto confTellsSpec)) confTellsUptoCard

/-- THE SECOND FORM's CARD OF 'tollgatelaw08.ConfLoads'. -/
def confLoadsUptoCard : Claim7 := { stood := { row := confLoadsUptoRow, standIns := [], harness := (true, "89d1760e23aee8cb48403b92d66bdb27becc73d2bdf8439e6d812ff72b70fd86"), looks := true }, kinds := [], alts := [], laidByText := true, laidKinds := [.data, .pinned], laidTests := true, laidLooks := .later }
def ConfLoadsUptoCardSaid : Prop := Claim7.holds Tryz.pinned (.plain (OpenSpec.upto confLoadsSpec)) confLoadsUptoCard

/-- THE SECOND FORM's CARD OF 'tollgatelaw08.ConfSaves'. -/
def confSavesUptoCard : Claim7 := { stood := { row := confSavesUptoRow, standIns := [], harness := (true, "89d1760e23aee8cb48403b92d66bdb27becc73d2bdf8439e6d812ff72b70fd86"), looks := true }, kinds := [], alts := [], laidByText := true, laidKinds := [.data, .pinned], laidTests := true, laidLooks := .later }
def ConfSavesUptoCardSaid : Prop := Claim7.holds Tryz.pinned (.plain (OpenSpec.upto confSavesSpec)) confSavesUptoCard

/-- THE SECOND FORM's CARD OF 'tollgatelaw08.ConfForks'. -/
def confForksUptoCard : Claim7 := { stood := { row := confForksUptoRow, standIns := [], harness := (true, "89d1760e23aee8cb48403b92d66bdb27becc73d2bdf8439e6d812ff72b70fd86"), looks := true }, kinds := [], alts := [], laidByText := true, laidKinds := [.data, .pinned], laidTests := true, laidLooks := .later }
def ConfForksUptoCardSaid : Prop := Claim7.holds Tryz.pinned (.plain (OpenSpec.upto confForksSpec)) confForksUptoCard

/-- THE SECOND FORM's CARD OF 'tollgatelaw08.ConfNone'. -/
def confNoneUptoCard : Claim7 := { stood := { row := confNoneUptoRow, standIns := [], harness := (true, "89d1760e23aee8cb48403b92d66bdb27becc73d2bdf8439e6d812ff72b70fd86"), looks := true }, kinds := [], alts := [], laidByText := true, laidKinds := [.data, .pinned], laidTests := true, laidLooks := .later }
def ConfNoneUptoCardSaid : Prop := Claim7.holds Tryz.pinned (.plain (OpenSpec.upto confNoneSpec)) confNoneUptoCard
end Rows
end Go.Proofs.YtjcjleaicjhpeaaGreatDoor
