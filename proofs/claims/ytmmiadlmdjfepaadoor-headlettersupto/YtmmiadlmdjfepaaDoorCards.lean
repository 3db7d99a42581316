/-
  DERIVED. GIVEN WITH THE SEED: THE CARDS: each row of YtmmiadlmdjfepaaDoorRows.lean that lists a variable, with what it lists TIED to the program's text (the seventh form; the later family's looks); each row that meets fmt, with fmt's text TOLD by the authors' own Lean function (tested against real Go, not proved from fmt's source: count such statements apart). THE CARD IS WHAT COUNTS. Prove the row's statement (the work); the ties are given (YtmmiadlmdjfepaaDoorTie.lean); close each card by the builder's one call (the guide's Derived/Test/ToyasCard.lean, 'card_holds'). Laid BY PROGRAM, IN A SANDBOX (cutbox-door.mjs). By AI agents, Wed Nov 11 2026. No macro, syntax, notation, axiom, sorry.
-/
import Derived.Test.YtmmiadlmdjfepaaDoorRows
import GoSem.ClaimSeven
namespace Go.Proofs.YtmmiadlmdjfepaaDoor
namespace Rows

/-- THE TIED CARD OF 'tollgatelaw09.HeadReads'. -/
def headReadsCard : Claim7 := { stood := { row := headReadsRow, standIns := [], harness := (true, "751a8e46b2fe3491d32f44b17778bde18806f999503f591f6324dd31d7eb6dd5"), looks := false }, kinds := [], alts := [], laidByText := true, laidKinds := [.data, .pinned, .pinned], laidTests := true, laidLooks := .later }
def HeadReadsCardSaid : Prop := Claim7.holds Tryd.pinned (.plain (OpenSpec.ofChange headReadsSpec)) headReadsCard

/-- THE TIED CARD OF 'tollgatelaw09.HeadWrites'. -/
def headWritesCard : Claim7 := { stood := { row := headWritesRow, standIns := [], harness := (true, "751a8e46b2fe3491d32f44b17778bde18806f999503f591f6324dd31d7eb6dd5"), looks := false }, kinds := [], alts := [], laidByText := true, laidKinds := [.data, .pinned, .pinned], laidTests := true, laidLooks := .later }
def HeadWritesCardSaid : Prop := Claim7.holds Tryd.pinned (.plain (OpenSpec.ofChange headWritesSpec)) headWritesCard

/-- THE TIED CARD OF 'tollgatelaw09.HeadBack'. -/
def headBackCard : Claim7 := { stood := { row := headBackRow, standIns := [], harness := (true, "751a8e46b2fe3491d32f44b17778bde18806f999503f591f6324dd31d7eb6dd5"), looks := false }, kinds := [], alts := [], laidByText := true, laidKinds := [.data, .pinned, .pinned], laidTests := true, laidLooks := .later }
def HeadBackCardSaid : Prop := Claim7.holds Tryd.pinned (.plain (OpenSpec.ofChange headBackSpec)) headBackCard

/-- THE TIED CARD OF 'tollgatelaw09.HeadAgain'. -/
def headAgainCard : Claim7 := { stood := { row := headAgainRow, standIns := [], harness := (true, "751a8e46b2fe3491d32f44b17778bde18806f999503f591f6324dd31d7eb6dd5"), looks := false }, kinds := [], alts := [], laidByText := true, laidKinds := [.data, .pinned, .pinned], laidTests := true, laidLooks := .later }
def HeadAgainCardSaid : Prop := Claim7.holds Tryd.pinned (.plain (OpenSpec.ofChange headAgainSpec)) headAgainCard

/-- THE TIED CARD OF 'tollgatelaw09.HeadCuts'. -/
def headCutsCard : Claim7 := { stood := { row := headCutsRow, standIns := [], harness := (true, "751a8e46b2fe3491d32f44b17778bde18806f999503f591f6324dd31d7eb6dd5"), looks := false }, kinds := [], alts := [], laidByText := true, laidKinds := [.data, .pinned, .pinned], laidTests := true, laidLooks := .later }
def HeadCutsCardSaid : Prop := Claim7.holds Tryd.pinned (.plain (OpenSpec.ofChange headCutsSpec)) headCutsCard

/-- THE TIED CARD OF 'tollgatelaw09.HeadLetters'. -/
def headLettersCard : Claim7 := { stood := { row := headLettersRow, standIns := [], harness := (true, "751a8e46b2fe3491d32f44b17778bde18806f999503f591f6324dd31d7eb6dd5"), looks := false }, kinds := [], alts := [], laidByText := true, laidKinds := [.data, .pinned, .pinned], laidTests := true, laidLooks := .later }
def HeadLettersCardSaid : Prop := Claim7.holds Tryd.pinned (.plain (OpenSpec.ofChange headLettersSpec)) headLettersCard

/-- THE TIED CARD OF 'tollgatelaw09.HeadHosts'. -/
def headHostsCard : Claim7 := { stood := { row := headHostsRow, standIns := [], harness := (true, "751a8e46b2fe3491d32f44b17778bde18806f999503f591f6324dd31d7eb6dd5"), looks := false }, kinds := [], alts := [], laidByText := true, laidKinds := [.data, .pinned, .pinned], laidTests := true, laidLooks := .later }
def HeadHostsCardSaid : Prop := Claim7.holds Tryd.pinned (.plain (OpenSpec.ofChange headHostsSpec)) headHostsCard

/-- THE SECOND FORM's CARD OF 'tollgatelaw09.HeadReads'. -/
def headReadsUptoCard : Claim7 := { stood := { row := headReadsUptoRow, standIns := [], harness := (true, "751a8e46b2fe3491d32f44b17778bde18806f999503f591f6324dd31d7eb6dd5"), looks := false }, kinds := [], alts := [], laidByText := true, laidKinds := [.data, .pinned, .pinned], laidTests := true, laidLooks := .later }
def HeadReadsUptoCardSaid : Prop := Claim7.holds Tryd.pinned (.plain (OpenSpec.upto headReadsSpec)) headReadsUptoCard

/-- THE SECOND FORM's CARD OF 'tollgatelaw09.HeadWrites'. -/
def headWritesUptoCard : Claim7 := { stood := { row := headWritesUptoRow, standIns := [], harness := (true, "751a8e46b2fe3491d32f44b17778bde18806f999503f591f6324dd31d7eb6dd5"), looks := false }, kinds := [], alts := [], laidByText := true, laidKinds := [.data, .pinned, .pinned], laidTests := true, laidLooks := .later }
def HeadWritesUptoCardSaid : Prop := Claim7.holds Tryd.pinned (.plain (OpenSpec.upto headWritesSpec)) headWritesUptoCard

/-- THE SECOND FORM's CARD OF 'tollgatelaw09.HeadBack'. -/
def headBackUptoCard : Claim7 := { stood := { row := headBackUptoRow, standIns := [], harness := (true, "751a8e46b2fe3491d32f44b17778bde18806f999503f591f6324dd31d7eb6dd5"), looks := false }, kinds := [], alts := [], laidByText := true, laidKinds := [.data, .pinned, .pinned], laidTests := true, laidLooks := .later }
def HeadBackUptoCardSaid : Prop := Claim7.holds Tryd.pinned (.plain (OpenSpec.upto headBackSpec)) headBackUptoCard

/-- THE SECOND FORM's CARD OF 'tollgatelaw09.HeadAgain'. -/
def headAgainUptoCard : Claim7 := { stood := { row := headAgainUptoRow, standIns := [], harness := (true, "751a8e46b2fe3491d32f44b17778bde18806f999503f591f6324dd31d7eb6dd5"), looks := false }, kinds := [], alts := [], laidByText := true, laidKinds := [.data, .pinned, .pinned], laidTests := true, laidLooks := .later }
def HeadAgainUptoCardSaid : Prop := Claim7.holds Tryd.pinned (.plain (OpenSpec.upto headAgainSpec)) headAgainUptoCard

/-- THE SECOND FORM's CARD OF 'tollgatelaw09.HeadCuts'. -/
def headCutsUptoCard : Claim7 := { stood := { row := headCutsUptoRow, standIns := [], harness := (true, "751a8e46b2fe3491d32f44b17778bde18806f999503f591f6324dd31d7eb6dd5"), looks := false }, kinds := [], alts := [], laidByText := true, laidKinds := [.data, .pinned, .pinned], laidTests := true, laidLooks := .later }
def HeadCutsUptoCardSaid : Prop := Claim7.holds Tryd.pinned (.plain (OpenSpec.upto headCutsSpec)) headCutsUptoCard

/-- THE SECOND FORM's CARD OF 'tollgatelaw09.HeadLetters'. -/
def headLettersUptoCard : Claim7 := { stood := { row := headLettersUptoRow, standIns := [], harness := (true, "751a8e46b2fe3491d32f44b17778bde18806f999503f591f6324dd31d7eb6dd5"), looks := false }, kinds := [], alts := [], laidByText := true, laidKinds := [.data, .pinned, .pinned], laidTests := true, laidLooks := .later }
def HeadLettersUptoCardSaid : Prop := Claim7.holds Tryd.pinned (.plain (OpenSpec.upto headLettersSpec)) headLettersUptoCard

/-- THE SECOND FORM's CARD OF 'tollgatelaw09.HeadHosts'. -/
def headHostsUptoCard : Claim7 := { stood := { row := headHostsUptoRow, standIns := [], harness := (true, "751a8e46b2fe3491d32f44b17778bde18806f999503f591f6324dd31d7eb6dd5"), looks := false }, kinds := [], alts := [], laidByText := true, laidKinds := [.data, .pinned, .pinned], laidTests := true, laidLooks := .later }
def HeadHostsUptoCardSaid : Prop := Claim7.holds Tryd.pinned (.plain (OpenSpec.upto headHostsSpec)) headHostsUptoCard
end Rows
end Go.Proofs.YtmmiadlmdjfepaaDoor
