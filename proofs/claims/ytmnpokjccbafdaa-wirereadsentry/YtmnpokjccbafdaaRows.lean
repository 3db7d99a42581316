/-
  No cell of these rows narrows 'for every input' (looked for: loops, veiled, ifaces, maps, wideKeys, modest, calm, conditions, laid).
  DERIVED. THE GIVEN ROWS OF THIS SEAT. 6 by the template 'for every input the law returns true; each argument reads behind the call as it read before'; 0 by the template 'total and deterministic' (their statements: YtmnpokjccbafdaaTotals.lean).
  GIVEN WITH THE SEED: the statements are not yours to turn. If you find one false, say at which input.
  Laid BY PROGRAM, IN A SANDBOX (cutbox-rows.mjs): the forced cells as the released guide's own fill.sh prints them over the translation 8f34548236e49caf… (all of the seat's roots in one cut). By AI agents, Wed Nov 11 2026. No macro, syntax, notation, axiom, sorry.
-/
import Derived.Test.YtmnpokjccbafdaaChecked
import GoSem.Claim
import GoSem.ClaimJoined
import GoSem.ClaimMapViews
import Derived.JoinedTies
import Derived.KernelRfl
namespace Go.Proofs.Ytmnpokjccbafdaa
/- THE CELL 'sum', in the pinned program and in every row, IS THE sha256 OF THE DUMP (.gsa) THAT YtmnpokjccbafdaaProg.lean LOADS. Nothing in Lean hashes anything: it is a label: what it is worth is what the hold of that sum in a sandbox is worth. -/
noncomputable def Try.pinned : Pinned := { name := "ytmnpokjccbafdaa", sum := "8f34548236e49caf78e65d36ff1c6fa09300c6bdc1b3d7bc3b0b9b9bdcf11a3b", checked := Try.checked }
namespace Rows
def none {H : Type} : Left H := { results := [], args := [] }

/-- 'tollgatelaw02.WireNumbers': WHATEVER THE INPUT: true; the input reads as it did. -/
def wireNumbersSpec : ChangeSpec := { name := "wireNumbers", fn := fun _ => fun
  | [d] => { results := [.lit (.bool true)], args := [d] }
  | _ => none }
def wireNumbersRow : OpenClaim := { program := "ytmnpokjccbafdaa", sum := "8f34548236e49caf78e65d36ff1c6fa09300c6bdc1b3d7bc3b0b9b9bdcf11a3b", func := "tollgate/tollgatelaw02.WireNumbers", spec := "wireNumbers", unfollowed := true, recurses := true, apart := false }
def WireNumbersSaid : Prop := wireNumbersRow.holds Try.pinned (OpenSpec.ofChange wireNumbersSpec)

/-- ITS FALSE NEIGHBOUR: 'it returns false'. Refute it at one input. -/
def wireNumbersWrong : ChangeSpec := { name := "wireNumbers", fn := fun _ => fun
  | [d] => { results := [.lit (.bool false)], args := [d] }
  | _ => none }
def WireNumbersWrongFalsely : Prop := wireNumbersRow.holds Try.pinned (OpenSpec.ofChange wireNumbersWrong)

/-- 'tollgatelaw02.WireTakes': WHATEVER THE INPUT: true; the input reads as it did. -/
def wireTakesSpec : ChangeSpec := { name := "wireTakes", fn := fun _ => fun
  | [d1, d2] => { results := [.lit (.bool true)], args := [d1, d2] }
  | _ => none }
def wireTakesRow : OpenClaim := { program := "ytmnpokjccbafdaa", sum := "8f34548236e49caf78e65d36ff1c6fa09300c6bdc1b3d7bc3b0b9b9bdcf11a3b", func := "tollgate/tollgatelaw02.WireTakes", spec := "wireTakes", unfollowed := true, recurses := true, apart := false }
def WireTakesSaid : Prop := wireTakesRow.holds Try.pinned (OpenSpec.ofChange wireTakesSpec)

/-- ITS FALSE NEIGHBOUR: 'it returns false'. Refute it at one input. -/
def wireTakesWrong : ChangeSpec := { name := "wireTakes", fn := fun _ => fun
  | [d1, d2] => { results := [.lit (.bool false)], args := [d1, d2] }
  | _ => none }
def WireTakesWrongFalsely : Prop := wireTakesRow.holds Try.pinned (OpenSpec.ofChange wireTakesWrong)

/-- 'tollgatelaw02.WireNumberBack': WHATEVER THE INPUT: true; the input reads as it did. -/
def wireNumberBackSpec : ChangeSpec := { name := "wireNumberBack", fn := fun _ => fun
  | [d1, d2, d3] => { results := [.lit (.bool true)], args := [d1, d2, d3] }
  | _ => none }
def wireNumberBackRow : OpenClaim := { program := "ytmnpokjccbafdaa", sum := "8f34548236e49caf78e65d36ff1c6fa09300c6bdc1b3d7bc3b0b9b9bdcf11a3b", func := "tollgate/tollgatelaw02.WireNumberBack", spec := "wireNumberBack", unfollowed := true, recurses := true, apart := false }
def WireNumberBackSaid : Prop := wireNumberBackRow.holds Try.pinned (OpenSpec.ofChange wireNumberBackSpec)

/-- ITS FALSE NEIGHBOUR: 'it returns false'. Refute it at one input. -/
def wireNumberBackWrong : ChangeSpec := { name := "wireNumberBack", fn := fun _ => fun
  | [d1, d2, d3] => { results := [.lit (.bool false)], args := [d1, d2, d3] }
  | _ => none }
def WireNumberBackWrongFalsely : Prop := wireNumberBackRow.holds Try.pinned (OpenSpec.ofChange wireNumberBackWrong)

/-- 'tollgatelaw02.WireEntries': WHATEVER THE INPUT: true; the input reads as it did. -/
def wireEntriesSpec : ChangeSpec := { name := "wireEntries", fn := fun _ => fun
  | [d] => { results := [.lit (.bool true)], args := [d] }
  | _ => none }
def wireEntriesRow : OpenClaim := { program := "ytmnpokjccbafdaa", sum := "8f34548236e49caf78e65d36ff1c6fa09300c6bdc1b3d7bc3b0b9b9bdcf11a3b", func := "tollgate/tollgatelaw02.WireEntries", spec := "wireEntries", unfollowed := true, recurses := true, apart := false }
def WireEntriesSaid : Prop := wireEntriesRow.holds Try.pinned (OpenSpec.ofChange wireEntriesSpec)

/-- ITS FALSE NEIGHBOUR: 'it returns false'. Refute it at one input. -/
def wireEntriesWrong : ChangeSpec := { name := "wireEntries", fn := fun _ => fun
  | [d] => { results := [.lit (.bool false)], args := [d] }
  | _ => none }
def WireEntriesWrongFalsely : Prop := wireEntriesRow.holds Try.pinned (OpenSpec.ofChange wireEntriesWrong)

/-- 'tollgatelaw02.WireReadsEntry': WHATEVER THE INPUT: true; the input reads as it did. -/
def wireReadsEntrySpec : ChangeSpec := { name := "wireReadsEntry", fn := fun _ => fun
  | [d] => { results := [.lit (.bool true)], args := [d] }
  | _ => none }
def wireReadsEntryRow : OpenClaim := { program := "ytmnpokjccbafdaa", sum := "8f34548236e49caf78e65d36ff1c6fa09300c6bdc1b3d7bc3b0b9b9bdcf11a3b", func := "tollgate/tollgatelaw02.WireReadsEntry", spec := "wireReadsEntry", unfollowed := true, recurses := true, apart := false }
def WireReadsEntrySaid : Prop := wireReadsEntryRow.holds Try.pinned (OpenSpec.ofChange wireReadsEntrySpec)

/-- ITS FALSE NEIGHBOUR: 'it returns false'. Refute it at one input. -/
def wireReadsEntryWrong : ChangeSpec := { name := "wireReadsEntry", fn := fun _ => fun
  | [d] => { results := [.lit (.bool false)], args := [d] }
  | _ => none }
def WireReadsEntryWrongFalsely : Prop := wireReadsEntryRow.holds Try.pinned (OpenSpec.ofChange wireReadsEntryWrong)

/-- 'tollgatelaw02.WireHards': WHATEVER THE INPUT: true; the input reads as it did. -/
def wireHardsSpec : ChangeSpec := { name := "wireHards", fn := fun _ => fun
  | [d1, d2] => { results := [.lit (.bool true)], args := [d1, d2] }
  | _ => none }
def wireHardsRow : OpenClaim := { program := "ytmnpokjccbafdaa", sum := "8f34548236e49caf78e65d36ff1c6fa09300c6bdc1b3d7bc3b0b9b9bdcf11a3b", func := "tollgate/tollgatelaw02.WireHards", spec := "wireHards", unfollowed := true, recurses := true, apart := false }
def WireHardsSaid : Prop := wireHardsRow.holds Try.pinned (OpenSpec.ofChange wireHardsSpec)

/-- ITS FALSE NEIGHBOUR: 'it returns false'. Refute it at one input. -/
def wireHardsWrong : ChangeSpec := { name := "wireHards", fn := fun _ => fun
  | [d1, d2] => { results := [.lit (.bool false)], args := [d1, d2] }
  | _ => none }
def WireHardsWrongFalsely : Prop := wireHardsRow.holds Try.pinned (OpenSpec.ofChange wireHardsWrong)

/- THE SECOND FORM. 'bulk': how many values and letters a reading holds, each counted each time it is reached (what is shared counts as often as it is met; a slice's spare places count too). A statement '..UptoSaid' is the law's where the arguments, and the package variables that the reading takes, are together of bulk at most 1048576: NARROWER than '..Said'. Prove '..Said' where nothing that the law and all that it calls make is longer than what came in: it says more and counts as full. Else prove '..UptoSaid'. A law counts once. -/
mutual
def uptoBulk {H : Type} : DataW H → Nat
  | .lit (.string bytes) => bytes.length + 1
  | .lit _ => 1
  | .nil => 1
  | .ptr d => uptoBulk d + 1
  | .slice elems spare => uptoBulkAll elems + uptoBulkAll spare + 1
  | .agg parts => uptoBulkAll parts + 1
  | .iface _ d => uptoBulk d + 1
  | .map entries => uptoBulkEntries entries + 1
  | .held _ => 1
def uptoBulkAll {H : Type} : List (DataW H) → Nat
  | [] => 0
  | d :: r => uptoBulk d + uptoBulkAll r
def uptoBulkEntries {H : Type} : List (Lit × DataW H) → Nat
  | [] => 0
  | x :: r => uptoBulkEntry x + uptoBulkEntries r
def uptoBulkEntry {H : Type} : Lit × DataW H → Nat
  | (.string bytes, d) => bytes.length + uptoBulk d + 1
  | (_, d) => uptoBulk d + 1
 end
def uptoSmall : (H : Type) → List (DataW H) → Bool := fun _ ds => decide (uptoBulkAll ds ≤ 1048576)
def OpenSpec.upto (s : _root_.Go.ChangeSpec) : _root_.Go.OpenSpec := { _root_.Go.OpenSpec.ofChange s with cond := some uptoSmall }

/-- 'tollgatelaw02.WireNumbers', WHERE WHAT IT READS IS OF BULK AT MOST 1048576: true; the input reads as it did. -/
def wireNumbersUptoRow : OpenClaim := { program := "ytmnpokjccbafdaa", sum := "8f34548236e49caf78e65d36ff1c6fa09300c6bdc1b3d7bc3b0b9b9bdcf11a3b", func := "tollgate/tollgatelaw02.WireNumbers", spec := "wireNumbers", unfollowed := true, recurses := true, apart := false, narrowed := true }
def WireNumbersUptoSaid : Prop := wireNumbersUptoRow.holds Try.pinned (OpenSpec.upto wireNumbersSpec)

/-- 'tollgatelaw02.WireTakes', WHERE WHAT IT READS IS OF BULK AT MOST 1048576: true; the input reads as it did. -/
def wireTakesUptoRow : OpenClaim := { program := "ytmnpokjccbafdaa", sum := "8f34548236e49caf78e65d36ff1c6fa09300c6bdc1b3d7bc3b0b9b9bdcf11a3b", func := "tollgate/tollgatelaw02.WireTakes", spec := "wireTakes", unfollowed := true, recurses := true, apart := false, narrowed := true }
def WireTakesUptoSaid : Prop := wireTakesUptoRow.holds Try.pinned (OpenSpec.upto wireTakesSpec)

/-- 'tollgatelaw02.WireNumberBack', WHERE WHAT IT READS IS OF BULK AT MOST 1048576: true; the input reads as it did. -/
def wireNumberBackUptoRow : OpenClaim := { program := "ytmnpokjccbafdaa", sum := "8f34548236e49caf78e65d36ff1c6fa09300c6bdc1b3d7bc3b0b9b9bdcf11a3b", func := "tollgate/tollgatelaw02.WireNumberBack", spec := "wireNumberBack", unfollowed := true, recurses := true, apart := false, narrowed := true }
def WireNumberBackUptoSaid : Prop := wireNumberBackUptoRow.holds Try.pinned (OpenSpec.upto wireNumberBackSpec)

/-- 'tollgatelaw02.WireEntries', WHERE WHAT IT READS IS OF BULK AT MOST 1048576: true; the input reads as it did. -/
def wireEntriesUptoRow : OpenClaim := { program := "ytmnpokjccbafdaa", sum := "8f34548236e49caf78e65d36ff1c6fa09300c6bdc1b3d7bc3b0b9b9bdcf11a3b", func := "tollgate/tollgatelaw02.WireEntries", spec := "wireEntries", unfollowed := true, recurses := true, apart := false, narrowed := true }
def WireEntriesUptoSaid : Prop := wireEntriesUptoRow.holds Try.pinned (OpenSpec.upto wireEntriesSpec)

/-- 'tollgatelaw02.WireReadsEntry', WHERE WHAT IT READS IS OF BULK AT MOST 1048576: true; the input reads as it did. -/
def wireReadsEntryUptoRow : OpenClaim := { program := "ytmnpokjccbafdaa", sum := "8f34548236e49caf78e65d36ff1c6fa09300c6bdc1b3d7bc3b0b9b9bdcf11a3b", func := "tollgate/tollgatelaw02.WireReadsEntry", spec := "wireReadsEntry", unfollowed := true, recurses := true, apart := false, narrowed := true }
def WireReadsEntryUptoSaid : Prop := wireReadsEntryUptoRow.holds Try.pinned (OpenSpec.upto wireReadsEntrySpec)

/-- 'tollgatelaw02.WireHards', WHERE WHAT IT READS IS OF BULK AT MOST 1048576: true; the input reads as it did. -/
def wireHardsUptoRow : OpenClaim := { program := "ytmnpokjccbafdaa", sum := "8f34548236e49caf78e65d36ff1c6fa09300c6bdc1b3d7bc3b0b9b9bdcf11a3b", func := "tollgate/tollgatelaw02.WireHards", spec := "wireHards", unfollowed := true, recurses := true, apart := false, narrowed := true }
def WireHardsUptoSaid : Prop := wireHardsUptoRow.holds Try.pinned (OpenSpec.upto wireHardsSpec)

end Rows
end Go.Proofs.Ytmnpokjccbafdaa
