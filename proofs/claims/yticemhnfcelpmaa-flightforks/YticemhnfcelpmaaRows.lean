/-
  No cell of these rows narrows 'for every input' (looked for: loops, veiled, ifaces, maps, wideKeys, modest, calm, conditions, laid).
  DERIVED. THE GIVEN ROWS OF THIS SEAT. 2 by the template 'for every input the law returns true; each argument reads behind the call as it read before'; 0 by the template 'total and deterministic' (their statements: YticemhnfcelpmaaTotals.lean).
  GIVEN WITH THE SEED: the statements are not yours to turn. If you find one false, say at which input.
  Laid BY PROGRAM, IN A SANDBOX (cutbox-rows.mjs): the forced cells as the released guide's own fill.sh prints them over the translation 1104c4280005ee11… (all of the seat's roots in one cut). By AI agents, Wed Nov 11 2026. No macro, syntax, notation, axiom, sorry.
-/
import Derived.Test.YticemhnfcelpmaaChecked
import GoSem.Claim
import GoSem.ClaimJoined
import GoSem.ClaimMapViews
import Derived.JoinedTies
import Derived.KernelRfl
namespace Go.Proofs.Yticemhnfcelpmaa
/- THE CELL 'sum', in the pinned program and in every row, IS THE sha256 OF THE DUMP (.gsa) THAT YticemhnfcelpmaaProg.lean LOADS. Nothing in Lean hashes anything: it is a label: what it is worth is what the hold of that sum in a sandbox is worth. -/
noncomputable def Try.pinned : Pinned := { name := "yticemhnfcelpmaa", sum := "1104c4280005ee11617b6ddd1db9e93e774ba457579dbc0bb14b670c9208fdad", checked := Try.checked }
namespace Rows
def none {H : Type} : Left H := { results := [], args := [] }

/-- 'tollgatelaw04.FlightTaken': WHATEVER THE INPUT: true; the input reads as it did. -/
def flightTakenSpec : ChangeSpec := { name := "flightTaken", fn := fun _ => fun
  | [d] => { results := [.lit (.bool true)], args := [d] }
  | _ => none }
def flightTakenRow : OpenClaim := { program := "yticemhnfcelpmaa", sum := "1104c4280005ee11617b6ddd1db9e93e774ba457579dbc0bb14b670c9208fdad", func := "tollgate/tollgatelaw04.FlightTaken", spec := "flightTaken", unfollowed := true, recurses := true, plainKeys := false, apart := false }
def FlightTakenSaid : Prop := flightTakenRow.holds Try.pinned (OpenSpec.ofChange flightTakenSpec)

/-- ITS FALSE NEIGHBOUR: 'it returns false'. Refute it at one input. -/
def flightTakenWrong : ChangeSpec := { name := "flightTaken", fn := fun _ => fun
  | [d] => { results := [.lit (.bool false)], args := [d] }
  | _ => none }
def FlightTakenWrongFalsely : Prop := flightTakenRow.holds Try.pinned (OpenSpec.ofChange flightTakenWrong)

/-- 'tollgatelaw04.FlightForks': WHATEVER THE INPUT: true; the input reads as it did. -/
def flightForksSpec : ChangeSpec := { name := "flightForks", fn := fun _ => fun
  | [d1, d2] => { results := [.lit (.bool true)], args := [d1, d2] }
  | _ => none }
def flightForksRow : OpenClaim := { program := "yticemhnfcelpmaa", sum := "1104c4280005ee11617b6ddd1db9e93e774ba457579dbc0bb14b670c9208fdad", func := "tollgate/tollgatelaw04.FlightForks", spec := "flightForks", inPlace := ["maps.clone"], unfollowed := true, recurses := true, plainKeys := false, apart := false }
def FlightForksSaid : Prop := flightForksRow.holds Try.pinned (OpenSpec.ofChange flightForksSpec)

/-- ITS FALSE NEIGHBOUR: 'it returns false'. Refute it at one input. -/
def flightForksWrong : ChangeSpec := { name := "flightForks", fn := fun _ => fun
  | [d1, d2] => { results := [.lit (.bool false)], args := [d1, d2] }
  | _ => none }
def FlightForksWrongFalsely : Prop := flightForksRow.holds Try.pinned (OpenSpec.ofChange flightForksWrong)

/- THE SECOND FORM. 'bulk': how many values and letters a reading holds, each counted each time it is reached (what is shared counts as often as it is met; a slice's spare places count too). A statement '..UptoSaid' is the law's where the arguments, and the package variables that the reading takes, are together of bulk at most 1048576: NARROWER than '..Said'. Prove '..Said' where nothing that the law and all that it calls make is longer than what came in: it says more and counts as full. Else prove '..UptoSaid'. A law counts once. -/
mutual
def uptoBulk {H : Type} : DataW H → Nat
  | .lit (.string bytes) => bytes.length + 1
  | .lit _ => 1
  | .nil => 1
  | .ptr d => uptoBulk d + 1
  | .slice elems spare => uptoBulkAll elems + uptoBulkAll spare + 1
  | .agg parts => uptoBulkAll parts + 1
  | .iface _ d => uptoBulk d + 1
  | .map entries => uptoBulkEntries entries + 1
  | .held _ => 1
def uptoBulkAll {H : Type} : List (DataW H) → Nat
  | [] => 0
  | d :: r => uptoBulk d + uptoBulkAll r
def uptoBulkEntries {H : Type} : List (Lit × DataW H) → Nat
  | [] => 0
  | x :: r => uptoBulkEntry x + uptoBulkEntries r
def uptoBulkEntry {H : Type} : Lit × DataW H → Nat
  | (.string bytes, d) => bytes.length + uptoBulk d + 1
  | (_, d) => uptoBulk d + 1
 end
def uptoSmall : (H : Type) → List (DataW H) → Bool := fun _ ds => decide (uptoBulkAll ds ≤ 1048576)
def OpenSpec.upto (s : _root_.Go.ChangeSpec) : _root_.Go.OpenSpec := { _root_.Go.OpenSpec.ofChange s with cond := some uptoSmall }

/-- 'tollgatelaw04.FlightTaken', WHERE WHAT IT READS IS OF BULK AT MOST 1048576: true; the input reads as it did. -/
def flightTakenUptoRow : OpenClaim := { program := "yticemhnfcelpmaa", sum := "1104c4280005ee11617b6ddd1db9e93e774ba457579dbc0bb14b670c9208fdad", func := "tollgate/tollgatelaw04.FlightTaken", spec := "flightTaken", unfollowed := true, recurses := true, plainKeys := false, apart := false, narrowed := true }
def FlightTakenUptoSaid : Prop := flightTakenUptoRow.holds Try.pinned (OpenSpec.upto flightTakenSpec)

/-- 'tollgatelaw04.FlightForks', WHERE WHAT IT READS IS OF BULK AT MOST 1048576: true; the input reads as it did. -/
def flightForksUptoRow : OpenClaim := { program := "yticemhnfcelpmaa", sum := "1104c4280005ee11617b6ddd1db9e93e774ba457579dbc0bb14b670c9208fdad", func := "tollgate/tollgatelaw04.FlightForks", spec := "flightForks", inPlace := ["maps.clone"], unfollowed := true, recurses := true, plainKeys := false, apart := false, narrowed := true }
def FlightForksUptoSaid : Prop := flightForksUptoRow.holds Try.pinned (OpenSpec.upto flightForksSpec)

end Rows
end Go.Proofs.Yticemhnfcelpmaa
