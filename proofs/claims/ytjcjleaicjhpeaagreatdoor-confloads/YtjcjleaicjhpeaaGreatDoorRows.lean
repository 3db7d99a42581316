/-
  NARROWER THAN 'FOR EVERY INPUT', by the rows' own cells (each row's printed sentence says how): ConfDoes: laid · ConfOnce: laid · ConfExpects: laid · ConfSorted: laid · ConfTells: laid · ConfLoads: laid · ConfSaves: laid · ConfForks: laid · ConfNone: laid.
  DERIVED. THE GIVEN ROWS OF THIS SEAT. 9 by the template 'for every input the law returns true; each argument reads behind the call as it read before'; 0 by the template 'total and deterministic' (their statements: YtjcjleaicjhpeaaGreatDoorTotals.lean).
  GIVEN WITH THE SEED: the statements are not yours to turn. If you find one false, say at which input.
  Laid BY PROGRAM, IN A SANDBOX (cutbox-rows.mjs): the forced cells as the released guide's own fill.sh prints them over the translation 6e2b8a03a750d5fc… (all of the seat's roots in one cut). By AI agents, Wed Nov 11 2026. No macro, syntax, notation, axiom, sorry.
-/
import Derived.Test.YtjcjleaicjhpeaaGreatDoorChecked
import GoSem.PinnedTables
import GoSem.Claim
import GoSem.ClaimJoined
import GoSem.ClaimMapViews
import Derived.JoinedTies
import Derived.KernelRfl
namespace Go.Proofs.YtjcjleaicjhpeaaGreatDoor
/- THE CELL 'sum', in the pinned program and in every row, IS THE sha256 OF THE DUMP (.gsa) THAT YtjcjleaicjhpeaaGreatDoorProg.lean LOADS. Nothing in Lean hashes anything: it is a label: what it is worth is what the hold of that sum in a sandbox is worth. -/
noncomputable def Tryz.pinned : Pinned := { name := "ytjcjleaicjhpeaagreatdoor", sum := "6e2b8a03a750d5fcf9194845799075139deee56532d17482835442263a79631a", checked := Tryz.checked }
namespace Rows
def none {H : Type} : Left H := { results := [], args := [] }

/- WHAT THE LISTED PACKAGE-LEVEL VARIABLES READ AS WHEN THE CALL BEGINS. Each datum BY PROGRAM (the guide's laid-datum.mjs) off the statement by which the dump's own 'gosem.cut.vars' lays the variable. In a bare row this is a premise. The card (YtjcjleaicjhpeaaGreatDoorCards.lean) ties it to the program's text. -/
def laid_unicode_utf8_acceptRanges {H : Type} : DataW H := .agg [.agg [.lit (.int .u8 128), .lit (.int .u8 191)], .agg [.lit (.int .u8 160), .lit (.int .u8 191)], .agg [.lit (.int .u8 128), .lit (.int .u8 159)], .agg [.lit (.int .u8 144), .lit (.int .u8 191)], .agg [.lit (.int .u8 128), .lit (.int .u8 143)], .agg [.lit (.int .u8 0), .lit (.int .u8 0)], .agg [.lit (.int .u8 0), .lit (.int .u8 0)], .agg [.lit (.int .u8 0), .lit (.int .u8 0)], .agg [.lit (.int .u8 0), .lit (.int .u8 0)], .agg [.lit (.int .u8 0), .lit (.int .u8 0)], .agg [.lit (.int .u8 0), .lit (.int .u8 0)], .agg [.lit (.int .u8 0), .lit (.int .u8 0)], .agg [.lit (.int .u8 0), .lit (.int .u8 0)], .agg [.lit (.int .u8 0), .lit (.int .u8 0)], .agg [.lit (.int .u8 0), .lit (.int .u8 0)], .agg [.lit (.int .u8 0), .lit (.int .u8 0)]]
/-- One of Go's own tables, pinned by name: the form's constant. -/
def laid_unicode_utf8_first : DataW Unit := Go.Pinned.utf8First

/-- 'tollgatelaw08.ConfDoes': WHATEVER THE INPUT: true; the input reads as it did. -/
def confDoesSpec : ChangeSpec := { name := "confDoes", fn := fun _ => fun
  | [d] => { results := [.lit (.bool true)], args := [d] }
  | _ => none }
def confDoesRow : OpenClaim := { program := "ytjcjleaicjhpeaagreatdoor", sum := "6e2b8a03a750d5fcf9194845799075139deee56532d17482835442263a79631a", func := "tollgate/tollgatelaw08.ConfDoes", spec := "confDoes", inPlace := ["internal/bytealg.CountString", "internal/bytealg.IndexByteString", "internal/bytealg.IndexString", "math.Float64bits", "math.Float64frombits"], unfollowed := true, recurses := true, named := ["unicode/utf8.first", "unicode/utf8.acceptRanges", "internal/bytealg.MaxLen"], plainKeys := false, apart := false, laid := [("unicode/utf8.acceptRanges", laid_unicode_utf8_acceptRanges), ("unicode/utf8.first", laid_unicode_utf8_first)] }
def ConfDoesSaid : Prop := confDoesRow.holds Tryz.pinned (OpenSpec.ofChange confDoesSpec)

/-- ITS FALSE NEIGHBOUR: 'it returns false'. Refute it at one input. -/
def confDoesWrong : ChangeSpec := { name := "confDoes", fn := fun _ => fun
  | [d] => { results := [.lit (.bool false)], args := [d] }
  | _ => none }
def ConfDoesWrongFalsely : Prop := confDoesRow.holds Tryz.pinned (OpenSpec.ofChange confDoesWrong)

/-- 'tollgatelaw08.ConfOnce': WHATEVER THE INPUT: true; the input reads as it did. -/
def confOnceSpec : ChangeSpec := { name := "confOnce", fn := fun _ => fun
  | [d1, d2, d3] => { results := [.lit (.bool true)], args := [d1, d2, d3] }
  | _ => none }
def confOnceRow : OpenClaim := { program := "ytjcjleaicjhpeaagreatdoor", sum := "6e2b8a03a750d5fcf9194845799075139deee56532d17482835442263a79631a", func := "tollgate/tollgatelaw08.ConfOnce", spec := "confOnce", inPlace := ["internal/bytealg.CountString", "internal/bytealg.IndexByteString", "internal/bytealg.IndexString", "math.Float64bits", "math.Float64frombits"], unfollowed := true, recurses := true, named := ["unicode/utf8.first", "unicode/utf8.acceptRanges", "internal/bytealg.MaxLen"], plainKeys := false, apart := false, laid := [("unicode/utf8.acceptRanges", laid_unicode_utf8_acceptRanges), ("unicode/utf8.first", laid_unicode_utf8_first)] }
def ConfOnceSaid : Prop := confOnceRow.holds Tryz.pinned (OpenSpec.ofChange confOnceSpec)

/-- ITS FALSE NEIGHBOUR: 'it returns false'. Refute it at one input. -/
def confOnceWrong : ChangeSpec := { name := "confOnce", fn := fun _ => fun
  | [d1, d2, d3] => { results := [.lit (.bool false)], args := [d1, d2, d3] }
  | _ => none }
def ConfOnceWrongFalsely : Prop := confOnceRow.holds Tryz.pinned (OpenSpec.ofChange confOnceWrong)

/-- 'tollgatelaw08.ConfExpects': WHATEVER THE INPUT: true; the input reads as it did. -/
def confExpectsSpec : ChangeSpec := { name := "confExpects", fn := fun _ => fun
  | [d1, d2] => { results := [.lit (.bool true)], args := [d1, d2] }
  | _ => none }
def confExpectsRow : OpenClaim := { program := "ytjcjleaicjhpeaagreatdoor", sum := "6e2b8a03a750d5fcf9194845799075139deee56532d17482835442263a79631a", func := "tollgate/tollgatelaw08.ConfExpects", spec := "confExpects", inPlace := ["internal/bytealg.CountString", "internal/bytealg.IndexByteString", "internal/bytealg.IndexString", "math.Float64bits", "math.Float64frombits"], unfollowed := true, recurses := true, named := ["unicode/utf8.first", "unicode/utf8.acceptRanges", "internal/bytealg.MaxLen"], plainKeys := false, apart := false, laid := [("unicode/utf8.acceptRanges", laid_unicode_utf8_acceptRanges), ("unicode/utf8.first", laid_unicode_utf8_first)] }
def ConfExpectsSaid : Prop := confExpectsRow.holds Tryz.pinned (OpenSpec.ofChange confExpectsSpec)

/-- ITS FALSE NEIGHBOUR: 'it returns false'. Refute it at one input. -/
def confExpectsWrong : ChangeSpec := { name := "confExpects", fn := fun _ => fun
  | [d1, d2] => { results := [.lit (.bool false)], args := [d1, d2] }
  | _ => none }
def ConfExpectsWrongFalsely : Prop := confExpectsRow.holds Tryz.pinned (OpenSpec.ofChange confExpectsWrong)

/-- 'tollgatelaw08.ConfSorted': WHATEVER THE INPUT: true; the input reads as it did. -/
def confSortedSpec : ChangeSpec := { name := "confSorted", fn := fun _ => fun
  | [d] => { results := [.lit (.bool true)], args := [d] }
  | _ => none }
def confSortedRow : OpenClaim := { program := "ytjcjleaicjhpeaagreatdoor", sum := "6e2b8a03a750d5fcf9194845799075139deee56532d17482835442263a79631a", func := "tollgate/tollgatelaw08.ConfSorted", spec := "confSorted", inPlace := ["internal/bytealg.CountString", "internal/bytealg.IndexByteString", "internal/bytealg.IndexString", "math.Float64bits", "math.Float64frombits"], unfollowed := true, recurses := true, named := ["unicode/utf8.first", "unicode/utf8.acceptRanges", "internal/bytealg.MaxLen"], plainKeys := false, apart := false, laid := [("unicode/utf8.acceptRanges", laid_unicode_utf8_acceptRanges), ("unicode/utf8.first", laid_unicode_utf8_first)] }
def ConfSortedSaid : Prop := confSortedRow.holds Tryz.pinned (OpenSpec.ofChange confSortedSpec)

/-- ITS FALSE NEIGHBOUR: 'it returns false'. Refute it at one input. -/
def confSortedWrong : ChangeSpec := { name := "confSorted", fn := fun _ => fun
  | [d] => { results := [.lit (.bool false)], args := [d] }
  | _ => none }
def ConfSortedWrongFalsely : Prop := confSortedRow.holds Tryz.pinned (OpenSpec.ofChange confSortedWrong)

/-- 'tollgatelaw08.ConfTells': WHATEVER THE INPUT: true; the input reads as it did. -/
def confTellsSpec : ChangeSpec := { name := "confTells", fn := fun _ => fun
  | [d1, d2, d3] => { results := [.lit (.bool true)], args := [d1, d2, d3] }
  | _ => none }
def confTellsRow : OpenClaim := { program := "ytjcjleaicjhpeaagreatdoor", sum := "6e2b8a03a750d5fcf9194845799075139deee56532d17482835442263a79631a", func := "tollgate/tollgatelaw08.ConfTells", spec := "confTells", inPlace := ["internal/bytealg.CountString", "internal/bytealg.IndexByteString", "internal/bytealg.IndexString", "math.Float64bits", "math.Float64frombits"], unfollowed := true, recurses := true, named := ["unicode/utf8.first", "unicode/utf8.acceptRanges", "internal/bytealg.MaxLen"], plainKeys := false, apart := false, laid := [("unicode/utf8.acceptRanges", laid_unicode_utf8_acceptRanges), ("unicode/utf8.first", laid_unicode_utf8_first)] }
def ConfTellsSaid : Prop := confTellsRow.holds Tryz.pinned (OpenSpec.ofChange confTellsSpec)

/-- ITS FALSE NEIGHBOUR: 'it returns false'. Refute it at one input. -/
def confTellsWrong : ChangeSpec := { name := "confTells", fn := fun _ => fun
  | [d1, d2, d3] => { results := [.lit (.bool false)], args := [d1, d2, d3] }
  | _ => none }
def ConfTellsWrongFalsely : Prop := confTellsRow.holds Tryz.pinned (OpenSpec.ofChange confTellsWrong)

/-- 'tollgatelaw08.ConfLoads': WHATEVER THE INPUT: true; the input reads as it did. -/
def confLoadsSpec : ChangeSpec := { name := "confLoads", fn := fun _ => fun
  | [d] => { results := [.lit (.bool true)], args := [d] }
  | _ => none }
def confLoadsRow : OpenClaim := { program := "ytjcjleaicjhpeaagreatdoor", sum := "6e2b8a03a750d5fcf9194845799075139deee56532d17482835442263a79631a", func := "tollgate/tollgatelaw08.ConfLoads", spec := "confLoads", inPlace := ["math.Float64frombits", "math.Float64bits", "internal/bytealg.CountString", "internal/bytealg.IndexByteString", "internal/bytealg.IndexString"], unfollowed := true, recurses := true, named := ["unicode/utf8.first", "unicode/utf8.acceptRanges", "internal/bytealg.MaxLen"], plainKeys := false, apart := false, laid := [("unicode/utf8.acceptRanges", laid_unicode_utf8_acceptRanges), ("unicode/utf8.first", laid_unicode_utf8_first)] }
def ConfLoadsSaid : Prop := confLoadsRow.holds Tryz.pinned (OpenSpec.ofChange confLoadsSpec)

/-- ITS FALSE NEIGHBOUR: 'it returns false'. Refute it at one input. -/
def confLoadsWrong : ChangeSpec := { name := "confLoads", fn := fun _ => fun
  | [d] => { results := [.lit (.bool false)], args := [d] }
  | _ => none }
def ConfLoadsWrongFalsely : Prop := confLoadsRow.holds Tryz.pinned (OpenSpec.ofChange confLoadsWrong)

/-- 'tollgatelaw08.ConfSaves': WHATEVER THE INPUT: true; the input reads as it did. -/
def confSavesSpec : ChangeSpec := { name := "confSaves", fn := fun _ => fun
  | [d1, d2] => { results := [.lit (.bool true)], args := [d1, d2] }
  | _ => none }
def confSavesRow : OpenClaim := { program := "ytjcjleaicjhpeaagreatdoor", sum := "6e2b8a03a750d5fcf9194845799075139deee56532d17482835442263a79631a", func := "tollgate/tollgatelaw08.ConfSaves", spec := "confSaves", inPlace := ["internal/bytealg.CountString", "internal/bytealg.IndexByteString", "internal/bytealg.IndexString", "math.Float64bits", "math.Float64frombits"], unfollowed := true, recurses := true, named := ["unicode/utf8.first", "unicode/utf8.acceptRanges", "internal/bytealg.MaxLen"], plainKeys := false, apart := false, laid := [("unicode/utf8.acceptRanges", laid_unicode_utf8_acceptRanges), ("unicode/utf8.first", laid_unicode_utf8_first)] }
def ConfSavesSaid : Prop := confSavesRow.holds Tryz.pinned (OpenSpec.ofChange confSavesSpec)

/-- ITS FALSE NEIGHBOUR: 'it returns false'. Refute it at one input. -/
def confSavesWrong : ChangeSpec := { name := "confSaves", fn := fun _ => fun
  | [d1, d2] => { results := [.lit (.bool false)], args := [d1, d2] }
  | _ => none }
def ConfSavesWrongFalsely : Prop := confSavesRow.holds Tryz.pinned (OpenSpec.ofChange confSavesWrong)

/-- 'tollgatelaw08.ConfForks': WHATEVER THE INPUT: true; the input reads as it did. -/
def confForksSpec : ChangeSpec := { name := "confForks", fn := fun _ => fun
  | [d1, d2] => { results := [.lit (.bool true)], args := [d1, d2] }
  | _ => none }
def confForksRow : OpenClaim := { program := "ytjcjleaicjhpeaagreatdoor", sum := "6e2b8a03a750d5fcf9194845799075139deee56532d17482835442263a79631a", func := "tollgate/tollgatelaw08.ConfForks", spec := "confForks", inPlace := ["internal/bytealg.CountString", "internal/bytealg.IndexByteString", "internal/bytealg.IndexString", "math.Float64bits", "math.Float64frombits", "maps.clone"], unfollowed := true, recurses := true, named := ["unicode/utf8.first", "unicode/utf8.acceptRanges", "internal/bytealg.MaxLen"], plainKeys := false, apart := false, laid := [("unicode/utf8.acceptRanges", laid_unicode_utf8_acceptRanges), ("unicode/utf8.first", laid_unicode_utf8_first)] }
def ConfForksSaid : Prop := confForksRow.holds Tryz.pinned (OpenSpec.ofChange confForksSpec)

/-- ITS FALSE NEIGHBOUR: 'it returns false'. Refute it at one input. -/
def confForksWrong : ChangeSpec := { name := "confForks", fn := fun _ => fun
  | [d1, d2] => { results := [.lit (.bool false)], args := [d1, d2] }
  | _ => none }
def ConfForksWrongFalsely : Prop := confForksRow.holds Tryz.pinned (OpenSpec.ofChange confForksWrong)

/-- 'tollgatelaw08.ConfNone': WHATEVER THE INPUT: true; the input reads as it did. -/
def confNoneSpec : ChangeSpec := { name := "confNone", fn := fun _ => fun
  | [d1, d2] => { results := [.lit (.bool true)], args := [d1, d2] }
  | _ => none }
def confNoneRow : OpenClaim := { program := "ytjcjleaicjhpeaagreatdoor", sum := "6e2b8a03a750d5fcf9194845799075139deee56532d17482835442263a79631a", func := "tollgate/tollgatelaw08.ConfNone", spec := "confNone", inPlace := ["internal/bytealg.CountString", "internal/bytealg.IndexByteString", "internal/bytealg.IndexString", "math.Float64bits", "math.Float64frombits", "maps.clone"], unfollowed := true, recurses := true, named := ["unicode/utf8.first", "unicode/utf8.acceptRanges", "internal/bytealg.MaxLen"], plainKeys := false, apart := false, laid := [("unicode/utf8.acceptRanges", laid_unicode_utf8_acceptRanges), ("unicode/utf8.first", laid_unicode_utf8_first)] }
def ConfNoneSaid : Prop := confNoneRow.holds Tryz.pinned (OpenSpec.ofChange confNoneSpec)

/-- ITS FALSE NEIGHBOUR: 'it returns false'. Refute it at one input. -/
def confNoneWrong : ChangeSpec := { name := "confNone", fn := fun _ => fun
  | [d1, d2] => { results := [.lit (.bool false)], args := [d1, d2] }
  | _ => none }
def ConfNoneWrongFalsely : Prop := confNoneRow.holds Tryz.pinned (OpenSpec.ofChange confNoneWrong)

/- THE SECOND FORM. 'bulk': how many values and letters a reading holds, each counted each time it is reached (what is shared counts as often as it is met; a slice's spare places count too). A statement '..UptoSaid' is the law's where the arguments, and the package variables that the reading takes, are together of bulk at most 1048576: NARROWER than '..Said'. Prove '..Said' where nothing that the law and all that it calls make is longer than what came in: it says more and counts as full. Else prove '..UptoSaid'. A law counts once. -/
mutual
def uptoBulk {H : Type} : DataW H → Nat
  | .lit (.string bytes) => bytes.length + 1
  | .lit _ => 1
  | .nil => 1
  | .ptr d => uptoBulk d + 1
  | .slice elems spare => uptoBulkAll elems + uptoBulkAll spare + 1
  | .agg parts => uptoBulkAll parts + 1
  | .iface _ d => uptoBulk d + 1
  | .map entries => uptoBulkEntries entries + 1
  | .held _ => 1
def uptoBulkAll {H : Type} : List (DataW H) → Nat
  | [] => 0
  | d :: r => uptoBulk d + uptoBulkAll r
def uptoBulkEntries {H : Type} : List (Lit × DataW H) → Nat
  | [] => 0
  | x :: r => uptoBulkEntry x + uptoBulkEntries r
def uptoBulkEntry {H : Type} : Lit × DataW H → Nat
  | (.string bytes, d) => bytes.length + uptoBulk d + 1
  | (_, d) => uptoBulk d + 1
 end
def uptoSmall : (H : Type) → List (DataW H) → Bool := fun _ ds => decide (uptoBulkAll ds ≤ 1048576)
def OpenSpec.upto (s : _root_.Go.ChangeSpec) : _root_.Go.OpenSpec := { _root_.Go.OpenSpec.ofChange s with cond := some uptoSmall }

/-- 'tollgatelaw08.ConfDoes', WHERE WHAT IT READS IS OF BULK AT MOST 1048576: true; the input reads as it did. -/
def confDoesUptoRow : OpenClaim := { program := "ytjcjleaicjhpeaagreatdoor", sum := "6e2b8a03a750d5fcf9194845799075139deee56532d17482835442263a79631a", func := "tollgate/tollgatelaw08.ConfDoes", spec := "confDoes", inPlace := ["internal/bytealg.CountString", "internal/bytealg.IndexByteString", "internal/bytealg.IndexString", "math.Float64bits", "math.Float64frombits"], unfollowed := true, recurses := true, named := ["unicode/utf8.first", "unicode/utf8.acceptRanges", "internal/bytealg.MaxLen"], plainKeys := false, apart := false, laid := [("unicode/utf8.acceptRanges", laid_unicode_utf8_acceptRanges), ("unicode/utf8.first", laid_unicode_utf8_first)], narrowed := true }
def ConfDoesUptoSaid : Prop := confDoesUptoRow.holds Tryz.pinned (OpenSpec.upto confDoesSpec)

/-- 'tollgatelaw08.ConfOnce', WHERE WHAT IT READS IS OF BULK AT MOST 1048576: true; the input reads as it did. -/
def confOnceUptoRow : OpenClaim := { program := "ytjcjleaicjhpeaagreatdoor", sum := "6e2b8a03a750d5fcf9194845799075139deee56532d17482835442263a79631a", func := "tollgate/tollgatelaw08.ConfOnce", spec := "confOnce", inPlace := ["internal/bytealg.CountString", "internal/bytealg.IndexByteString", "internal/bytealg.IndexString", "math.Float64bits", "math.Float64frombits"], unfollowed := true, recurses := true, named := ["unicode/utf8.first", "unicode/utf8.acceptRanges", "internal/bytealg.MaxLen"], plainKeys := false, apart := false, laid := [("unicode/utf8.acceptRanges", laid_unicode_utf8_acceptRanges), ("unicode/utf8.first", laid_unicode_utf8_first)], narrowed := true }
def ConfOnceUptoSaid : Prop := confOnceUptoRow.holds Tryz.pinned (OpenSpec.upto confOnceSpec)

/-- 'tollgatelaw08.ConfExpects', WHERE WHAT IT READS IS OF BULK AT MOST 1048576: true; the input reads as it did. -/
def confExpectsUptoRow : OpenClaim := { program := "ytjcjleaicjhpeaagreatdoor", sum := "6e2b8a03a750d5fcf9194845799075139deee56532d17482835442263a79631a", func := "tollgate/tollgatelaw08.ConfExpects", spec := "confExpects", inPlace := ["internal/bytealg.CountString", "internal/bytealg.IndexByteString", "internal/bytealg.IndexString", "math.Float64bits", "math.Float64frombits"], unfollowed := true, recurses := true, named := ["unicode/utf8.first", "unicode/utf8.acceptRanges", "internal/bytealg.MaxLen"], plainKeys := false, apart := false, laid := [("unicode/utf8.acceptRanges", laid_unicode_utf8_acceptRanges), ("unicode/utf8.first", laid_unicode_utf8_first)], narrowed := true }
def ConfExpectsUptoSaid : Prop := confExpectsUptoRow.holds Tryz.pinned (OpenSpec.upto confExpectsSpec)

/-- 'tollgatelaw08.ConfSorted', WHERE WHAT IT READS IS OF BULK AT MOST 1048576: true; the input reads as it did. -/
def confSortedUptoRow : OpenClaim := { program := "ytjcjleaicjhpeaagreatdoor", sum := "6e2b8a03a750d5fcf9194845799075139deee56532d17482835442263a79631a", func := "tollgate/tollgatelaw08.ConfSorted", spec := "confSorted", inPlace := ["internal/bytealg.CountString", "internal/bytealg.IndexByteString", "internal/bytealg.IndexString", "math.Float64bits", "math.Float64frombits"], unfollowed := true, recurses := true, named := ["unicode/utf8.first", "unicode/utf8.acceptRanges", "internal/bytealg.MaxLen"], plainKeys := false, apart := false, laid := [("unicode/utf8.acceptRanges", laid_unicode_utf8_acceptRanges), ("unicode/utf8.first", laid_unicode_utf8_first)], narrowed := true }
def ConfSortedUptoSaid : Prop := confSortedUptoRow.holds Tryz.pinned (OpenSpec.upto confSortedSpec)

/-- 'tollgatelaw08.ConfTells', WHERE WHAT IT READS IS OF BULK AT MOST 1048576: true; the input reads as it did. -/
def confTellsUptoRow : OpenClaim := { program := "ytjcjleaicjhpeaagreatdoor", sum := "6e2b8a03a750d5fcf9194845799075139deee56532d17482835442263a79631a", func := "tollgate/tollgatelaw08.ConfTells", spec := "confTells", inPlace := ["internal/bytealg.CountString", "internal/bytealg.IndexByteString", "internal/bytealg.IndexString", "math.Float64bits", "math.Float64frombits"], unfollowed := true, recurses := true, named := ["unicode/utf8.first", "unicode/utf8.acceptRanges", "internal/bytealg.MaxLen"], plainKeys := false, apart := false, laid := [("unicode/utf8.acceptRanges", laid_unicode_utf8_acceptRanges), ("unicode/utf8.first", laid_unicode_utf8_first)], narrowed := true }
def ConfTellsUptoSaid : Prop := confTellsUptoRow.holds Tryz.pinned (OpenSpec.upto confTellsSpec)

/-- 'tollgatelaw08.ConfLoads', WHERE WHAT IT READS IS OF BULK AT MOST 1048576: true; the input reads as it did. -/
def confLoadsUptoRow : OpenClaim := { program := "ytjcjleaicjhpeaagreatdoor", sum := "6e2b8a03a750d5fcf9194845799075139deee56532d17482835442263a79631a", func := "tollgate/tollgatelaw08.ConfLoads", spec := "confLoads", inPlace := ["math.Float64frombits", "math.Float64bits", "internal/bytealg.CountString", "internal/bytealg.IndexByteString", "internal/bytealg.IndexString"], unfollowed := true, recurses := true, named := ["unicode/utf8.first", "unicode/utf8.acceptRanges", "internal/bytealg.MaxLen"], plainKeys := false, apart := false, laid := [("unicode/utf8.acceptRanges", laid_unicode_utf8_acceptRanges), ("unicode/utf8.first", laid_unicode_utf8_first)], narrowed := true }
def ConfLoadsUptoSaid : Prop := confLoadsUptoRow.holds Tryz.pinned (OpenSpec.upto confLoadsSpec)

/-- 'tollgatelaw08.ConfSaves', WHERE WHAT IT READS IS OF BULK AT MOST 1048576: true; the input reads as it did. -/
def confSavesUptoRow : OpenClaim := { program := "ytjcjleaicjhpeaagreatdoor", sum := "6e2b8a03a750d5fcf9194845799075139deee56532d17482835442263a79631a", func := "tollgate/tollgatelaw08.ConfSaves", spec := "confSaves", inPlace := ["internal/bytealg.CountString", "internal/bytealg.IndexByteString", "internal/bytealg.IndexString", "math.Float64bits", "math.Float64frombits"], unfollowed := true, recurses := true, named := ["unicode/utf8.first", "unicode/utf8.acceptRanges", "internal/bytealg.MaxLen"], plainKeys := false, apart := false, laid := [("unicode/utf8.acceptRanges", laid_unicode_utf8_acceptRanges), ("unicode/utf8.first", laid_unicode_utf8_first)], narrowed := true }
def ConfSavesUptoSaid : Prop := confSavesUptoRow.holds Tryz.pinned (OpenSpec.upto confSavesSpec)

/-- 'tollgatelaw08.ConfForks', WHERE WHAT IT READS IS OF BULK AT MOST 1048576: true; the input reads as it did. -/
def confForksUptoRow : OpenClaim := { program := "ytjcjleaicjhpeaagreatdoor", sum := "6e2b8a03a750d5fcf9194845799075139deee56532d17482835442263a79631a", func := "tollgate/tollgatelaw08.ConfForks", spec := "confForks", inPlace := ["internal/bytealg.CountString", "internal/bytealg.IndexByteString", "internal/bytealg.IndexString", "math.Float64bits", "math.Float64frombits", "maps.clone"], unfollowed := true, recurses := true, named := ["unicode/utf8.first", "unicode/utf8.acceptRanges", "internal/bytealg.MaxLen"], plainKeys := false, apart := false, laid := [("unicode/utf8.acceptRanges", laid_unicode_utf8_acceptRanges), ("unicode/utf8.first", laid_unicode_utf8_first)], narrowed := true }
def ConfForksUptoSaid : Prop := confForksUptoRow.holds Tryz.pinned (OpenSpec.upto confForksSpec)

/-- 'tollgatelaw08.ConfNone', WHERE WHAT IT READS IS OF BULK AT MOST 1048576: true; the input reads as it did. -/
def confNoneUptoRow : OpenClaim := { program := "ytjcjleaicjhpeaagreatdoor", sum := "6e2b8a03a750d5fcf9194845799075139deee56532d17482835442263a79631a", func := "tollgate/tollgatelaw08.ConfNone", spec := "confNone", inPlace := ["internal/bytealg.CountString", "internal/bytealg.IndexByteString", "internal/bytealg.IndexString", "math.Float64bits", "math.Float64frombits", "maps.clone"], unfollowed := true, recurses := true, named := ["unicode/utf8.first", "unicode/utf8.acceptRanges", "internal/bytealg.MaxLen"], plainKeys := false, apart := false, laid := [("unicode/utf8.acceptRanges", laid_unicode_utf8_acceptRanges), ("unicode/utf8.first", laid_unicode_utf8_first)], narrowed := true }
def ConfNoneUptoSaid : Prop := confNoneUptoRow.holds Tryz.pinned (OpenSpec.upto confNoneSpec)

end Rows
end Go.Proofs.YtjcjleaicjhpeaaGreatDoor
