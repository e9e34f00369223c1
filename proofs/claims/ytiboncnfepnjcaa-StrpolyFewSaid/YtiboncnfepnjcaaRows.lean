/-
  No cell of these rows narrows 'for every input' (looked for: loops, veiled, ifaces, maps, wideKeys, modest, calm, conditions, laid).
  DERIVED. THE GIVEN ROWS OF THIS SEAT. 12 by the template 'for every input the law returns true; each argument reads behind the call as it read before'; 0 by the template 'total and deterministic' (their statements: YtiboncnfepnjcaaTotals.lean).
  GIVEN WITH THE SEED: the statements are not yours to turn. If you find one false, say at which input.
  Laid BY PROGRAM, IN A SANDBOX (cutbox-rows.mjs): the forced cells as the released guide's own fill.sh prints them over the translation 6a1d017dbb9676e0… (all of the seat's roots in one cut). By AI agents, Wed Nov 11 2026. No macro, syntax, notation, axiom, sorry.
-/
import Derived.Test.YtiboncnfepnjcaaChecked
import GoSem.Claim
import GoSem.ClaimJoined
import GoSem.ClaimMapViews
import Derived.JoinedTies
import Derived.KernelRfl
namespace Go.Proofs.Ytiboncnfepnjcaa
/- THE CELL 'sum', in the pinned program and in every row, IS THE sha256 OF THE DUMP (.gsa) THAT YtiboncnfepnjcaaProg.lean LOADS. Nothing in Lean hashes anything: it is a label: what it is worth is what the hold of that sum in a sandbox is worth. -/
noncomputable def Try.pinned : Pinned := { name := "ytiboncnfepnjcaa", sum := "6a1d017dbb9676e063dc42f661151938ea41230b42e6c5f3cc3d92014c18cb33", checked := Try.checked }
namespace Rows
def none {H : Type} : Left H := { results := [], args := [] }

/-- 'astragallaw18.PolyEvals': WHATEVER THE INPUT: true; the input reads as it did. -/
def polyEvalsSpec : ChangeSpec := { name := "polyEvals", fn := fun _ => fun
  | [d1, d2] => { results := [.lit (.bool true)], args := [d1, d2] }
  | _ => none }
def polyEvalsRow : OpenClaim := { program := "ytiboncnfepnjcaa", sum := "6a1d017dbb9676e063dc42f661151938ea41230b42e6c5f3cc3d92014c18cb33", func := "astragal/astragallaw18.PolyEvals", spec := "polyEvals", inPlace := ["math/bits.Add64"], unfollowed := true, recurses := true, apart := false }
def PolyEvalsSaid : Prop := polyEvalsRow.holds Try.pinned (OpenSpec.ofChange polyEvalsSpec)

/-- ITS FALSE NEIGHBOUR: 'it returns false'. Refute it at one input. -/
def polyEvalsWrong : ChangeSpec := { name := "polyEvals", fn := fun _ => fun
  | [d1, d2] => { results := [.lit (.bool false)], args := [d1, d2] }
  | _ => none }
def PolyEvalsWrongFalsely : Prop := polyEvalsRow.holds Try.pinned (OpenSpec.ofChange polyEvalsWrong)

/-- 'astragallaw18.PolyReckons': WHATEVER THE INPUT: true; the input reads as it did. -/
def polyReckonsSpec : ChangeSpec := { name := "polyReckons", fn := fun _ => fun
  | [d1, d2, d3] => { results := [.lit (.bool true)], args := [d1, d2, d3] }
  | _ => none }
def polyReckonsRow : OpenClaim := { program := "ytiboncnfepnjcaa", sum := "6a1d017dbb9676e063dc42f661151938ea41230b42e6c5f3cc3d92014c18cb33", func := "astragal/astragallaw18.PolyReckons", spec := "polyReckons", inPlace := ["math/bits.Add64"], unfollowed := true, recurses := true, apart := false }
def PolyReckonsSaid : Prop := polyReckonsRow.holds Try.pinned (OpenSpec.ofChange polyReckonsSpec)

/-- ITS FALSE NEIGHBOUR: 'it returns false'. Refute it at one input. -/
def polyReckonsWrong : ChangeSpec := { name := "polyReckons", fn := fun _ => fun
  | [d1, d2, d3] => { results := [.lit (.bool false)], args := [d1, d2, d3] }
  | _ => none }
def PolyReckonsWrongFalsely : Prop := polyReckonsRow.holds Try.pinned (OpenSpec.ofChange polyReckonsWrong)

/-- 'astragallaw18.PolyDivides': WHATEVER THE INPUT: true; the input reads as it did. -/
def polyDividesSpec : ChangeSpec := { name := "polyDivides", fn := fun _ => fun
  | [d1, d2] => { results := [.lit (.bool true)], args := [d1, d2] }
  | _ => none }
def polyDividesRow : OpenClaim := { program := "ytiboncnfepnjcaa", sum := "6a1d017dbb9676e063dc42f661151938ea41230b42e6c5f3cc3d92014c18cb33", func := "astragal/astragallaw18.PolyDivides", spec := "polyDivides", inPlace := ["math/bits.Add64"], unfollowed := true, recurses := true, apart := false }
def PolyDividesSaid : Prop := polyDividesRow.holds Try.pinned (OpenSpec.ofChange polyDividesSpec)

/-- ITS FALSE NEIGHBOUR: 'it returns false'. Refute it at one input. -/
def polyDividesWrong : ChangeSpec := { name := "polyDivides", fn := fun _ => fun
  | [d1, d2] => { results := [.lit (.bool false)], args := [d1, d2] }
  | _ => none }
def PolyDividesWrongFalsely : Prop := polyDividesRow.holds Try.pinned (OpenSpec.ofChange polyDividesWrong)

/-- 'astragallaw18.PolyRoots': WHATEVER THE INPUT: true; the input reads as it did. -/
def polyRootsSpec : ChangeSpec := { name := "polyRoots", fn := fun _ => fun
  | [d1, d2] => { results := [.lit (.bool true)], args := [d1, d2] }
  | _ => none }
def polyRootsRow : OpenClaim := { program := "ytiboncnfepnjcaa", sum := "6a1d017dbb9676e063dc42f661151938ea41230b42e6c5f3cc3d92014c18cb33", func := "astragal/astragallaw18.PolyRoots", spec := "polyRoots", inPlace := ["math/bits.Add64"], unfollowed := true, recurses := true, apart := false }
def PolyRootsSaid : Prop := polyRootsRow.holds Try.pinned (OpenSpec.ofChange polyRootsSpec)

/-- ITS FALSE NEIGHBOUR: 'it returns false'. Refute it at one input. -/
def polyRootsWrong : ChangeSpec := { name := "polyRoots", fn := fun _ => fun
  | [d1, d2] => { results := [.lit (.bool false)], args := [d1, d2] }
  | _ => none }
def PolyRootsWrongFalsely : Prop := polyRootsRow.holds Try.pinned (OpenSpec.ofChange polyRootsWrong)

/-- 'astragallaw19.ThroughPoints': WHATEVER THE INPUT: true; the input reads as it did. -/
def throughPointsSpec : ChangeSpec := { name := "throughPoints", fn := fun _ => fun
  | [d1, d2] => { results := [.lit (.bool true)], args := [d1, d2] }
  | _ => none }
def throughPointsRow : OpenClaim := { program := "ytiboncnfepnjcaa", sum := "6a1d017dbb9676e063dc42f661151938ea41230b42e6c5f3cc3d92014c18cb33", func := "astragal/astragallaw19.ThroughPoints", spec := "throughPoints", inPlace := ["math/bits.Add64"], unfollowed := true, recurses := true, apart := false }
def ThroughPointsSaid : Prop := throughPointsRow.holds Try.pinned (OpenSpec.ofChange throughPointsSpec)

/-- ITS FALSE NEIGHBOUR: 'it returns false'. Refute it at one input. -/
def throughPointsWrong : ChangeSpec := { name := "throughPoints", fn := fun _ => fun
  | [d1, d2] => { results := [.lit (.bool false)], args := [d1, d2] }
  | _ => none }
def ThroughPointsWrongFalsely : Prop := throughPointsRow.holds Try.pinned (OpenSpec.ofChange throughPointsWrong)

/-- 'astragallaw19.ThroughOnly': WHATEVER THE INPUT: true; the input reads as it did. -/
def throughOnlySpec : ChangeSpec := { name := "throughOnly", fn := fun _ => fun
  | [d1, d2] => { results := [.lit (.bool true)], args := [d1, d2] }
  | _ => none }
def throughOnlyRow : OpenClaim := { program := "ytiboncnfepnjcaa", sum := "6a1d017dbb9676e063dc42f661151938ea41230b42e6c5f3cc3d92014c18cb33", func := "astragal/astragallaw19.ThroughOnly", spec := "throughOnly", inPlace := ["math/bits.Add64"], unfollowed := true, recurses := true, apart := false }
def ThroughOnlySaid : Prop := throughOnlyRow.holds Try.pinned (OpenSpec.ofChange throughOnlySpec)

/-- ITS FALSE NEIGHBOUR: 'it returns false'. Refute it at one input. -/
def throughOnlyWrong : ChangeSpec := { name := "throughOnly", fn := fun _ => fun
  | [d1, d2] => { results := [.lit (.bool false)], args := [d1, d2] }
  | _ => none }
def ThroughOnlyWrongFalsely : Prop := throughOnlyRow.holds Try.pinned (OpenSpec.ofChange throughOnlyWrong)

/-- 'astragallaw19.ThroughValues': WHATEVER THE INPUT: true; the input reads as it did. -/
def throughValuesSpec : ChangeSpec := { name := "throughValues", fn := fun _ => fun
  | [d1, d2] => { results := [.lit (.bool true)], args := [d1, d2] }
  | _ => none }
def throughValuesRow : OpenClaim := { program := "ytiboncnfepnjcaa", sum := "6a1d017dbb9676e063dc42f661151938ea41230b42e6c5f3cc3d92014c18cb33", func := "astragal/astragallaw19.ThroughValues", spec := "throughValues", inPlace := ["math/bits.Add64"], unfollowed := true, recurses := true, apart := false }
def ThroughValuesSaid : Prop := throughValuesRow.holds Try.pinned (OpenSpec.ofChange throughValuesSpec)

/-- ITS FALSE NEIGHBOUR: 'it returns false'. Refute it at one input. -/
def throughValuesWrong : ChangeSpec := { name := "throughValues", fn := fun _ => fun
  | [d1, d2] => { results := [.lit (.bool false)], args := [d1, d2] }
  | _ => none }
def ThroughValuesWrongFalsely : Prop := throughValuesRow.holds Try.pinned (OpenSpec.ofChange throughValuesWrong)

/-- 'astragallaw19.ThroughShifts': WHATEVER THE INPUT: true; the input reads as it did. -/
def throughShiftsSpec : ChangeSpec := { name := "throughShifts", fn := fun _ => fun
  | [d1, d2, d3] => { results := [.lit (.bool true)], args := [d1, d2, d3] }
  | _ => none }
def throughShiftsRow : OpenClaim := { program := "ytiboncnfepnjcaa", sum := "6a1d017dbb9676e063dc42f661151938ea41230b42e6c5f3cc3d92014c18cb33", func := "astragal/astragallaw19.ThroughShifts", spec := "throughShifts", inPlace := ["math/bits.Add64"], unfollowed := true, recurses := true, apart := false }
def ThroughShiftsSaid : Prop := throughShiftsRow.holds Try.pinned (OpenSpec.ofChange throughShiftsSpec)

/-- ITS FALSE NEIGHBOUR: 'it returns false'. Refute it at one input. -/
def throughShiftsWrong : ChangeSpec := { name := "throughShifts", fn := fun _ => fun
  | [d1, d2, d3] => { results := [.lit (.bool false)], args := [d1, d2, d3] }
  | _ => none }
def ThroughShiftsWrongFalsely : Prop := throughShiftsRow.holds Try.pinned (OpenSpec.ofChange throughShiftsWrong)

/-- 'astragallaw25.StrpolyChunks': WHATEVER THE INPUT: true; the input reads as it did. -/
def strpolyChunksSpec : ChangeSpec := { name := "strpolyChunks", fn := fun _ => fun
  | [d1, d2, d3] => { results := [.lit (.bool true)], args := [d1, d2, d3] }
  | _ => none }
def strpolyChunksRow : OpenClaim := { program := "ytiboncnfepnjcaa", sum := "6a1d017dbb9676e063dc42f661151938ea41230b42e6c5f3cc3d92014c18cb33", func := "astragal/astragallaw25.StrpolyChunks", spec := "strpolyChunks", inPlace := ["math/bits.Add64"], unfollowed := true, recurses := true, apart := false }
def StrpolyChunksSaid : Prop := strpolyChunksRow.holds Try.pinned (OpenSpec.ofChange strpolyChunksSpec)

/-- ITS FALSE NEIGHBOUR: 'it returns false'. Refute it at one input. -/
def strpolyChunksWrong : ChangeSpec := { name := "strpolyChunks", fn := fun _ => fun
  | [d1, d2, d3] => { results := [.lit (.bool false)], args := [d1, d2, d3] }
  | _ => none }
def StrpolyChunksWrongFalsely : Prop := strpolyChunksRow.holds Try.pinned (OpenSpec.ofChange strpolyChunksWrong)

/-- 'astragallaw25.StrpolyEvals': WHATEVER THE INPUT: true; the input reads as it did. -/
def strpolyEvalsSpec : ChangeSpec := { name := "strpolyEvals", fn := fun _ => fun
  | [d1, d2, d3, d4] => { results := [.lit (.bool true)], args := [d1, d2, d3, d4] }
  | _ => none }
def strpolyEvalsRow : OpenClaim := { program := "ytiboncnfepnjcaa", sum := "6a1d017dbb9676e063dc42f661151938ea41230b42e6c5f3cc3d92014c18cb33", func := "astragal/astragallaw25.StrpolyEvals", spec := "strpolyEvals", inPlace := ["math/bits.Add64"], unfollowed := true, recurses := true, apart := false }
def StrpolyEvalsSaid : Prop := strpolyEvalsRow.holds Try.pinned (OpenSpec.ofChange strpolyEvalsSpec)

/-- ITS FALSE NEIGHBOUR: 'it returns false'. Refute it at one input. -/
def strpolyEvalsWrong : ChangeSpec := { name := "strpolyEvals", fn := fun _ => fun
  | [d1, d2, d3, d4] => { results := [.lit (.bool false)], args := [d1, d2, d3, d4] }
  | _ => none }
def StrpolyEvalsWrongFalsely : Prop := strpolyEvalsRow.holds Try.pinned (OpenSpec.ofChange strpolyEvalsWrong)

/-- 'astragallaw25.StrpolyDiffers': WHATEVER THE INPUT: true; the input reads as it did. -/
def strpolyDiffersSpec : ChangeSpec := { name := "strpolyDiffers", fn := fun _ => fun
  | [d1, d2, d3] => { results := [.lit (.bool true)], args := [d1, d2, d3] }
  | _ => none }
def strpolyDiffersRow : OpenClaim := { program := "ytiboncnfepnjcaa", sum := "6a1d017dbb9676e063dc42f661151938ea41230b42e6c5f3cc3d92014c18cb33", func := "astragal/astragallaw25.StrpolyDiffers", spec := "strpolyDiffers", inPlace := ["math/bits.Add64"], unfollowed := true, recurses := true, apart := false }
def StrpolyDiffersSaid : Prop := strpolyDiffersRow.holds Try.pinned (OpenSpec.ofChange strpolyDiffersSpec)

/-- ITS FALSE NEIGHBOUR: 'it returns false'. Refute it at one input. -/
def strpolyDiffersWrong : ChangeSpec := { name := "strpolyDiffers", fn := fun _ => fun
  | [d1, d2, d3] => { results := [.lit (.bool false)], args := [d1, d2, d3] }
  | _ => none }
def StrpolyDiffersWrongFalsely : Prop := strpolyDiffersRow.holds Try.pinned (OpenSpec.ofChange strpolyDiffersWrong)

/-- 'astragallaw25.StrpolyFew': WHATEVER THE INPUT: true; the input reads as it did. -/
def strpolyFewSpec : ChangeSpec := { name := "strpolyFew", fn := fun _ => fun
  | [d1, d2, d3] => { results := [.lit (.bool true)], args := [d1, d2, d3] }
  | _ => none }
def strpolyFewRow : OpenClaim := { program := "ytiboncnfepnjcaa", sum := "6a1d017dbb9676e063dc42f661151938ea41230b42e6c5f3cc3d92014c18cb33", func := "astragal/astragallaw25.StrpolyFew", spec := "strpolyFew", inPlace := ["math/bits.Add64"], unfollowed := true, recurses := true, apart := false }
def StrpolyFewSaid : Prop := strpolyFewRow.holds Try.pinned (OpenSpec.ofChange strpolyFewSpec)

/-- ITS FALSE NEIGHBOUR: 'it returns false'. Refute it at one input. -/
def strpolyFewWrong : ChangeSpec := { name := "strpolyFew", fn := fun _ => fun
  | [d1, d2, d3] => { results := [.lit (.bool false)], args := [d1, d2, d3] }
  | _ => none }
def StrpolyFewWrongFalsely : Prop := strpolyFewRow.holds Try.pinned (OpenSpec.ofChange strpolyFewWrong)

/- THE SECOND FORM. 'bulk': how many values and letters a reading holds, each counted each time it is reached (what is shared counts as often as it is met; a slice's spare places count too). A statement '..UptoSaid' is the law's where the arguments, and the package variables that the reading takes, are together of bulk at most 1048576: NARROWER than '..Said'. Prove '..Said' where nothing that the law and all that it calls make is longer than what came in: it says more and counts as full. Else prove '..UptoSaid'. A law counts once. -/
mutual
def uptoBulk {H : Type} : DataW H → Nat
  | .lit (.string bytes) => bytes.length + 1
  | .lit _ => 1
  | .nil => 1
  | .ptr d => uptoBulk d + 1
  | .slice elems spare => uptoBulkAll elems + uptoBulkAll spare + 1
  | .agg parts => uptoBulkAll parts + 1
  | .iface _ d => uptoBulk d + 1
  | .map entries => uptoBulkEntries entries + 1
  | .held _ => 1
def uptoBulkAll {H : Type} : List (DataW H) → Nat
  | [] => 0
  | d :: r => uptoBulk d + uptoBulkAll r
def uptoBulkEntries {H : Type} : List (Lit × DataW H) → Nat
  | [] => 0
  | x :: r => uptoBulkEntry x + uptoBulkEntries r
def uptoBulkEntry {H : Type} : Lit × DataW H → Nat
  | (.string bytes, d) => bytes.length + uptoBulk d + 1
  | (_, d) => uptoBulk d + 1
 end
def uptoSmall : (H : Type) → List (DataW H) → Bool := fun _ ds => decide (uptoBulkAll ds ≤ 1048576)
def OpenSpec.upto (s : _root_.Go.ChangeSpec) : _root_.Go.OpenSpec := { _root_.Go.OpenSpec.ofChange s with cond := some uptoSmall }

/-- 'astragallaw18.PolyEvals', WHERE WHAT IT READS IS OF BULK AT MOST 1048576: true; the input reads as it did. -/
def polyEvalsUptoRow : OpenClaim := { program := "ytiboncnfepnjcaa", sum := "6a1d017dbb9676e063dc42f661151938ea41230b42e6c5f3cc3d92014c18cb33", func := "astragal/astragallaw18.PolyEvals", spec := "polyEvals", inPlace := ["math/bits.Add64"], unfollowed := true, recurses := true, apart := false, narrowed := true }
def PolyEvalsUptoSaid : Prop := polyEvalsUptoRow.holds Try.pinned (OpenSpec.upto polyEvalsSpec)

/-- 'astragallaw18.PolyReckons', WHERE WHAT IT READS IS OF BULK AT MOST 1048576: true; the input reads as it did. -/
def polyReckonsUptoRow : OpenClaim := { program := "ytiboncnfepnjcaa", sum := "6a1d017dbb9676e063dc42f661151938ea41230b42e6c5f3cc3d92014c18cb33", func := "astragal/astragallaw18.PolyReckons", spec := "polyReckons", inPlace := ["math/bits.Add64"], unfollowed := true, recurses := true, apart := false, narrowed := true }
def PolyReckonsUptoSaid : Prop := polyReckonsUptoRow.holds Try.pinned (OpenSpec.upto polyReckonsSpec)

/-- 'astragallaw18.PolyDivides', WHERE WHAT IT READS IS OF BULK AT MOST 1048576: true; the input reads as it did. -/
def polyDividesUptoRow : OpenClaim := { program := "ytiboncnfepnjcaa", sum := "6a1d017dbb9676e063dc42f661151938ea41230b42e6c5f3cc3d92014c18cb33", func := "astragal/astragallaw18.PolyDivides", spec := "polyDivides", inPlace := ["math/bits.Add64"], unfollowed := true, recurses := true, apart := false, narrowed := true }
def PolyDividesUptoSaid : Prop := polyDividesUptoRow.holds Try.pinned (OpenSpec.upto polyDividesSpec)

/-- 'astragallaw18.PolyRoots', WHERE WHAT IT READS IS OF BULK AT MOST 1048576: true; the input reads as it did. -/
def polyRootsUptoRow : OpenClaim := { program := "ytiboncnfepnjcaa", sum := "6a1d017dbb9676e063dc42f661151938ea41230b42e6c5f3cc3d92014c18cb33", func := "astragal/astragallaw18.PolyRoots", spec := "polyRoots", inPlace := ["math/bits.Add64"], unfollowed := true, recurses := true, apart := false, narrowed := true }
def PolyRootsUptoSaid : Prop := polyRootsUptoRow.holds Try.pinned (OpenSpec.upto polyRootsSpec)

/-- 'astragallaw19.ThroughPoints', WHERE WHAT IT READS IS OF BULK AT MOST 1048576: true; the input reads as it did. -/
def throughPointsUptoRow : OpenClaim := { program := "ytiboncnfepnjcaa", sum := "6a1d017dbb9676e063dc42f661151938ea41230b42e6c5f3cc3d92014c18cb33", func := "astragal/astragallaw19.ThroughPoints", spec := "throughPoints", inPlace := ["math/bits.Add64"], unfollowed := true, recurses := true, apart := false, narrowed := true }
def ThroughPointsUptoSaid : Prop := throughPointsUptoRow.holds Try.pinned (OpenSpec.upto throughPointsSpec)

/-- 'astragallaw19.ThroughOnly', WHERE WHAT IT READS IS OF BULK AT MOST 1048576: true; the input reads as it did. -/
def throughOnlyUptoRow : OpenClaim := { program := "ytiboncnfepnjcaa", sum := "6a1d017dbb9676e063dc42f661151938ea41230b42e6c5f3cc3d92014c18cb33", func := "astragal/astragallaw19.ThroughOnly", spec := "throughOnly", inPlace := ["math/bits.Add64"], unfollowed := true, recurses := true, apart := false, narrowed := true }
def ThroughOnlyUptoSaid : Prop := throughOnlyUptoRow.holds Try.pinned (OpenSpec.upto throughOnlySpec)

/-- 'astragallaw19.ThroughValues', WHERE WHAT IT READS IS OF BULK AT MOST 1048576: true; the input reads as it did. -/
def throughValuesUptoRow : OpenClaim := { program := "ytiboncnfepnjcaa", sum := "6a1d017dbb9676e063dc42f661151938ea41230b42e6c5f3cc3d92014c18cb33", func := "astragal/astragallaw19.ThroughValues", spec := "throughValues", inPlace := ["math/bits.Add64"], unfollowed := true, recurses := true, apart := false, narrowed := true }
def ThroughValuesUptoSaid : Prop := throughValuesUptoRow.holds Try.pinned (OpenSpec.upto throughValuesSpec)

/-- 'astragallaw19.ThroughShifts', WHERE WHAT IT READS IS OF BULK AT MOST 1048576: true; the input reads as it did. -/
def throughShiftsUptoRow : OpenClaim := { program := "ytiboncnfepnjcaa", sum := "6a1d017dbb9676e063dc42f661151938ea41230b42e6c5f3cc3d92014c18cb33", func := "astragal/astragallaw19.ThroughShifts", spec := "throughShifts", inPlace := ["math/bits.Add64"], unfollowed := true, recurses := true, apart := false, narrowed := true }
def ThroughShiftsUptoSaid : Prop := throughShiftsUptoRow.holds Try.pinned (OpenSpec.upto throughShiftsSpec)

/-- 'astragallaw25.StrpolyChunks', WHERE WHAT IT READS IS OF BULK AT MOST 1048576: true; the input reads as it did. -/
def strpolyChunksUptoRow : OpenClaim := { program := "ytiboncnfepnjcaa", sum := "6a1d017dbb9676e063dc42f661151938ea41230b42e6c5f3cc3d92014c18cb33", func := "astragal/astragallaw25.StrpolyChunks", spec := "strpolyChunks", inPlace := ["math/bits.Add64"], unfollowed := true, recurses := true, apart := false, narrowed := true }
def StrpolyChunksUptoSaid : Prop := strpolyChunksUptoRow.holds Try.pinned (OpenSpec.upto strpolyChunksSpec)

/-- 'astragallaw25.StrpolyEvals', WHERE WHAT IT READS IS OF BULK AT MOST 1048576: true; the input reads as it did. -/
def strpolyEvalsUptoRow : OpenClaim := { program := "ytiboncnfepnjcaa", sum := "6a1d017dbb9676e063dc42f661151938ea41230b42e6c5f3cc3d92014c18cb33", func := "astragal/astragallaw25.StrpolyEvals", spec := "strpolyEvals", inPlace := ["math/bits.Add64"], unfollowed := true, recurses := true, apart := false, narrowed := true }
def StrpolyEvalsUptoSaid : Prop := strpolyEvalsUptoRow.holds Try.pinned (OpenSpec.upto strpolyEvalsSpec)

/-- 'astragallaw25.StrpolyDiffers', WHERE WHAT IT READS IS OF BULK AT MOST 1048576: true; the input reads as it did. -/
def strpolyDiffersUptoRow : OpenClaim := { program := "ytiboncnfepnjcaa", sum := "6a1d017dbb9676e063dc42f661151938ea41230b42e6c5f3cc3d92014c18cb33", func := "astragal/astragallaw25.StrpolyDiffers", spec := "strpolyDiffers", inPlace := ["math/bits.Add64"], unfollowed := true, recurses := true, apart := false, narrowed := true }
def StrpolyDiffersUptoSaid : Prop := strpolyDiffersUptoRow.holds Try.pinned (OpenSpec.upto strpolyDiffersSpec)

/-- 'astragallaw25.StrpolyFew', WHERE WHAT IT READS IS OF BULK AT MOST 1048576: true; the input reads as it did. -/
def strpolyFewUptoRow : OpenClaim := { program := "ytiboncnfepnjcaa", sum := "6a1d017dbb9676e063dc42f661151938ea41230b42e6c5f3cc3d92014c18cb33", func := "astragal/astragallaw25.StrpolyFew", spec := "strpolyFew", inPlace := ["math/bits.Add64"], unfollowed := true, recurses := true, apart := false, narrowed := true }
def StrpolyFewUptoSaid : Prop := strpolyFewUptoRow.holds Try.pinned (OpenSpec.upto strpolyFewSpec)

end Rows
end Go.Proofs.Ytiboncnfepnjcaa
