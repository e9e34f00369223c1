/-
  No cell of these rows narrows 'for every input' (looked for: loops, veiled, ifaces, maps, wideKeys, modest, calm, conditions, laid).
  DERIVED. THE GIVEN ROWS OF THIS SEAT. 5 by the template 'for every input the law returns true; each argument reads behind the call as it read before'; 0 by the template 'total and deterministic' (their statements: YtaajphopnmdmcaaTotals.lean).
  GIVEN WITH THE SEED: the statements are not yours to turn. If you find one false, say at which input.
  Laid BY PROGRAM, IN A SANDBOX (cutbox-rows.mjs): the forced cells as the released guide's own fill.sh prints them over the translation 18622872144059c0… (all of the seat's roots in one cut). By AI agents, Wed Nov 11 2026. No macro, syntax, notation, axiom, sorry.
-/
import Derived.Test.YtaajphopnmdmcaaChecked
import GoSem.Claim
import GoSem.ClaimJoined
import GoSem.ClaimMapViews
import Derived.JoinedTies
import Derived.KernelRfl
namespace Go.Proofs.Ytaajphopnmdmcaa
/- THE CELL 'sum', in the pinned program and in every row, IS THE sha256 OF THE DUMP (.gsa) THAT YtaajphopnmdmcaaProg.lean LOADS. Nothing in Lean hashes anything: it is a label: what it is worth is what the hold of that sum in a sandbox is worth. -/
noncomputable def Try.pinned : Pinned := { name := "ytaajphopnmdmcaa", sum := "18622872144059c086016c0a3bdacf090bce24f7b08c487b7ffeb0462841e5da", checked := Try.checked }
namespace Rows
def none {H : Type} : Left H := { results := [], args := [] }

/-- 'astragallaw41.SubsetPicks': WHATEVER THE INPUT: true; the input reads as it did. -/
def subsetPicksSpec : ChangeSpec := { name := "subsetPicks", fn := fun _ => fun
  | [d1, d2, d3] => { results := [.lit (.bool true)], args := [d1, d2, d3] }
  | _ => none }
def subsetPicksRow : OpenClaim := { program := "ytaajphopnmdmcaa", sum := "18622872144059c086016c0a3bdacf090bce24f7b08c487b7ffeb0462841e5da", func := "astragal/astragallaw41.SubsetPicks", spec := "subsetPicks", recurses := true, apart := false }
def SubsetPicksSaid : Prop := subsetPicksRow.holds Try.pinned (OpenSpec.ofChange subsetPicksSpec)

/-- ITS FALSE NEIGHBOUR: 'it returns false'. Refute it at one input. -/
def subsetPicksWrong : ChangeSpec := { name := "subsetPicks", fn := fun _ => fun
  | [d1, d2, d3] => { results := [.lit (.bool false)], args := [d1, d2, d3] }
  | _ => none }
def SubsetPicksWrongFalsely : Prop := subsetPicksRow.holds Try.pinned (OpenSpec.ofChange subsetPicksWrong)

/-- 'astragallaw41.SubsetOnly': WHATEVER THE INPUT: true; the input reads as it did. -/
def subsetOnlySpec : ChangeSpec := { name := "subsetOnly", fn := fun _ => fun
  | [d1, d2] => { results := [.lit (.bool true)], args := [d1, d2] }
  | _ => none }
def subsetOnlyRow : OpenClaim := { program := "ytaajphopnmdmcaa", sum := "18622872144059c086016c0a3bdacf090bce24f7b08c487b7ffeb0462841e5da", func := "astragal/astragallaw41.SubsetOnly", spec := "subsetOnly", apart := false }
def SubsetOnlySaid : Prop := subsetOnlyRow.holds Try.pinned (OpenSpec.ofChange subsetOnlySpec)

/-- ITS FALSE NEIGHBOUR: 'it returns false'. Refute it at one input. -/
def subsetOnlyWrong : ChangeSpec := { name := "subsetOnly", fn := fun _ => fun
  | [d1, d2] => { results := [.lit (.bool false)], args := [d1, d2] }
  | _ => none }
def SubsetOnlyWrongFalsely : Prop := subsetOnlyRow.holds Try.pinned (OpenSpec.ofChange subsetOnlyWrong)

/-- 'astragallaw41.SubsetTakes': WHATEVER THE INPUT: true; the input reads as it did. -/
def subsetTakesSpec : ChangeSpec := { name := "subsetTakes", fn := fun _ => fun
  | [d1, d2, d3] => { results := [.lit (.bool true)], args := [d1, d2, d3] }
  | _ => none }
def subsetTakesRow : OpenClaim := { program := "ytaajphopnmdmcaa", sum := "18622872144059c086016c0a3bdacf090bce24f7b08c487b7ffeb0462841e5da", func := "astragal/astragallaw41.SubsetTakes", spec := "subsetTakes", unfollowed := true, recurses := true, named := ["math/bits.divideError", "math/bits.overflowError"], apart := false }
def SubsetTakesSaid : Prop := subsetTakesRow.holds Try.pinned (OpenSpec.ofChange subsetTakesSpec)

/-- ITS FALSE NEIGHBOUR: 'it returns false'. Refute it at one input. -/
def subsetTakesWrong : ChangeSpec := { name := "subsetTakes", fn := fun _ => fun
  | [d1, d2, d3] => { results := [.lit (.bool false)], args := [d1, d2, d3] }
  | _ => none }
def SubsetTakesWrongFalsely : Prop := subsetTakesRow.holds Try.pinned (OpenSpec.ofChange subsetTakesWrong)

/-- 'astragallaw41.SubsetAims': WHATEVER THE INPUT: true; the input reads as it did. -/
def subsetAimsSpec : ChangeSpec := { name := "subsetAims", fn := fun _ => fun
  | [d1, d2, d3] => { results := [.lit (.bool true)], args := [d1, d2, d3] }
  | _ => none }
def subsetAimsRow : OpenClaim := { program := "ytaajphopnmdmcaa", sum := "18622872144059c086016c0a3bdacf090bce24f7b08c487b7ffeb0462841e5da", func := "astragal/astragallaw41.SubsetAims", spec := "subsetAims", inPlace := ["math/bits.Sub64"], unfollowed := true, recurses := true, named := ["math/bits.divideError", "math/bits.overflowError"], apart := false }
def SubsetAimsSaid : Prop := subsetAimsRow.holds Try.pinned (OpenSpec.ofChange subsetAimsSpec)

/-- ITS FALSE NEIGHBOUR: 'it returns false'. Refute it at one input. -/
def subsetAimsWrong : ChangeSpec := { name := "subsetAims", fn := fun _ => fun
  | [d1, d2, d3] => { results := [.lit (.bool false)], args := [d1, d2, d3] }
  | _ => none }
def SubsetAimsWrongFalsely : Prop := subsetAimsRow.holds Try.pinned (OpenSpec.ofChange subsetAimsWrong)

/-- 'astragallaw41.SubsetSets': WHATEVER THE INPUT: true; the input reads as it did. -/
def subsetSetsSpec : ChangeSpec := { name := "subsetSets", fn := fun _ => fun
  | [d1, d2, d3, d4] => { results := [.lit (.bool true)], args := [d1, d2, d3, d4] }
  | _ => none }
def subsetSetsRow : OpenClaim := { program := "ytaajphopnmdmcaa", sum := "18622872144059c086016c0a3bdacf090bce24f7b08c487b7ffeb0462841e5da", func := "astragal/astragallaw41.SubsetSets", spec := "subsetSets", inPlace := ["math/bits.Sub64"], unfollowed := true, recurses := true, named := ["math/bits.divideError", "math/bits.overflowError"], apart := false }
def SubsetSetsSaid : Prop := subsetSetsRow.holds Try.pinned (OpenSpec.ofChange subsetSetsSpec)

/-- ITS FALSE NEIGHBOUR: 'it returns false'. Refute it at one input. -/
def subsetSetsWrong : ChangeSpec := { name := "subsetSets", fn := fun _ => fun
  | [d1, d2, d3, d4] => { results := [.lit (.bool false)], args := [d1, d2, d3, d4] }
  | _ => none }
def SubsetSetsWrongFalsely : Prop := subsetSetsRow.holds Try.pinned (OpenSpec.ofChange subsetSetsWrong)

/- THE SECOND FORM. 'bulk': how many values and letters a reading holds, each counted each time it is reached (what is shared counts as often as it is met; a slice's spare places count too). A statement '..UptoSaid' is the law's where the arguments, and the package variables that the reading takes, are together of bulk at most 1048576: NARROWER than '..Said'. Prove '..Said' where nothing that the law and all that it calls make is longer than what came in: it says more and counts as full. Else prove '..UptoSaid'. A law counts once. -/
mutual
def uptoBulk {H : Type} : DataW H → Nat
  | .lit (.string bytes) => bytes.length + 1
  | .lit _ => 1
  | .nil => 1
  | .ptr d => uptoBulk d + 1
  | .slice elems spare => uptoBulkAll elems + uptoBulkAll spare + 1
  | .agg parts => uptoBulkAll parts + 1
  | .iface _ d => uptoBulk d + 1
  | .map entries => uptoBulkEntries entries + 1
  | .held _ => 1
def uptoBulkAll {H : Type} : List (DataW H) → Nat
  | [] => 0
  | d :: r => uptoBulk d + uptoBulkAll r
def uptoBulkEntries {H : Type} : List (Lit × DataW H) → Nat
  | [] => 0
  | x :: r => uptoBulkEntry x + uptoBulkEntries r
def uptoBulkEntry {H : Type} : Lit × DataW H → Nat
  | (.string bytes, d) => bytes.length + uptoBulk d + 1
  | (_, d) => uptoBulk d + 1
 end
def uptoSmall : (H : Type) → List (DataW H) → Bool := fun _ ds => decide (uptoBulkAll ds ≤ 1048576)
def OpenSpec.upto (s : _root_.Go.ChangeSpec) : _root_.Go.OpenSpec := { _root_.Go.OpenSpec.ofChange s with cond := some uptoSmall }

/-- 'astragallaw41.SubsetPicks', WHERE WHAT IT READS IS OF BULK AT MOST 1048576: true; the input reads as it did. -/
def subsetPicksUptoRow : OpenClaim := { program := "ytaajphopnmdmcaa", sum := "18622872144059c086016c0a3bdacf090bce24f7b08c487b7ffeb0462841e5da", func := "astragal/astragallaw41.SubsetPicks", spec := "subsetPicks", recurses := true, apart := false, narrowed := true }
def SubsetPicksUptoSaid : Prop := subsetPicksUptoRow.holds Try.pinned (OpenSpec.upto subsetPicksSpec)

/-- 'astragallaw41.SubsetOnly', WHERE WHAT IT READS IS OF BULK AT MOST 1048576: true; the input reads as it did. -/
def subsetOnlyUptoRow : OpenClaim := { program := "ytaajphopnmdmcaa", sum := "18622872144059c086016c0a3bdacf090bce24f7b08c487b7ffeb0462841e5da", func := "astragal/astragallaw41.SubsetOnly", spec := "subsetOnly", apart := false, narrowed := true }
def SubsetOnlyUptoSaid : Prop := subsetOnlyUptoRow.holds Try.pinned (OpenSpec.upto subsetOnlySpec)

/-- 'astragallaw41.SubsetTakes', WHERE WHAT IT READS IS OF BULK AT MOST 1048576: true; the input reads as it did. -/
def subsetTakesUptoRow : OpenClaim := { program := "ytaajphopnmdmcaa", sum := "18622872144059c086016c0a3bdacf090bce24f7b08c487b7ffeb0462841e5da", func := "astragal/astragallaw41.SubsetTakes", spec := "subsetTakes", unfollowed := true, recurses := true, named := ["math/bits.divideError", "math/bits.overflowError"], apart := false, narrowed := true }
def SubsetTakesUptoSaid : Prop := subsetTakesUptoRow.holds Try.pinned (OpenSpec.upto subsetTakesSpec)

/-- 'astragallaw41.SubsetAims', WHERE WHAT IT READS IS OF BULK AT MOST 1048576: true; the input reads as it did. -/
def subsetAimsUptoRow : OpenClaim := { program := "ytaajphopnmdmcaa", sum := "18622872144059c086016c0a3bdacf090bce24f7b08c487b7ffeb0462841e5da", func := "astragal/astragallaw41.SubsetAims", spec := "subsetAims", inPlace := ["math/bits.Sub64"], unfollowed := true, recurses := true, named := ["math/bits.divideError", "math/bits.overflowError"], apart := false, narrowed := true }
def SubsetAimsUptoSaid : Prop := subsetAimsUptoRow.holds Try.pinned (OpenSpec.upto subsetAimsSpec)

/-- 'astragallaw41.SubsetSets', WHERE WHAT IT READS IS OF BULK AT MOST 1048576: true; the input reads as it did. -/
def subsetSetsUptoRow : OpenClaim := { program := "ytaajphopnmdmcaa", sum := "18622872144059c086016c0a3bdacf090bce24f7b08c487b7ffeb0462841e5da", func := "astragal/astragallaw41.SubsetSets", spec := "subsetSets", inPlace := ["math/bits.Sub64"], unfollowed := true, recurses := true, named := ["math/bits.divideError", "math/bits.overflowError"], apart := false, narrowed := true }
def SubsetSetsUptoSaid : Prop := subsetSetsUptoRow.holds Try.pinned (OpenSpec.upto subsetSetsSpec)

end Rows
end Go.Proofs.Ytaajphopnmdmcaa
