/-
  No cell of these rows narrows 'for every input' (looked for: loops, veiled, ifaces, maps, wideKeys, modest, calm, conditions, laid).
  DERIVED. THE GIVEN ROWS OF THIS SEAT. 6 by the template 'for every input the law returns true; each argument reads behind the call as it read before'; 0 by the template 'total and deterministic' (their statements: YtobmgigmoppkkaaTotals.lean).
  GIVEN WITH THE SEED: the statements are not yours to turn. If you find one false, say at which input.
  Laid BY PROGRAM, IN A SANDBOX (cutbox-rows.mjs): the forced cells as the released guide's own fill.sh prints them over the translation 03eab959a2e01602… (all of the seat's roots in one cut). By AI agents, Wed Nov 11 2026. No macro, syntax, notation, axiom, sorry.
-/
import Derived.Test.YtobmgigmoppkkaaChecked
import GoSem.Claim
import GoSem.ClaimJoined
import GoSem.ClaimMapViews
import Derived.JoinedTies
import Derived.KernelRfl
namespace Go.Proofs.Ytobmgigmoppkkaa
/- THE CELL 'sum', in the pinned program and in every row, IS THE sha256 OF THE DUMP (.gsa) THAT YtobmgigmoppkkaaProg.lean LOADS. Nothing in Lean hashes anything: it is a label: what it is worth is what the hold of that sum in a sandbox is worth. -/
noncomputable def Try.pinned : Pinned := { name := "ytobmgigmoppkkaa", sum := "03eab959a2e016028eb6acb9fbe5a4c03aee0de24d46718699529e6dfc9c079d", checked := Try.checked }
namespace Rows
def none {H : Type} : Left H := { results := [], args := [] }

/-- 'astragallaw21.MaddEvals': WHATEVER THE INPUT: true; the input reads as it did. -/
def maddEvalsSpec : ChangeSpec := { name := "maddEvals", fn := fun _ => fun
  | [d1, d2, d3, d4, d5] => { results := [.lit (.bool true)], args := [d1, d2, d3, d4, d5] }
  | _ => none }
def maddEvalsRow : OpenClaim := { program := "ytobmgigmoppkkaa", sum := "03eab959a2e016028eb6acb9fbe5a4c03aee0de24d46718699529e6dfc9c079d", func := "astragal/astragallaw21.MaddEvals", spec := "maddEvals", inPlace := ["math/bits.Add64"], apart := false }
def MaddEvalsSaid : Prop := maddEvalsRow.holds Try.pinned (OpenSpec.ofChange maddEvalsSpec)

/-- ITS FALSE NEIGHBOUR: 'it returns false'. Refute it at one input. -/
def maddEvalsWrong : ChangeSpec := { name := "maddEvals", fn := fun _ => fun
  | [d1, d2, d3, d4, d5] => { results := [.lit (.bool false)], args := [d1, d2, d3, d4, d5] }
  | _ => none }
def MaddEvalsWrongFalsely : Prop := maddEvalsRow.holds Try.pinned (OpenSpec.ofChange maddEvalsWrong)

/-- 'astragallaw21.MaddShifts': WHATEVER THE INPUT: true; the input reads as it did. -/
def maddShiftsSpec : ChangeSpec := { name := "maddShifts", fn := fun _ => fun
  | [d1, d2, d3, d4, d5, d6, d7, d8] => { results := [.lit (.bool true)], args := [d1, d2, d3, d4, d5, d6, d7, d8] }
  | _ => none }
def maddShiftsRow : OpenClaim := { program := "ytobmgigmoppkkaa", sum := "03eab959a2e016028eb6acb9fbe5a4c03aee0de24d46718699529e6dfc9c079d", func := "astragal/astragallaw21.MaddShifts", spec := "maddShifts", inPlace := ["math/bits.Add64", "math/bits.Sub64"], apart := false }
def MaddShiftsSaid : Prop := maddShiftsRow.holds Try.pinned (OpenSpec.ofChange maddShiftsSpec)

/-- ITS FALSE NEIGHBOUR: 'it returns false'. Refute it at one input. -/
def maddShiftsWrong : ChangeSpec := { name := "maddShifts", fn := fun _ => fun
  | [d1, d2, d3, d4, d5, d6, d7, d8] => { results := [.lit (.bool false)], args := [d1, d2, d3, d4, d5, d6, d7, d8] }
  | _ => none }
def MaddShiftsWrongFalsely : Prop := maddShiftsRow.holds Try.pinned (OpenSpec.ofChange maddShiftsWrong)

/-- 'astragallaw21.MaddStays': WHATEVER THE INPUT: true; the input reads as it did. -/
def maddStaysSpec : ChangeSpec := { name := "maddStays", fn := fun _ => fun
  | [d1, d2, d3, d4, d5, d6, d7, d8] => { results := [.lit (.bool true)], args := [d1, d2, d3, d4, d5, d6, d7, d8] }
  | _ => none }
def maddStaysRow : OpenClaim := { program := "ytobmgigmoppkkaa", sum := "03eab959a2e016028eb6acb9fbe5a4c03aee0de24d46718699529e6dfc9c079d", func := "astragal/astragallaw21.MaddStays", spec := "maddStays", inPlace := ["math/bits.Add64", "math/bits.Sub64"], apart := false }
def MaddStaysSaid : Prop := maddStaysRow.holds Try.pinned (OpenSpec.ofChange maddStaysSpec)

/-- ITS FALSE NEIGHBOUR: 'it returns false'. Refute it at one input. -/
def maddStaysWrong : ChangeSpec := { name := "maddStays", fn := fun _ => fun
  | [d1, d2, d3, d4, d5, d6, d7, d8] => { results := [.lit (.bool false)], args := [d1, d2, d3, d4, d5, d6, d7, d8] }
  | _ => none }
def MaddStaysWrongFalsely : Prop := maddStaysRow.holds Try.pinned (OpenSpec.ofChange maddStaysWrong)

/-- 'astragallaw26.RangesReduces': WHATEVER THE INPUT: true; the input reads as it did. -/
def rangesReducesSpec : ChangeSpec := { name := "rangesReduces", fn := fun _ => fun
  | [d1, d2, d3, d4] => { results := [.lit (.bool true)], args := [d1, d2, d3, d4] }
  | _ => none }
def rangesReducesRow : OpenClaim := { program := "ytobmgigmoppkkaa", sum := "03eab959a2e016028eb6acb9fbe5a4c03aee0de24d46718699529e6dfc9c079d", func := "astragal/astragallaw26.RangesReduces", spec := "rangesReduces", inPlace := ["math/bits.Add64", "math/bits.Sub64"], unfollowed := true, recurses := true, named := ["math/bits.divideError", "math/bits.overflowError"], apart := false }
def RangesReducesSaid : Prop := rangesReducesRow.holds Try.pinned (OpenSpec.ofChange rangesReducesSpec)

/-- ITS FALSE NEIGHBOUR: 'it returns false'. Refute it at one input. -/
def rangesReducesWrong : ChangeSpec := { name := "rangesReduces", fn := fun _ => fun
  | [d1, d2, d3, d4] => { results := [.lit (.bool false)], args := [d1, d2, d3, d4] }
  | _ => none }
def RangesReducesWrongFalsely : Prop := rangesReducesRow.holds Try.pinned (OpenSpec.ofChange rangesReducesWrong)

/-- 'astragallaw26.RangesCounts': WHATEVER THE INPUT: true; the input reads as it did. -/
def rangesCountsSpec : ChangeSpec := { name := "rangesCounts", fn := fun _ => fun
  | [d1, d2, d3] => { results := [.lit (.bool true)], args := [d1, d2, d3] }
  | _ => none }
def rangesCountsRow : OpenClaim := { program := "ytobmgigmoppkkaa", sum := "03eab959a2e016028eb6acb9fbe5a4c03aee0de24d46718699529e6dfc9c079d", func := "astragal/astragallaw26.RangesCounts", spec := "rangesCounts", inPlace := ["math/bits.Add64", "math/bits.Sub64"], unfollowed := true, recurses := true, named := ["math/bits.divideError", "math/bits.overflowError"], apart := false }
def RangesCountsSaid : Prop := rangesCountsRow.holds Try.pinned (OpenSpec.ofChange rangesCountsSpec)

/-- ITS FALSE NEIGHBOUR: 'it returns false'. Refute it at one input. -/
def rangesCountsWrong : ChangeSpec := { name := "rangesCounts", fn := fun _ => fun
  | [d1, d2, d3] => { results := [.lit (.bool false)], args := [d1, d2, d3] }
  | _ => none }
def RangesCountsWrongFalsely : Prop := rangesCountsRow.holds Try.pinned (OpenSpec.ofChange rangesCountsWrong)

/-- 'astragallaw26.RangesRanks': WHATEVER THE INPUT: true; the input reads as it did. -/
def rangesRanksSpec : ChangeSpec := { name := "rangesRanks", fn := fun _ => fun
  | [d1, d2, d3, d4, d5] => { results := [.lit (.bool true)], args := [d1, d2, d3, d4, d5] }
  | _ => none }
def rangesRanksRow : OpenClaim := { program := "ytobmgigmoppkkaa", sum := "03eab959a2e016028eb6acb9fbe5a4c03aee0de24d46718699529e6dfc9c079d", func := "astragal/astragallaw26.RangesRanks", spec := "rangesRanks", inPlace := ["math/bits.Add64", "math/bits.Sub64"], unfollowed := true, recurses := true, named := ["math/bits.divideError", "math/bits.overflowError"], apart := false }
def RangesRanksSaid : Prop := rangesRanksRow.holds Try.pinned (OpenSpec.ofChange rangesRanksSpec)

/-- ITS FALSE NEIGHBOUR: 'it returns false'. Refute it at one input. -/
def rangesRanksWrong : ChangeSpec := { name := "rangesRanks", fn := fun _ => fun
  | [d1, d2, d3, d4, d5] => { results := [.lit (.bool false)], args := [d1, d2, d3, d4, d5] }
  | _ => none }
def RangesRanksWrongFalsely : Prop := rangesRanksRow.holds Try.pinned (OpenSpec.ofChange rangesRanksWrong)

/- THE SECOND FORM. 'bulk': how many values and letters a reading holds, each counted each time it is reached (what is shared counts as often as it is met; a slice's spare places count too). A statement '..UptoSaid' is the law's where the arguments, and the package variables that the reading takes, are together of bulk at most 1048576: NARROWER than '..Said'. Prove '..Said' where nothing that the law and all that it calls make is longer than what came in: it says more and counts as full. Else prove '..UptoSaid'. A law counts once. -/
mutual
def uptoBulk {H : Type} : DataW H → Nat
  | .lit (.string bytes) => bytes.length + 1
  | .lit _ => 1
  | .nil => 1
  | .ptr d => uptoBulk d + 1
  | .slice elems spare => uptoBulkAll elems + uptoBulkAll spare + 1
  | .agg parts => uptoBulkAll parts + 1
  | .iface _ d => uptoBulk d + 1
  | .map entries => uptoBulkEntries entries + 1
  | .held _ => 1
def uptoBulkAll {H : Type} : List (DataW H) → Nat
  | [] => 0
  | d :: r => uptoBulk d + uptoBulkAll r
def uptoBulkEntries {H : Type} : List (Lit × DataW H) → Nat
  | [] => 0
  | x :: r => uptoBulkEntry x + uptoBulkEntries r
def uptoBulkEntry {H : Type} : Lit × DataW H → Nat
  | (.string bytes, d) => bytes.length + uptoBulk d + 1
  | (_, d) => uptoBulk d + 1
 end
def uptoSmall : (H : Type) → List (DataW H) → Bool := fun _ ds => decide (uptoBulkAll ds ≤ 1048576)
def OpenSpec.upto (s : _root_.Go.ChangeSpec) : _root_.Go.OpenSpec := { _root_.Go.OpenSpec.ofChange s with cond := some uptoSmall }

/-- 'astragallaw21.MaddEvals', WHERE WHAT IT READS IS OF BULK AT MOST 1048576: true; the input reads as it did. -/
def maddEvalsUptoRow : OpenClaim := { program := "ytobmgigmoppkkaa", sum := "03eab959a2e016028eb6acb9fbe5a4c03aee0de24d46718699529e6dfc9c079d", func := "astragal/astragallaw21.MaddEvals", spec := "maddEvals", inPlace := ["math/bits.Add64"], apart := false, narrowed := true }
def MaddEvalsUptoSaid : Prop := maddEvalsUptoRow.holds Try.pinned (OpenSpec.upto maddEvalsSpec)

/-- 'astragallaw21.MaddShifts', WHERE WHAT IT READS IS OF BULK AT MOST 1048576: true; the input reads as it did. -/
def maddShiftsUptoRow : OpenClaim := { program := "ytobmgigmoppkkaa", sum := "03eab959a2e016028eb6acb9fbe5a4c03aee0de24d46718699529e6dfc9c079d", func := "astragal/astragallaw21.MaddShifts", spec := "maddShifts", inPlace := ["math/bits.Add64", "math/bits.Sub64"], apart := false, narrowed := true }
def MaddShiftsUptoSaid : Prop := maddShiftsUptoRow.holds Try.pinned (OpenSpec.upto maddShiftsSpec)

/-- 'astragallaw21.MaddStays', WHERE WHAT IT READS IS OF BULK AT MOST 1048576: true; the input reads as it did. -/
def maddStaysUptoRow : OpenClaim := { program := "ytobmgigmoppkkaa", sum := "03eab959a2e016028eb6acb9fbe5a4c03aee0de24d46718699529e6dfc9c079d", func := "astragal/astragallaw21.MaddStays", spec := "maddStays", inPlace := ["math/bits.Add64", "math/bits.Sub64"], apart := false, narrowed := true }
def MaddStaysUptoSaid : Prop := maddStaysUptoRow.holds Try.pinned (OpenSpec.upto maddStaysSpec)

/-- 'astragallaw26.RangesReduces', WHERE WHAT IT READS IS OF BULK AT MOST 1048576: true; the input reads as it did. -/
def rangesReducesUptoRow : OpenClaim := { program := "ytobmgigmoppkkaa", sum := "03eab959a2e016028eb6acb9fbe5a4c03aee0de24d46718699529e6dfc9c079d", func := "astragal/astragallaw26.RangesReduces", spec := "rangesReduces", inPlace := ["math/bits.Add64", "math/bits.Sub64"], unfollowed := true, recurses := true, named := ["math/bits.divideError", "math/bits.overflowError"], apart := false, narrowed := true }
def RangesReducesUptoSaid : Prop := rangesReducesUptoRow.holds Try.pinned (OpenSpec.upto rangesReducesSpec)

/-- 'astragallaw26.RangesCounts', WHERE WHAT IT READS IS OF BULK AT MOST 1048576: true; the input reads as it did. -/
def rangesCountsUptoRow : OpenClaim := { program := "ytobmgigmoppkkaa", sum := "03eab959a2e016028eb6acb9fbe5a4c03aee0de24d46718699529e6dfc9c079d", func := "astragal/astragallaw26.RangesCounts", spec := "rangesCounts", inPlace := ["math/bits.Add64", "math/bits.Sub64"], unfollowed := true, recurses := true, named := ["math/bits.divideError", "math/bits.overflowError"], apart := false, narrowed := true }
def RangesCountsUptoSaid : Prop := rangesCountsUptoRow.holds Try.pinned (OpenSpec.upto rangesCountsSpec)

/-- 'astragallaw26.RangesRanks', WHERE WHAT IT READS IS OF BULK AT MOST 1048576: true; the input reads as it did. -/
def rangesRanksUptoRow : OpenClaim := { program := "ytobmgigmoppkkaa", sum := "03eab959a2e016028eb6acb9fbe5a4c03aee0de24d46718699529e6dfc9c079d", func := "astragal/astragallaw26.RangesRanks", spec := "rangesRanks", inPlace := ["math/bits.Add64", "math/bits.Sub64"], unfollowed := true, recurses := true, named := ["math/bits.divideError", "math/bits.overflowError"], apart := false, narrowed := true }
def RangesRanksUptoSaid : Prop := rangesRanksUptoRow.holds Try.pinned (OpenSpec.upto rangesRanksSpec)

end Rows
end Go.Proofs.Ytobmgigmoppkkaa
