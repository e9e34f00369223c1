/-
  No cell of these rows narrows 'for every input' (looked for: loops, veiled, ifaces, maps, wideKeys, modest, calm, conditions, laid).
  DERIVED. THE GIVEN ROWS OF THIS SEAT. 3 by the template 'for every input the law returns true; each argument reads behind the call as it read before'; 0 by the template 'total and deterministic' (their statements: YtfiihbknkglggaaTotals.lean).
  GIVEN WITH THE SEED: the statements are not yours to turn. If you find one false, say at which input.
  Laid BY PROGRAM, IN A SANDBOX (cutbox-rows.mjs): the forced cells as the released guide's own fill.sh prints them over the translation 02b79ac2e527dd6d… (all of the seat's roots in one cut). By AI agents, Wed Nov 11 2026. No macro, syntax, notation, axiom, sorry.
-/
import Derived.Test.YtfiihbknkglggaaChecked
import GoSem.Claim
import GoSem.ClaimJoined
import GoSem.ClaimMapViews
import Derived.JoinedTies
import Derived.KernelRfl
namespace Go.Proofs.Ytfiihbknkglggaa
/- THE CELL 'sum', in the pinned program and in every row, IS THE sha256 OF THE DUMP (.gsa) THAT YtfiihbknkglggaaProg.lean LOADS. Nothing in Lean hashes anything: it is a label: what it is worth is what the hold of that sum in a sandbox is worth. -/
noncomputable def Try.pinned : Pinned := { name := "ytfiihbknkglggaa", sum := "02b79ac2e527dd6d72f16e14bb4e4085483a6befb7e617e1894d1ac6d557fbdb", checked := Try.checked }
namespace Rows
def none {H : Type} : Left H := { results := [], args := [] }

/-- 'astragallaw21.MaddEvals': WHATEVER THE INPUT: true; the input reads as it did. -/
def maddEvalsSpec : ChangeSpec := { name := "maddEvals", fn := fun _ => fun
  | [d1, d2, d3, d4, d5] => { results := [.lit (.bool true)], args := [d1, d2, d3, d4, d5] }
  | _ => none }
def maddEvalsRow : OpenClaim := { program := "ytfiihbknkglggaa", sum := "02b79ac2e527dd6d72f16e14bb4e4085483a6befb7e617e1894d1ac6d557fbdb", func := "astragal/astragallaw21.MaddEvals", spec := "maddEvals", inPlace := ["math/bits.Add64"], apart := false }
def MaddEvalsSaid : Prop := maddEvalsRow.holds Try.pinned (OpenSpec.ofChange maddEvalsSpec)

/-- ITS FALSE NEIGHBOUR: 'it returns false'. Refute it at one input. -/
def maddEvalsWrong : ChangeSpec := { name := "maddEvals", fn := fun _ => fun
  | [d1, d2, d3, d4, d5] => { results := [.lit (.bool false)], args := [d1, d2, d3, d4, d5] }
  | _ => none }
def MaddEvalsWrongFalsely : Prop := maddEvalsRow.holds Try.pinned (OpenSpec.ofChange maddEvalsWrong)

/-- 'astragallaw21.MaddShifts': WHATEVER THE INPUT: true; the input reads as it did. -/
def maddShiftsSpec : ChangeSpec := { name := "maddShifts", fn := fun _ => fun
  | [d1, d2, d3, d4, d5, d6, d7, d8] => { results := [.lit (.bool true)], args := [d1, d2, d3, d4, d5, d6, d7, d8] }
  | _ => none }
def maddShiftsRow : OpenClaim := { program := "ytfiihbknkglggaa", sum := "02b79ac2e527dd6d72f16e14bb4e4085483a6befb7e617e1894d1ac6d557fbdb", func := "astragal/astragallaw21.MaddShifts", spec := "maddShifts", inPlace := ["math/bits.Add64", "math/bits.Sub64"], apart := false }
def MaddShiftsSaid : Prop := maddShiftsRow.holds Try.pinned (OpenSpec.ofChange maddShiftsSpec)

/-- ITS FALSE NEIGHBOUR: 'it returns false'. Refute it at one input. -/
def maddShiftsWrong : ChangeSpec := { name := "maddShifts", fn := fun _ => fun
  | [d1, d2, d3, d4, d5, d6, d7, d8] => { results := [.lit (.bool false)], args := [d1, d2, d3, d4, d5, d6, d7, d8] }
  | _ => none }
def MaddShiftsWrongFalsely : Prop := maddShiftsRow.holds Try.pinned (OpenSpec.ofChange maddShiftsWrong)

/-- 'astragallaw21.MaddStays': WHATEVER THE INPUT: true; the input reads as it did. -/
def maddStaysSpec : ChangeSpec := { name := "maddStays", fn := fun _ => fun
  | [d1, d2, d3, d4, d5, d6, d7, d8] => { results := [.lit (.bool true)], args := [d1, d2, d3, d4, d5, d6, d7, d8] }
  | _ => none }
def maddStaysRow : OpenClaim := { program := "ytfiihbknkglggaa", sum := "02b79ac2e527dd6d72f16e14bb4e4085483a6befb7e617e1894d1ac6d557fbdb", func := "astragal/astragallaw21.MaddStays", spec := "maddStays", inPlace := ["math/bits.Add64", "math/bits.Sub64"], apart := false }
def MaddStaysSaid : Prop := maddStaysRow.holds Try.pinned (OpenSpec.ofChange maddStaysSpec)

/-- ITS FALSE NEIGHBOUR: 'it returns false'. Refute it at one input. -/
def maddStaysWrong : ChangeSpec := { name := "maddStays", fn := fun _ => fun
  | [d1, d2, d3, d4, d5, d6, d7, d8] => { results := [.lit (.bool false)], args := [d1, d2, d3, d4, d5, d6, d7, d8] }
  | _ => none }
def MaddStaysWrongFalsely : Prop := maddStaysRow.holds Try.pinned (OpenSpec.ofChange maddStaysWrong)

/- THE SECOND FORM. 'bulk': how many values and letters a reading holds, each counted each time it is reached (what is shared counts as often as it is met; a slice's spare places count too). A statement '..UptoSaid' is the law's where the arguments, and the package variables that the reading takes, are together of bulk at most 1048576: NARROWER than '..Said'. Prove '..Said' where nothing that the law and all that it calls make is longer than what came in: it says more and counts as full. Else prove '..UptoSaid'. A law counts once. -/
mutual
def uptoBulk {H : Type} : DataW H → Nat
  | .lit (.string bytes) => bytes.length + 1
  | .lit _ => 1
  | .nil => 1
  | .ptr d => uptoBulk d + 1
  | .slice elems spare => uptoBulkAll elems + uptoBulkAll spare + 1
  | .agg parts => uptoBulkAll parts + 1
  | .iface _ d => uptoBulk d + 1
  | .map entries => uptoBulkEntries entries + 1
  | .held _ => 1
def uptoBulkAll {H : Type} : List (DataW H) → Nat
  | [] => 0
  | d :: r => uptoBulk d + uptoBulkAll r
def uptoBulkEntries {H : Type} : List (Lit × DataW H) → Nat
  | [] => 0
  | x :: r => uptoBulkEntry x + uptoBulkEntries r
def uptoBulkEntry {H : Type} : Lit × DataW H → Nat
  | (.string bytes, d) => bytes.length + uptoBulk d + 1
  | (_, d) => uptoBulk d + 1
 end
def uptoSmall : (H : Type) → List (DataW H) → Bool := fun _ ds => decide (uptoBulkAll ds ≤ 1048576)
def OpenSpec.upto (s : _root_.Go.ChangeSpec) : _root_.Go.OpenSpec := { _root_.Go.OpenSpec.ofChange s with cond := some uptoSmall }

/-- 'astragallaw21.MaddEvals', WHERE WHAT IT READS IS OF BULK AT MOST 1048576: true; the input reads as it did. -/
def maddEvalsUptoRow : OpenClaim := { program := "ytfiihbknkglggaa", sum := "02b79ac2e527dd6d72f16e14bb4e4085483a6befb7e617e1894d1ac6d557fbdb", func := "astragal/astragallaw21.MaddEvals", spec := "maddEvals", inPlace := ["math/bits.Add64"], apart := false, narrowed := true }
def MaddEvalsUptoSaid : Prop := maddEvalsUptoRow.holds Try.pinned (OpenSpec.upto maddEvalsSpec)

/-- 'astragallaw21.MaddShifts', WHERE WHAT IT READS IS OF BULK AT MOST 1048576: true; the input reads as it did. -/
def maddShiftsUptoRow : OpenClaim := { program := "ytfiihbknkglggaa", sum := "02b79ac2e527dd6d72f16e14bb4e4085483a6befb7e617e1894d1ac6d557fbdb", func := "astragal/astragallaw21.MaddShifts", spec := "maddShifts", inPlace := ["math/bits.Add64", "math/bits.Sub64"], apart := false, narrowed := true }
def MaddShiftsUptoSaid : Prop := maddShiftsUptoRow.holds Try.pinned (OpenSpec.upto maddShiftsSpec)

/-- 'astragallaw21.MaddStays', WHERE WHAT IT READS IS OF BULK AT MOST 1048576: true; the input reads as it did. -/
def maddStaysUptoRow : OpenClaim := { program := "ytfiihbknkglggaa", sum := "02b79ac2e527dd6d72f16e14bb4e4085483a6befb7e617e1894d1ac6d557fbdb", func := "astragal/astragallaw21.MaddStays", spec := "maddStays", inPlace := ["math/bits.Add64", "math/bits.Sub64"], apart := false, narrowed := true }
def MaddStaysUptoSaid : Prop := maddStaysUptoRow.holds Try.pinned (OpenSpec.upto maddStaysSpec)

end Rows
end Go.Proofs.Ytfiihbknkglggaa
