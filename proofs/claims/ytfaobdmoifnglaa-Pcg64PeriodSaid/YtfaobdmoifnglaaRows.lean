/-
  No cell of these rows narrows 'for every input' (looked for: loops, veiled, ifaces, maps, wideKeys, modest, calm, conditions, laid).
  DERIVED. THE GIVEN ROWS OF THIS SEAT. 4 by the template 'for every input the law returns true; each argument reads behind the call as it read before'; 0 by the template 'total and deterministic' (their statements: YtfaobdmoifnglaaTotals.lean).
  GIVEN WITH THE SEED: the statements are not yours to turn. If you find one false, say at which input.
  Laid BY PROGRAM, IN A SANDBOX (cutbox-rows.mjs): the forced cells as the released guide's own fill.sh prints them over the translation 6a54c616995c0bf9… (all of the seat's roots in one cut). By AI agents, Wed Nov 11 2026. No macro, syntax, notation, axiom, sorry.
-/
import Derived.Test.YtfaobdmoifnglaaChecked
import GoSem.Claim
import GoSem.ClaimJoined
import GoSem.ClaimMapViews
import Derived.JoinedTies
import Derived.KernelRfl
namespace Go.Proofs.Ytfaobdmoifnglaa
/- THE CELL 'sum', in the pinned program and in every row, IS THE sha256 OF THE DUMP (.gsa) THAT YtfaobdmoifnglaaProg.lean LOADS. Nothing in Lean hashes anything: it is a label: what it is worth is what the hold of that sum in a sandbox is worth. -/
noncomputable def Try.pinned : Pinned := { name := "ytfaobdmoifnglaa", sum := "6a54c616995c0bf9373300518df5b4151363e611e373d1b1557fc7edc9a84049", checked := Try.checked }
namespace Rows
def none {H : Type} : Left H := { results := [], args := [] }

/-- 'astragallaw14.Pcg64Tells': WHATEVER THE INPUT: true; the input reads as it did. -/
def pcg64TellsSpec : ChangeSpec := { name := "pcg64Tells", fn := fun _ => fun
  | [d1, d2] => { results := [.lit (.bool true)], args := [d1, d2] }
  | _ => none }
def pcg64TellsRow : OpenClaim := { program := "ytfaobdmoifnglaa", sum := "6a54c616995c0bf9373300518df5b4151363e611e373d1b1557fc7edc9a84049", func := "astragal/astragallaw14.Pcg64Tells", spec := "pcg64Tells", inPlace := ["math/bits.Add64", "math/bits.Sub64"], apart := false }
def Pcg64TellsSaid : Prop := pcg64TellsRow.holds Try.pinned (OpenSpec.ofChange pcg64TellsSpec)

/-- ITS FALSE NEIGHBOUR: 'it returns false'. Refute it at one input. -/
def pcg64TellsWrong : ChangeSpec := { name := "pcg64Tells", fn := fun _ => fun
  | [d1, d2] => { results := [.lit (.bool false)], args := [d1, d2] }
  | _ => none }
def Pcg64TellsWrongFalsely : Prop := pcg64TellsRow.holds Try.pinned (OpenSpec.ofChange pcg64TellsWrong)

/-- 'astragallaw14.Pcg64Advances': WHATEVER THE INPUT: true; the input reads as it did. -/
def pcg64AdvancesSpec : ChangeSpec := { name := "pcg64Advances", fn := fun _ => fun
  | [d1, d2, d3, d4] => { results := [.lit (.bool true)], args := [d1, d2, d3, d4] }
  | _ => none }
def pcg64AdvancesRow : OpenClaim := { program := "ytfaobdmoifnglaa", sum := "6a54c616995c0bf9373300518df5b4151363e611e373d1b1557fc7edc9a84049", func := "astragal/astragallaw14.Pcg64Advances", spec := "pcg64Advances", inPlace := ["math/bits.Add64"], unfollowed := true, recurses := true, apart := false }
def Pcg64AdvancesSaid : Prop := pcg64AdvancesRow.holds Try.pinned (OpenSpec.ofChange pcg64AdvancesSpec)

/-- ITS FALSE NEIGHBOUR: 'it returns false'. Refute it at one input. -/
def pcg64AdvancesWrong : ChangeSpec := { name := "pcg64Advances", fn := fun _ => fun
  | [d1, d2, d3, d4] => { results := [.lit (.bool false)], args := [d1, d2, d3, d4] }
  | _ => none }
def Pcg64AdvancesWrongFalsely : Prop := pcg64AdvancesRow.holds Try.pinned (OpenSpec.ofChange pcg64AdvancesWrong)

/-- 'astragallaw14.Pcg64Period': WHATEVER THE INPUT: true; the input reads as it did. -/
def pcg64PeriodSpec : ChangeSpec := { name := "pcg64Period", fn := fun _ => fun
  | [d1, d2, d3, d4] => { results := [.lit (.bool true)], args := [d1, d2, d3, d4] }
  | _ => none }
def pcg64PeriodRow : OpenClaim := { program := "ytfaobdmoifnglaa", sum := "6a54c616995c0bf9373300518df5b4151363e611e373d1b1557fc7edc9a84049", func := "astragal/astragallaw14.Pcg64Period", spec := "pcg64Period", inPlace := ["math/bits.Add64"], unfollowed := true, recurses := true, apart := false }
def Pcg64PeriodSaid : Prop := pcg64PeriodRow.holds Try.pinned (OpenSpec.ofChange pcg64PeriodSpec)

/-- ITS FALSE NEIGHBOUR: 'it returns false'. Refute it at one input. -/
def pcg64PeriodWrong : ChangeSpec := { name := "pcg64Period", fn := fun _ => fun
  | [d1, d2, d3, d4] => { results := [.lit (.bool false)], args := [d1, d2, d3, d4] }
  | _ => none }
def Pcg64PeriodWrongFalsely : Prop := pcg64PeriodRow.holds Try.pinned (OpenSpec.ofChange pcg64PeriodWrong)

/-- 'astragallaw14.Pcg64Seeds': WHATEVER THE INPUT: true; the input reads as it did. -/
def pcg64SeedsSpec : ChangeSpec := { name := "pcg64Seeds", fn := fun _ => fun
  | [d1, d2] => { results := [.lit (.bool true)], args := [d1, d2] }
  | _ => none }
def pcg64SeedsRow : OpenClaim := { program := "ytfaobdmoifnglaa", sum := "6a54c616995c0bf9373300518df5b4151363e611e373d1b1557fc7edc9a84049", func := "astragal/astragallaw14.Pcg64Seeds", spec := "pcg64Seeds", inPlace := ["math/bits.Add64"], apart := false }
def Pcg64SeedsSaid : Prop := pcg64SeedsRow.holds Try.pinned (OpenSpec.ofChange pcg64SeedsSpec)

/-- ITS FALSE NEIGHBOUR: 'it returns false'. Refute it at one input. -/
def pcg64SeedsWrong : ChangeSpec := { name := "pcg64Seeds", fn := fun _ => fun
  | [d1, d2] => { results := [.lit (.bool false)], args := [d1, d2] }
  | _ => none }
def Pcg64SeedsWrongFalsely : Prop := pcg64SeedsRow.holds Try.pinned (OpenSpec.ofChange pcg64SeedsWrong)

/- THE SECOND FORM. 'bulk': how many values and letters a reading holds, each counted each time it is reached (what is shared counts as often as it is met; a slice's spare places count too). A statement '..UptoSaid' is the law's where the arguments, and the package variables that the reading takes, are together of bulk at most 1048576: NARROWER than '..Said'. Prove '..Said' where nothing that the law and all that it calls make is longer than what came in: it says more and counts as full. Else prove '..UptoSaid'. A law counts once. -/
mutual
def uptoBulk {H : Type} : DataW H → Nat
  | .lit (.string bytes) => bytes.length + 1
  | .lit _ => 1
  | .nil => 1
  | .ptr d => uptoBulk d + 1
  | .slice elems spare => uptoBulkAll elems + uptoBulkAll spare + 1
  | .agg parts => uptoBulkAll parts + 1
  | .iface _ d => uptoBulk d + 1
  | .map entries => uptoBulkEntries entries + 1
  | .held _ => 1
def uptoBulkAll {H : Type} : List (DataW H) → Nat
  | [] => 0
  | d :: r => uptoBulk d + uptoBulkAll r
def uptoBulkEntries {H : Type} : List (Lit × DataW H) → Nat
  | [] => 0
  | x :: r => uptoBulkEntry x + uptoBulkEntries r
def uptoBulkEntry {H : Type} : Lit × DataW H → Nat
  | (.string bytes, d) => bytes.length + uptoBulk d + 1
  | (_, d) => uptoBulk d + 1
 end
def uptoSmall : (H : Type) → List (DataW H) → Bool := fun _ ds => decide (uptoBulkAll ds ≤ 1048576)
def OpenSpec.upto (s : _root_.Go.ChangeSpec) : _root_.Go.OpenSpec := { _root_.Go.OpenSpec.ofChange s with cond := some uptoSmall }

/-- 'astragallaw14.Pcg64Tells', WHERE WHAT IT READS IS OF BULK AT MOST 1048576: true; the input reads as it did. -/
def pcg64TellsUptoRow : OpenClaim := { program := "ytfaobdmoifnglaa", sum := "6a54c616995c0bf9373300518df5b4151363e611e373d1b1557fc7edc9a84049", func := "astragal/astragallaw14.Pcg64Tells", spec := "pcg64Tells", inPlace := ["math/bits.Add64", "math/bits.Sub64"], apart := false, narrowed := true }
def Pcg64TellsUptoSaid : Prop := pcg64TellsUptoRow.holds Try.pinned (OpenSpec.upto pcg64TellsSpec)

/-- 'astragallaw14.Pcg64Advances', WHERE WHAT IT READS IS OF BULK AT MOST 1048576: true; the input reads as it did. -/
def pcg64AdvancesUptoRow : OpenClaim := { program := "ytfaobdmoifnglaa", sum := "6a54c616995c0bf9373300518df5b4151363e611e373d1b1557fc7edc9a84049", func := "astragal/astragallaw14.Pcg64Advances", spec := "pcg64Advances", inPlace := ["math/bits.Add64"], unfollowed := true, recurses := true, apart := false, narrowed := true }
def Pcg64AdvancesUptoSaid : Prop := pcg64AdvancesUptoRow.holds Try.pinned (OpenSpec.upto pcg64AdvancesSpec)

/-- 'astragallaw14.Pcg64Period', WHERE WHAT IT READS IS OF BULK AT MOST 1048576: true; the input reads as it did. -/
def pcg64PeriodUptoRow : OpenClaim := { program := "ytfaobdmoifnglaa", sum := "6a54c616995c0bf9373300518df5b4151363e611e373d1b1557fc7edc9a84049", func := "astragal/astragallaw14.Pcg64Period", spec := "pcg64Period", inPlace := ["math/bits.Add64"], unfollowed := true, recurses := true, apart := false, narrowed := true }
def Pcg64PeriodUptoSaid : Prop := pcg64PeriodUptoRow.holds Try.pinned (OpenSpec.upto pcg64PeriodSpec)

/-- 'astragallaw14.Pcg64Seeds', WHERE WHAT IT READS IS OF BULK AT MOST 1048576: true; the input reads as it did. -/
def pcg64SeedsUptoRow : OpenClaim := { program := "ytfaobdmoifnglaa", sum := "6a54c616995c0bf9373300518df5b4151363e611e373d1b1557fc7edc9a84049", func := "astragal/astragallaw14.Pcg64Seeds", spec := "pcg64Seeds", inPlace := ["math/bits.Add64"], apart := false, narrowed := true }
def Pcg64SeedsUptoSaid : Prop := pcg64SeedsUptoRow.holds Try.pinned (OpenSpec.upto pcg64SeedsSpec)

end Rows
end Go.Proofs.Ytfaobdmoifnglaa
