/-
  No cell of these rows narrows 'for every input' (looked for: loops, veiled, ifaces, maps, wideKeys, modest, calm, conditions, laid).
  DERIVED. THE GIVEN ROWS OF THIS SEAT. 3 by the template 'for every input the law returns true; each argument reads behind the call as it read before'; 0 by the template 'total and deterministic' (their statements: YtdjlbpgjbgepdaaGreatTotals.lean).
  GIVEN WITH THE SEED: the statements are not yours to turn. If you find one false, say at which input.
  Laid BY PROGRAM, IN A SANDBOX (cutbox-rows.mjs): the forced cells as the released guide's own fill.sh prints them over the translation 3e7326899334cbbe… (all of the seat's roots in one cut). By AI agents, Wed Nov 11 2026. No macro, syntax, notation, axiom, sorry.
-/
import Derived.Test.YtdjlbpgjbgepdaaGreatChecked
import GoSem.Claim
import GoSem.ClaimJoined
import GoSem.ClaimMapViews
import Derived.JoinedTies
import Derived.KernelRfl
namespace Go.Proofs.YtdjlbpgjbgepdaaGreat
/- THE CELL 'sum', in the pinned program and in every row, IS THE sha256 OF THE DUMP (.gsa) THAT YtdjlbpgjbgepdaaGreatProg.lean LOADS. Nothing in Lean hashes anything: it is a label: what it is worth is what the hold of that sum in a sandbox is worth. -/
noncomputable def Tryz.pinned : Pinned := { name := "ytdjlbpgjbgepdaagreat", sum := "3e7326899334cbbe694f7cb5322ed423e84f68362c0fe55cf62e2f290a0c451f", checked := Tryz.checked }
namespace Rows
def none {H : Type} : Left H := { results := [], args := [] }

/-- 'astragallaw44.SeedsChecks': WHATEVER THE INPUT: true; the input reads as it did. -/
def seedsChecksSpec : ChangeSpec := { name := "seedsChecks", fn := fun _ => fun
  | [d1, d2, d3] => { results := [.lit (.bool true)], args := [d1, d2, d3] }
  | _ => none }
def seedsChecksRow : OpenClaim := { program := "ytdjlbpgjbgepdaagreat", sum := "3e7326899334cbbe694f7cb5322ed423e84f68362c0fe55cf62e2f290a0c451f", func := "astragal/astragallaw44.SeedsChecks", spec := "seedsChecks", inPlace := ["math/bits.Add64", "math/bits.Sub64"], unfollowed := true, recurses := true, named := ["math/bits.divideError", "math/bits.overflowError"], apart := false }
def SeedsChecksSaid : Prop := seedsChecksRow.holds Tryz.pinned (OpenSpec.ofChange seedsChecksSpec)

/-- ITS FALSE NEIGHBOUR: 'it returns false'. Refute it at one input. -/
def seedsChecksWrong : ChangeSpec := { name := "seedsChecks", fn := fun _ => fun
  | [d1, d2, d3] => { results := [.lit (.bool false)], args := [d1, d2, d3] }
  | _ => none }
def SeedsChecksWrongFalsely : Prop := seedsChecksRow.holds Tryz.pinned (OpenSpec.ofChange seedsChecksWrong)

/-- 'astragallaw44.SeedsTakes': WHATEVER THE INPUT: true; the input reads as it did. -/
def seedsTakesSpec : ChangeSpec := { name := "seedsTakes", fn := fun _ => fun
  | [d1, d2, d3, d4] => { results := [.lit (.bool true)], args := [d1, d2, d3, d4] }
  | _ => none }
def seedsTakesRow : OpenClaim := { program := "ytdjlbpgjbgepdaagreat", sum := "3e7326899334cbbe694f7cb5322ed423e84f68362c0fe55cf62e2f290a0c451f", func := "astragal/astragallaw44.SeedsTakes", spec := "seedsTakes", inPlace := ["math/bits.Add64", "math/bits.Sub64"], unfollowed := true, recurses := true, named := ["math/bits.divideError", "math/bits.overflowError"], apart := false }
def SeedsTakesSaid : Prop := seedsTakesRow.holds Tryz.pinned (OpenSpec.ofChange seedsTakesSpec)

/-- ITS FALSE NEIGHBOUR: 'it returns false'. Refute it at one input. -/
def seedsTakesWrong : ChangeSpec := { name := "seedsTakes", fn := fun _ => fun
  | [d1, d2, d3, d4] => { results := [.lit (.bool false)], args := [d1, d2, d3, d4] }
  | _ => none }
def SeedsTakesWrongFalsely : Prop := seedsTakesRow.holds Tryz.pinned (OpenSpec.ofChange seedsTakesWrong)

/-- 'astragallaw44.SeedsAims': WHATEVER THE INPUT: true; the input reads as it did. -/
def seedsAimsSpec : ChangeSpec := { name := "seedsAims", fn := fun _ => fun
  | [d1, d2] => { results := [.lit (.bool true)], args := [d1, d2] }
  | _ => none }
def seedsAimsRow : OpenClaim := { program := "ytdjlbpgjbgepdaagreat", sum := "3e7326899334cbbe694f7cb5322ed423e84f68362c0fe55cf62e2f290a0c451f", func := "astragal/astragallaw44.SeedsAims", spec := "seedsAims", inPlace := ["math/bits.Add64", "math/bits.Sub64"], unfollowed := true, recurses := true, named := ["math/bits.divideError", "math/bits.overflowError"], apart := false }
def SeedsAimsSaid : Prop := seedsAimsRow.holds Tryz.pinned (OpenSpec.ofChange seedsAimsSpec)

/-- ITS FALSE NEIGHBOUR: 'it returns false'. Refute it at one input. -/
def seedsAimsWrong : ChangeSpec := { name := "seedsAims", fn := fun _ => fun
  | [d1, d2] => { results := [.lit (.bool false)], args := [d1, d2] }
  | _ => none }
def SeedsAimsWrongFalsely : Prop := seedsAimsRow.holds Tryz.pinned (OpenSpec.ofChange seedsAimsWrong)

/- THE SECOND FORM. 'bulk': how many values and letters a reading holds, each counted each time it is reached (what is shared counts as often as it is met; a slice's spare places count too). A statement '..UptoSaid' is the law's where the arguments, and the package variables that the reading takes, are together of bulk at most 1048576: NARROWER than '..Said'. Prove '..Said' where nothing that the law and all that it calls make is longer than what came in: it says more and counts as full. Else prove '..UptoSaid'. A law counts once. -/
mutual
def uptoBulk {H : Type} : DataW H → Nat
  | .lit (.string bytes) => bytes.length + 1
  | .lit _ => 1
  | .nil => 1
  | .ptr d => uptoBulk d + 1
  | .slice elems spare => uptoBulkAll elems + uptoBulkAll spare + 1
  | .agg parts => uptoBulkAll parts + 1
  | .iface _ d => uptoBulk d + 1
  | .map entries => uptoBulkEntries entries + 1
  | .held _ => 1
def uptoBulkAll {H : Type} : List (DataW H) → Nat
  | [] => 0
  | d :: r => uptoBulk d + uptoBulkAll r
def uptoBulkEntries {H : Type} : List (Lit × DataW H) → Nat
  | [] => 0
  | x :: r => uptoBulkEntry x + uptoBulkEntries r
def uptoBulkEntry {H : Type} : Lit × DataW H → Nat
  | (.string bytes, d) => bytes.length + uptoBulk d + 1
  | (_, d) => uptoBulk d + 1
 end
def uptoSmall : (H : Type) → List (DataW H) → Bool := fun _ ds => decide (uptoBulkAll ds ≤ 1048576)
def OpenSpec.upto (s : _root_.Go.ChangeSpec) : _root_.Go.OpenSpec := { _root_.Go.OpenSpec.ofChange s with cond := some uptoSmall }

/-- 'astragallaw44.SeedsChecks', WHERE WHAT IT READS IS OF BULK AT MOST 1048576: true; the input reads as it did. -/
def seedsChecksUptoRow : OpenClaim := { program := "ytdjlbpgjbgepdaagreat", sum := "3e7326899334cbbe694f7cb5322ed423e84f68362c0fe55cf62e2f290a0c451f", func := "astragal/astragallaw44.SeedsChecks", spec := "seedsChecks", inPlace := ["math/bits.Add64", "math/bits.Sub64"], unfollowed := true, recurses := true, named := ["math/bits.divideError", "math/bits.overflowError"], apart := false, narrowed := true }
def SeedsChecksUptoSaid : Prop := seedsChecksUptoRow.holds Tryz.pinned (OpenSpec.upto seedsChecksSpec)

/-- 'astragallaw44.SeedsTakes', WHERE WHAT IT READS IS OF BULK AT MOST 1048576: true; the input reads as it did. -/
def seedsTakesUptoRow : OpenClaim := { program := "ytdjlbpgjbgepdaagreat", sum := "3e7326899334cbbe694f7cb5322ed423e84f68362c0fe55cf62e2f290a0c451f", func := "astragal/astragallaw44.SeedsTakes", spec := "seedsTakes", inPlace := ["math/bits.Add64", "math/bits.Sub64"], unfollowed := true, recurses := true, named := ["math/bits.divideError", "math/bits.overflowError"], apart := false, narrowed := true }
def SeedsTakesUptoSaid : Prop := seedsTakesUptoRow.holds Tryz.pinned (OpenSpec.upto seedsTakesSpec)

/-- 'astragallaw44.SeedsAims', WHERE WHAT IT READS IS OF BULK AT MOST 1048576: true; the input reads as it did. -/
def seedsAimsUptoRow : OpenClaim := { program := "ytdjlbpgjbgepdaagreat", sum := "3e7326899334cbbe694f7cb5322ed423e84f68362c0fe55cf62e2f290a0c451f", func := "astragal/astragallaw44.SeedsAims", spec := "seedsAims", inPlace := ["math/bits.Add64", "math/bits.Sub64"], unfollowed := true, recurses := true, named := ["math/bits.divideError", "math/bits.overflowError"], apart := false, narrowed := true }
def SeedsAimsUptoSaid : Prop := seedsAimsUptoRow.holds Tryz.pinned (OpenSpec.upto seedsAimsSpec)

end Rows
end Go.Proofs.YtdjlbpgjbgepdaaGreat
