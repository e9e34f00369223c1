/-
  No cell of these rows narrows 'for every input' (looked for: loops, veiled, ifaces, maps, wideKeys, modest, calm, conditions, laid).
  DERIVED. THE GIVEN ROWS OF THIS SEAT. 3 by the template 'for every input the law returns true; each argument reads behind the call as it read before'; 0 by the template 'total and deterministic' (their statements: YtoplabhoedloeaaTotals.lean).
  GIVEN WITH THE SEED: the statements are not yours to turn. If you find one false, say at which input.
  Laid BY PROGRAM, IN A SANDBOX (cutbox-rows.mjs): the forced cells as the released guide's own fill.sh prints them over the translation 9286cebd8631e4e8… (all of the seat's roots in one cut). By AI agents, Wed Nov 11 2026. No macro, syntax, notation, axiom, sorry.
-/
import Derived.Test.YtoplabhoedloeaaChecked
import GoSem.Claim
import GoSem.ClaimJoined
import GoSem.ClaimMapViews
import Derived.JoinedTies
import Derived.KernelRfl
namespace Go.Proofs.Ytoplabhoedloeaa
/- THE CELL 'sum', in the pinned program and in every row, IS THE sha256 OF THE DUMP (.gsa) THAT YtoplabhoedloeaaProg.lean LOADS. Nothing in Lean hashes anything: it is a label: what it is worth is what the hold of that sum in a sandbox is worth. -/
noncomputable def Try.pinned : Pinned := { name := "ytoplabhoedloeaa", sum := "9286cebd8631e4e8635fec2450151709ad5b640853fb527f5fde3c47179e245a", checked := Try.checked }
namespace Rows
def none {H : Type} : Left H := { results := [], args := [] }

/-- 'astragallaw45.DeriveLabels': WHATEVER THE INPUT: true; the input reads as it did. -/
def deriveLabelsSpec : ChangeSpec := { name := "deriveLabels", fn := fun _ => fun
  | [d1, d2, d3] => { results := [.lit (.bool true)], args := [d1, d2, d3] }
  | _ => none }
def deriveLabelsRow : OpenClaim := { program := "ytoplabhoedloeaa", sum := "9286cebd8631e4e8635fec2450151709ad5b640853fb527f5fde3c47179e245a", func := "astragal/astragallaw45.DeriveLabels", spec := "deriveLabels", inPlace := ["internal/bytealg.IndexByteString", "internal/bytealg.IndexString"], unfollowed := true, recurses := true, named := ["internal/bytealg.MaxLen"], apart := false }
def DeriveLabelsSaid : Prop := deriveLabelsRow.holds Try.pinned (OpenSpec.ofChange deriveLabelsSpec)

/-- ITS FALSE NEIGHBOUR: 'it returns false'. Refute it at one input. -/
def deriveLabelsWrong : ChangeSpec := { name := "deriveLabels", fn := fun _ => fun
  | [d1, d2, d3] => { results := [.lit (.bool false)], args := [d1, d2, d3] }
  | _ => none }
def DeriveLabelsWrongFalsely : Prop := deriveLabelsRow.holds Try.pinned (OpenSpec.ofChange deriveLabelsWrong)

/-- 'astragallaw45.DerivePaths': WHATEVER THE INPUT: true; the input reads as it did. -/
def derivePathsSpec : ChangeSpec := { name := "derivePaths", fn := fun _ => fun
  | [d1, d2] => { results := [.lit (.bool true)], args := [d1, d2] }
  | _ => none }
def derivePathsRow : OpenClaim := { program := "ytoplabhoedloeaa", sum := "9286cebd8631e4e8635fec2450151709ad5b640853fb527f5fde3c47179e245a", func := "astragal/astragallaw45.DerivePaths", spec := "derivePaths", inPlace := ["internal/bytealg.IndexByteString", "internal/bytealg.IndexString"], unfollowed := true, recurses := true, named := ["internal/bytealg.MaxLen"], apart := false }
def DerivePathsSaid : Prop := derivePathsRow.holds Try.pinned (OpenSpec.ofChange derivePathsSpec)

/-- ITS FALSE NEIGHBOUR: 'it returns false'. Refute it at one input. -/
def derivePathsWrong : ChangeSpec := { name := "derivePaths", fn := fun _ => fun
  | [d1, d2] => { results := [.lit (.bool false)], args := [d1, d2] }
  | _ => none }
def DerivePathsWrongFalsely : Prop := derivePathsRow.holds Try.pinned (OpenSpec.ofChange derivePathsWrong)

/-- 'astragallaw45.DeriveJoins': WHATEVER THE INPUT: true; the input reads as it did. -/
def deriveJoinsSpec : ChangeSpec := { name := "deriveJoins", fn := fun _ => fun
  | [d1, d2, d3] => { results := [.lit (.bool true)], args := [d1, d2, d3] }
  | _ => none }
def deriveJoinsRow : OpenClaim := { program := "ytoplabhoedloeaa", sum := "9286cebd8631e4e8635fec2450151709ad5b640853fb527f5fde3c47179e245a", func := "astragal/astragallaw45.DeriveJoins", spec := "deriveJoins", inPlace := ["internal/bytealg.IndexByteString", "internal/bytealg.IndexString"], unfollowed := true, recurses := true, named := ["internal/bytealg.MaxLen"], apart := false }
def DeriveJoinsSaid : Prop := deriveJoinsRow.holds Try.pinned (OpenSpec.ofChange deriveJoinsSpec)

/-- ITS FALSE NEIGHBOUR: 'it returns false'. Refute it at one input. -/
def deriveJoinsWrong : ChangeSpec := { name := "deriveJoins", fn := fun _ => fun
  | [d1, d2, d3] => { results := [.lit (.bool false)], args := [d1, d2, d3] }
  | _ => none }
def DeriveJoinsWrongFalsely : Prop := deriveJoinsRow.holds Try.pinned (OpenSpec.ofChange deriveJoinsWrong)

/- THE SECOND FORM. 'bulk': how many values and letters a reading holds, each counted each time it is reached (what is shared counts as often as it is met; a slice's spare places count too). A statement '..UptoSaid' is the law's where the arguments, and the package variables that the reading takes, are together of bulk at most 1048576: NARROWER than '..Said'. Prove '..Said' where nothing that the law and all that it calls make is longer than what came in: it says more and counts as full. Else prove '..UptoSaid'. A law counts once. -/
mutual
def uptoBulk {H : Type} : DataW H → Nat
  | .lit (.string bytes) => bytes.length + 1
  | .lit _ => 1
  | .nil => 1
  | .ptr d => uptoBulk d + 1
  | .slice elems spare => uptoBulkAll elems + uptoBulkAll spare + 1
  | .agg parts => uptoBulkAll parts + 1
  | .iface _ d => uptoBulk d + 1
  | .map entries => uptoBulkEntries entries + 1
  | .held _ => 1
def uptoBulkAll {H : Type} : List (DataW H) → Nat
  | [] => 0
  | d :: r => uptoBulk d + uptoBulkAll r
def uptoBulkEntries {H : Type} : List (Lit × DataW H) → Nat
  | [] => 0
  | x :: r => uptoBulkEntry x + uptoBulkEntries r
def uptoBulkEntry {H : Type} : Lit × DataW H → Nat
  | (.string bytes, d) => bytes.length + uptoBulk d + 1
  | (_, d) => uptoBulk d + 1
 end
def uptoSmall : (H : Type) → List (DataW H) → Bool := fun _ ds => decide (uptoBulkAll ds ≤ 1048576)
def OpenSpec.upto (s : _root_.Go.ChangeSpec) : _root_.Go.OpenSpec := { _root_.Go.OpenSpec.ofChange s with cond := some uptoSmall }

/-- 'astragallaw45.DeriveLabels', WHERE WHAT IT READS IS OF BULK AT MOST 1048576: true; the input reads as it did. -/
def deriveLabelsUptoRow : OpenClaim := { program := "ytoplabhoedloeaa", sum := "9286cebd8631e4e8635fec2450151709ad5b640853fb527f5fde3c47179e245a", func := "astragal/astragallaw45.DeriveLabels", spec := "deriveLabels", inPlace := ["internal/bytealg.IndexByteString", "internal/bytealg.IndexString"], unfollowed := true, recurses := true, named := ["internal/bytealg.MaxLen"], apart := false, narrowed := true }
def DeriveLabelsUptoSaid : Prop := deriveLabelsUptoRow.holds Try.pinned (OpenSpec.upto deriveLabelsSpec)

/-- 'astragallaw45.DerivePaths', WHERE WHAT IT READS IS OF BULK AT MOST 1048576: true; the input reads as it did. -/
def derivePathsUptoRow : OpenClaim := { program := "ytoplabhoedloeaa", sum := "9286cebd8631e4e8635fec2450151709ad5b640853fb527f5fde3c47179e245a", func := "astragal/astragallaw45.DerivePaths", spec := "derivePaths", inPlace := ["internal/bytealg.IndexByteString", "internal/bytealg.IndexString"], unfollowed := true, recurses := true, named := ["internal/bytealg.MaxLen"], apart := false, narrowed := true }
def DerivePathsUptoSaid : Prop := derivePathsUptoRow.holds Try.pinned (OpenSpec.upto derivePathsSpec)

/-- 'astragallaw45.DeriveJoins', WHERE WHAT IT READS IS OF BULK AT MOST 1048576: true; the input reads as it did. -/
def deriveJoinsUptoRow : OpenClaim := { program := "ytoplabhoedloeaa", sum := "9286cebd8631e4e8635fec2450151709ad5b640853fb527f5fde3c47179e245a", func := "astragal/astragallaw45.DeriveJoins", spec := "deriveJoins", inPlace := ["internal/bytealg.IndexByteString", "internal/bytealg.IndexString"], unfollowed := true, recurses := true, named := ["internal/bytealg.MaxLen"], apart := false, narrowed := true }
def DeriveJoinsUptoSaid : Prop := deriveJoinsUptoRow.holds Try.pinned (OpenSpec.upto deriveJoinsSpec)

end Rows
end Go.Proofs.Ytoplabhoedloeaa
