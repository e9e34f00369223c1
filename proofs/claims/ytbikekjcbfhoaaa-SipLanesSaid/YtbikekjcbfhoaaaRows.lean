/-
  No cell of these rows narrows 'for every input' (looked for: loops, veiled, ifaces, maps, wideKeys, modest, calm, conditions, laid).
  DERIVED. THE GIVEN ROWS OF THIS SEAT. 4 by the template 'for every input the law returns true; each argument reads behind the call as it read before'; 0 by the template 'total and deterministic' (their statements: YtbikekjcbfhoaaaTotals.lean).
  GIVEN WITH THE SEED: the statements are not yours to turn. If you find one false, say at which input.
  Laid BY PROGRAM, IN A SANDBOX (cutbox-rows.mjs): the forced cells as the released guide's own fill.sh prints them over the translation 97fde633738a21ec… (all of the seat's roots in one cut). By AI agents, Wed Nov 11 2026. No macro, syntax, notation, axiom, sorry.
-/
import Derived.Test.YtbikekjcbfhoaaaChecked
import GoSem.Claim
import GoSem.ClaimJoined
import GoSem.ClaimMapViews
import Derived.JoinedTies
import Derived.KernelRfl
namespace Go.Proofs.Ytbikekjcbfhoaaa
/- THE CELL 'sum', in the pinned program and in every row, IS THE sha256 OF THE DUMP (.gsa) THAT YtbikekjcbfhoaaaProg.lean LOADS. Nothing in Lean hashes anything: it is a label: what it is worth is what the hold of that sum in a sandbox is worth. -/
noncomputable def Try.pinned : Pinned := { name := "ytbikekjcbfhoaaa", sum := "97fde633738a21ec3f2bfa33548b49051f1b98f35960bd5533b1ae059dc7231c", checked := Try.checked }
namespace Rows
def none {H : Type} : Left H := { results := [], args := [] }

/-- 'astragallaw34.SipOne': WHATEVER THE INPUT: true; the input reads as it did. -/
def sipOneSpec : ChangeSpec := { name := "sipOne", fn := fun _ => fun
  | [d1, d2, d3] => { results := [.lit (.bool true)], args := [d1, d2, d3] }
  | _ => none }
def sipOneRow : OpenClaim := { program := "ytbikekjcbfhoaaa", sum := "97fde633738a21ec3f2bfa33548b49051f1b98f35960bd5533b1ae059dc7231c", func := "astragal/astragallaw34.SipOne", spec := "sipOne", unfollowed := true, recurses := true, apart := false }
def SipOneSaid : Prop := sipOneRow.holds Try.pinned (OpenSpec.ofChange sipOneSpec)

/-- ITS FALSE NEIGHBOUR: 'it returns false'. Refute it at one input. -/
def sipOneWrong : ChangeSpec := { name := "sipOne", fn := fun _ => fun
  | [d1, d2, d3] => { results := [.lit (.bool false)], args := [d1, d2, d3] }
  | _ => none }
def SipOneWrongFalsely : Prop := sipOneRow.holds Try.pinned (OpenSpec.ofChange sipOneWrong)

/-- 'astragallaw34.SipPieces': WHATEVER THE INPUT: true; the input reads as it did. -/
def sipPiecesSpec : ChangeSpec := { name := "sipPieces", fn := fun _ => fun
  | [d1, d2, d3, d4] => { results := [.lit (.bool true)], args := [d1, d2, d3, d4] }
  | _ => none }
def sipPiecesRow : OpenClaim := { program := "ytbikekjcbfhoaaa", sum := "97fde633738a21ec3f2bfa33548b49051f1b98f35960bd5533b1ae059dc7231c", func := "astragal/astragallaw34.SipPieces", spec := "sipPieces", unfollowed := true, recurses := true, apart := false }
def SipPiecesSaid : Prop := sipPiecesRow.holds Try.pinned (OpenSpec.ofChange sipPiecesSpec)

/-- ITS FALSE NEIGHBOUR: 'it returns false'. Refute it at one input. -/
def sipPiecesWrong : ChangeSpec := { name := "sipPieces", fn := fun _ => fun
  | [d1, d2, d3, d4] => { results := [.lit (.bool false)], args := [d1, d2, d3, d4] }
  | _ => none }
def SipPiecesWrongFalsely : Prop := sipPiecesRow.holds Try.pinned (OpenSpec.ofChange sipPiecesWrong)

/-- 'astragallaw34.SipLanes': WHATEVER THE INPUT: true; the input reads as it did. -/
def sipLanesSpec : ChangeSpec := { name := "sipLanes", fn := fun _ => fun
  | [d1, d2, d3, d4] => { results := [.lit (.bool true)], args := [d1, d2, d3, d4] }
  | _ => none }
def sipLanesRow : OpenClaim := { program := "ytbikekjcbfhoaaa", sum := "97fde633738a21ec3f2bfa33548b49051f1b98f35960bd5533b1ae059dc7231c", func := "astragal/astragallaw34.SipLanes", spec := "sipLanes", unfollowed := true, recurses := true, apart := false }
def SipLanesSaid : Prop := sipLanesRow.holds Try.pinned (OpenSpec.ofChange sipLanesSpec)

/-- ITS FALSE NEIGHBOUR: 'it returns false'. Refute it at one input. -/
def sipLanesWrong : ChangeSpec := { name := "sipLanes", fn := fun _ => fun
  | [d1, d2, d3, d4] => { results := [.lit (.bool false)], args := [d1, d2, d3, d4] }
  | _ => none }
def SipLanesWrongFalsely : Prop := sipLanesRow.holds Try.pinned (OpenSpec.ofChange sipLanesWrong)

/-- 'astragallaw34.SipSets': WHATEVER THE INPUT: true; the input reads as it did. -/
def sipSetsSpec : ChangeSpec := { name := "sipSets", fn := fun _ => fun
  | [d1, d2, d3, d4, d5] => { results := [.lit (.bool true)], args := [d1, d2, d3, d4, d5] }
  | _ => none }
def sipSetsRow : OpenClaim := { program := "ytbikekjcbfhoaaa", sum := "97fde633738a21ec3f2bfa33548b49051f1b98f35960bd5533b1ae059dc7231c", func := "astragal/astragallaw34.SipSets", spec := "sipSets", unfollowed := true, recurses := true, apart := false }
def SipSetsSaid : Prop := sipSetsRow.holds Try.pinned (OpenSpec.ofChange sipSetsSpec)

/-- ITS FALSE NEIGHBOUR: 'it returns false'. Refute it at one input. -/
def sipSetsWrong : ChangeSpec := { name := "sipSets", fn := fun _ => fun
  | [d1, d2, d3, d4, d5] => { results := [.lit (.bool false)], args := [d1, d2, d3, d4, d5] }
  | _ => none }
def SipSetsWrongFalsely : Prop := sipSetsRow.holds Try.pinned (OpenSpec.ofChange sipSetsWrong)

/- THE SECOND FORM. 'bulk': how many values and letters a reading holds, each counted each time it is reached (what is shared counts as often as it is met; a slice's spare places count too). A statement '..UptoSaid' is the law's where the arguments, and the package variables that the reading takes, are together of bulk at most 1048576: NARROWER than '..Said'. Prove '..Said' where nothing that the law and all that it calls make is longer than what came in: it says more and counts as full. Else prove '..UptoSaid'. A law counts once. -/
mutual
def uptoBulk {H : Type} : DataW H → Nat
  | .lit (.string bytes) => bytes.length + 1
  | .lit _ => 1
  | .nil => 1
  | .ptr d => uptoBulk d + 1
  | .slice elems spare => uptoBulkAll elems + uptoBulkAll spare + 1
  | .agg parts => uptoBulkAll parts + 1
  | .iface _ d => uptoBulk d + 1
  | .map entries => uptoBulkEntries entries + 1
  | .held _ => 1
def uptoBulkAll {H : Type} : List (DataW H) → Nat
  | [] => 0
  | d :: r => uptoBulk d + uptoBulkAll r
def uptoBulkEntries {H : Type} : List (Lit × DataW H) → Nat
  | [] => 0
  | x :: r => uptoBulkEntry x + uptoBulkEntries r
def uptoBulkEntry {H : Type} : Lit × DataW H → Nat
  | (.string bytes, d) => bytes.length + uptoBulk d + 1
  | (_, d) => uptoBulk d + 1
 end
def uptoSmall : (H : Type) → List (DataW H) → Bool := fun _ ds => decide (uptoBulkAll ds ≤ 1048576)
def OpenSpec.upto (s : _root_.Go.ChangeSpec) : _root_.Go.OpenSpec := { _root_.Go.OpenSpec.ofChange s with cond := some uptoSmall }

/-- 'astragallaw34.SipOne', WHERE WHAT IT READS IS OF BULK AT MOST 1048576: true; the input reads as it did. -/
def sipOneUptoRow : OpenClaim := { program := "ytbikekjcbfhoaaa", sum := "97fde633738a21ec3f2bfa33548b49051f1b98f35960bd5533b1ae059dc7231c", func := "astragal/astragallaw34.SipOne", spec := "sipOne", unfollowed := true, recurses := true, apart := false, narrowed := true }
def SipOneUptoSaid : Prop := sipOneUptoRow.holds Try.pinned (OpenSpec.upto sipOneSpec)

/-- 'astragallaw34.SipPieces', WHERE WHAT IT READS IS OF BULK AT MOST 1048576: true; the input reads as it did. -/
def sipPiecesUptoRow : OpenClaim := { program := "ytbikekjcbfhoaaa", sum := "97fde633738a21ec3f2bfa33548b49051f1b98f35960bd5533b1ae059dc7231c", func := "astragal/astragallaw34.SipPieces", spec := "sipPieces", unfollowed := true, recurses := true, apart := false, narrowed := true }
def SipPiecesUptoSaid : Prop := sipPiecesUptoRow.holds Try.pinned (OpenSpec.upto sipPiecesSpec)

/-- 'astragallaw34.SipLanes', WHERE WHAT IT READS IS OF BULK AT MOST 1048576: true; the input reads as it did. -/
def sipLanesUptoRow : OpenClaim := { program := "ytbikekjcbfhoaaa", sum := "97fde633738a21ec3f2bfa33548b49051f1b98f35960bd5533b1ae059dc7231c", func := "astragal/astragallaw34.SipLanes", spec := "sipLanes", unfollowed := true, recurses := true, apart := false, narrowed := true }
def SipLanesUptoSaid : Prop := sipLanesUptoRow.holds Try.pinned (OpenSpec.upto sipLanesSpec)

/-- 'astragallaw34.SipSets', WHERE WHAT IT READS IS OF BULK AT MOST 1048576: true; the input reads as it did. -/
def sipSetsUptoRow : OpenClaim := { program := "ytbikekjcbfhoaaa", sum := "97fde633738a21ec3f2bfa33548b49051f1b98f35960bd5533b1ae059dc7231c", func := "astragal/astragallaw34.SipSets", spec := "sipSets", unfollowed := true, recurses := true, apart := false, narrowed := true }
def SipSetsUptoSaid : Prop := sipSetsUptoRow.holds Try.pinned (OpenSpec.upto sipSetsSpec)

end Rows
end Go.Proofs.Ytbikekjcbfhoaaa
