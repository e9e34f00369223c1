/-
  No cell of these rows narrows 'for every input' (looked for: loops, veiled, ifaces, maps, wideKeys, modest, calm, conditions, laid).
  DERIVED. THE GIVEN ROWS OF THIS SEAT. 4 by the template 'for every input the law returns true; each argument reads behind the call as it read before'; 0 by the template 'total and deterministic' (their statements: YtnapogamcohfaaaTotals.lean).
  GIVEN WITH THE SEED: the statements are not yours to turn. If you find one false, say at which input.
  Laid BY PROGRAM, IN A SANDBOX (cutbox-rows.mjs): the forced cells as the released guide's own fill.sh prints them over the translation 7f1f79352e25bb69… (all of the seat's roots in one cut). By AI agents, Wed Nov 11 2026. No macro, syntax, notation, axiom, sorry.
-/
import Derived.Test.YtnapogamcohfaaaChecked
import GoSem.Claim
import GoSem.ClaimJoined
import GoSem.ClaimMapViews
import Derived.JoinedTies
import Derived.KernelRfl
namespace Go.Proofs.Ytnapogamcohfaaa
/- THE CELL 'sum', in the pinned program and in every row, IS THE sha256 OF THE DUMP (.gsa) THAT YtnapogamcohfaaaProg.lean LOADS. Nothing in Lean hashes anything: it is a label: what it is worth is what the hold of that sum in a sandbox is worth. -/
noncomputable def Try.pinned : Pinned := { name := "ytnapogamcohfaaa", sum := "7f1f79352e25bb69894c17273a0b472682917f8fdbb1bd9c3fed0062cb02667a", checked := Try.checked }
namespace Rows
def none {H : Type} : Left H := { results := [], args := [] }

/-- 'astragallaw30.Murmur86One': WHATEVER THE INPUT: true; the input reads as it did. -/
def murmur86OneSpec : ChangeSpec := { name := "murmur86One", fn := fun _ => fun
  | [d1, d2] => { results := [.lit (.bool true)], args := [d1, d2] }
  | _ => none }
def murmur86OneRow : OpenClaim := { program := "ytnapogamcohfaaa", sum := "7f1f79352e25bb69894c17273a0b472682917f8fdbb1bd9c3fed0062cb02667a", func := "astragal/astragallaw30.Murmur86One", spec := "murmur86One", unfollowed := true, recurses := true, apart := false }
def Murmur86OneSaid : Prop := murmur86OneRow.holds Try.pinned (OpenSpec.ofChange murmur86OneSpec)

/-- ITS FALSE NEIGHBOUR: 'it returns false'. Refute it at one input. -/
def murmur86OneWrong : ChangeSpec := { name := "murmur86One", fn := fun _ => fun
  | [d1, d2] => { results := [.lit (.bool false)], args := [d1, d2] }
  | _ => none }
def Murmur86OneWrongFalsely : Prop := murmur86OneRow.holds Try.pinned (OpenSpec.ofChange murmur86OneWrong)

/-- 'astragallaw30.Murmur86Pieces': WHATEVER THE INPUT: true; the input reads as it did. -/
def murmur86PiecesSpec : ChangeSpec := { name := "murmur86Pieces", fn := fun _ => fun
  | [d1, d2, d3] => { results := [.lit (.bool true)], args := [d1, d2, d3] }
  | _ => none }
def murmur86PiecesRow : OpenClaim := { program := "ytnapogamcohfaaa", sum := "7f1f79352e25bb69894c17273a0b472682917f8fdbb1bd9c3fed0062cb02667a", func := "astragal/astragallaw30.Murmur86Pieces", spec := "murmur86Pieces", unfollowed := true, recurses := true, apart := false }
def Murmur86PiecesSaid : Prop := murmur86PiecesRow.holds Try.pinned (OpenSpec.ofChange murmur86PiecesSpec)

/-- ITS FALSE NEIGHBOUR: 'it returns false'. Refute it at one input. -/
def murmur86PiecesWrong : ChangeSpec := { name := "murmur86Pieces", fn := fun _ => fun
  | [d1, d2, d3] => { results := [.lit (.bool false)], args := [d1, d2, d3] }
  | _ => none }
def Murmur86PiecesWrongFalsely : Prop := murmur86PiecesRow.holds Try.pinned (OpenSpec.ofChange murmur86PiecesWrong)

/-- 'astragallaw30.Murmur86Lanes': WHATEVER THE INPUT: true; the input reads as it did. -/
def murmur86LanesSpec : ChangeSpec := { name := "murmur86Lanes", fn := fun _ => fun
  | [d1, d2, d3] => { results := [.lit (.bool true)], args := [d1, d2, d3] }
  | _ => none }
def murmur86LanesRow : OpenClaim := { program := "ytnapogamcohfaaa", sum := "7f1f79352e25bb69894c17273a0b472682917f8fdbb1bd9c3fed0062cb02667a", func := "astragal/astragallaw30.Murmur86Lanes", spec := "murmur86Lanes", unfollowed := true, recurses := true, apart := false }
def Murmur86LanesSaid : Prop := murmur86LanesRow.holds Try.pinned (OpenSpec.ofChange murmur86LanesSpec)

/-- ITS FALSE NEIGHBOUR: 'it returns false'. Refute it at one input. -/
def murmur86LanesWrong : ChangeSpec := { name := "murmur86Lanes", fn := fun _ => fun
  | [d1, d2, d3] => { results := [.lit (.bool false)], args := [d1, d2, d3] }
  | _ => none }
def Murmur86LanesWrongFalsely : Prop := murmur86LanesRow.holds Try.pinned (OpenSpec.ofChange murmur86LanesWrong)

/-- 'astragallaw30.Murmur86Sets': WHATEVER THE INPUT: true; the input reads as it did. -/
def murmur86SetsSpec : ChangeSpec := { name := "murmur86Sets", fn := fun _ => fun
  | [d1, d2, d3, d4] => { results := [.lit (.bool true)], args := [d1, d2, d3, d4] }
  | _ => none }
def murmur86SetsRow : OpenClaim := { program := "ytnapogamcohfaaa", sum := "7f1f79352e25bb69894c17273a0b472682917f8fdbb1bd9c3fed0062cb02667a", func := "astragal/astragallaw30.Murmur86Sets", spec := "murmur86Sets", unfollowed := true, recurses := true, apart := false }
def Murmur86SetsSaid : Prop := murmur86SetsRow.holds Try.pinned (OpenSpec.ofChange murmur86SetsSpec)

/-- ITS FALSE NEIGHBOUR: 'it returns false'. Refute it at one input. -/
def murmur86SetsWrong : ChangeSpec := { name := "murmur86Sets", fn := fun _ => fun
  | [d1, d2, d3, d4] => { results := [.lit (.bool false)], args := [d1, d2, d3, d4] }
  | _ => none }
def Murmur86SetsWrongFalsely : Prop := murmur86SetsRow.holds Try.pinned (OpenSpec.ofChange murmur86SetsWrong)

/- THE SECOND FORM. 'bulk': how many values and letters a reading holds, each counted each time it is reached (what is shared counts as often as it is met; a slice's spare places count too). A statement '..UptoSaid' is the law's where the arguments, and the package variables that the reading takes, are together of bulk at most 1048576: NARROWER than '..Said'. Prove '..Said' where nothing that the law and all that it calls make is longer than what came in: it says more and counts as full. Else prove '..UptoSaid'. A law counts once. -/
mutual
def uptoBulk {H : Type} : DataW H → Nat
  | .lit (.string bytes) => bytes.length + 1
  | .lit _ => 1
  | .nil => 1
  | .ptr d => uptoBulk d + 1
  | .slice elems spare => uptoBulkAll elems + uptoBulkAll spare + 1
  | .agg parts => uptoBulkAll parts + 1
  | .iface _ d => uptoBulk d + 1
  | .map entries => uptoBulkEntries entries + 1
  | .held _ => 1
def uptoBulkAll {H : Type} : List (DataW H) → Nat
  | [] => 0
  | d :: r => uptoBulk d + uptoBulkAll r
def uptoBulkEntries {H : Type} : List (Lit × DataW H) → Nat
  | [] => 0
  | x :: r => uptoBulkEntry x + uptoBulkEntries r
def uptoBulkEntry {H : Type} : Lit × DataW H → Nat
  | (.string bytes, d) => bytes.length + uptoBulk d + 1
  | (_, d) => uptoBulk d + 1
 end
def uptoSmall : (H : Type) → List (DataW H) → Bool := fun _ ds => decide (uptoBulkAll ds ≤ 1048576)
def OpenSpec.upto (s : _root_.Go.ChangeSpec) : _root_.Go.OpenSpec := { _root_.Go.OpenSpec.ofChange s with cond := some uptoSmall }

/-- 'astragallaw30.Murmur86One', WHERE WHAT IT READS IS OF BULK AT MOST 1048576: true; the input reads as it did. -/
def murmur86OneUptoRow : OpenClaim := { program := "ytnapogamcohfaaa", sum := "7f1f79352e25bb69894c17273a0b472682917f8fdbb1bd9c3fed0062cb02667a", func := "astragal/astragallaw30.Murmur86One", spec := "murmur86One", unfollowed := true, recurses := true, apart := false, narrowed := true }
def Murmur86OneUptoSaid : Prop := murmur86OneUptoRow.holds Try.pinned (OpenSpec.upto murmur86OneSpec)

/-- 'astragallaw30.Murmur86Pieces', WHERE WHAT IT READS IS OF BULK AT MOST 1048576: true; the input reads as it did. -/
def murmur86PiecesUptoRow : OpenClaim := { program := "ytnapogamcohfaaa", sum := "7f1f79352e25bb69894c17273a0b472682917f8fdbb1bd9c3fed0062cb02667a", func := "astragal/astragallaw30.Murmur86Pieces", spec := "murmur86Pieces", unfollowed := true, recurses := true, apart := false, narrowed := true }
def Murmur86PiecesUptoSaid : Prop := murmur86PiecesUptoRow.holds Try.pinned (OpenSpec.upto murmur86PiecesSpec)

/-- 'astragallaw30.Murmur86Lanes', WHERE WHAT IT READS IS OF BULK AT MOST 1048576: true; the input reads as it did. -/
def murmur86LanesUptoRow : OpenClaim := { program := "ytnapogamcohfaaa", sum := "7f1f79352e25bb69894c17273a0b472682917f8fdbb1bd9c3fed0062cb02667a", func := "astragal/astragallaw30.Murmur86Lanes", spec := "murmur86Lanes", unfollowed := true, recurses := true, apart := false, narrowed := true }
def Murmur86LanesUptoSaid : Prop := murmur86LanesUptoRow.holds Try.pinned (OpenSpec.upto murmur86LanesSpec)

/-- 'astragallaw30.Murmur86Sets', WHERE WHAT IT READS IS OF BULK AT MOST 1048576: true; the input reads as it did. -/
def murmur86SetsUptoRow : OpenClaim := { program := "ytnapogamcohfaaa", sum := "7f1f79352e25bb69894c17273a0b472682917f8fdbb1bd9c3fed0062cb02667a", func := "astragal/astragallaw30.Murmur86Sets", spec := "murmur86Sets", unfollowed := true, recurses := true, apart := false, narrowed := true }
def Murmur86SetsUptoSaid : Prop := murmur86SetsUptoRow.holds Try.pinned (OpenSpec.upto murmur86SetsSpec)

end Rows
end Go.Proofs.Ytnapogamcohfaaa
