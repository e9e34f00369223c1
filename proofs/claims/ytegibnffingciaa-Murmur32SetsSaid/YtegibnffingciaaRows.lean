/-
  No cell of these rows narrows 'for every input' (looked for: loops, veiled, ifaces, maps, wideKeys, modest, calm, conditions, laid).
  DERIVED. THE GIVEN ROWS OF THIS SEAT. 15 by the template 'for every input the law returns true; each argument reads behind the call as it read before'; 0 by the template 'total and deterministic' (their statements: YtegibnffingciaaTotals.lean).
  GIVEN WITH THE SEED: the statements are not yours to turn. If you find one false, say at which input.
  Laid BY PROGRAM, IN A SANDBOX (cutbox-rows.mjs): the forced cells as the released guide's own fill.sh prints them over the translation 362a948ab395f818… (all of the seat's roots in one cut). By AI agents, Wed Nov 11 2026. No macro, syntax, notation, axiom, sorry.
-/
import Derived.Test.YtegibnffingciaaChecked
import GoSem.Claim
import GoSem.ClaimJoined
import GoSem.ClaimMapViews
import Derived.JoinedTies
import Derived.KernelRfl
namespace Go.Proofs.Ytegibnffingciaa
/- THE CELL 'sum', in the pinned program and in every row, IS THE sha256 OF THE DUMP (.gsa) THAT YtegibnffingciaaProg.lean LOADS. Nothing in Lean hashes anything: it is a label: what it is worth is what the hold of that sum in a sandbox is worth. -/
noncomputable def Try.pinned : Pinned := { name := "ytegibnffingciaa", sum := "362a948ab395f818061c6f3ec80fe2dff1a7259c6ab9fdcc1b8f7312a5729ef8", checked := Try.checked }
namespace Rows
def none {H : Type} : Left H := { results := [], args := [] }

/-- 'astragallaw28.BlockPieces': WHATEVER THE INPUT: true; the input reads as it did. -/
def blockPiecesSpec : ChangeSpec := { name := "blockPieces", fn := fun _ => fun
  | [d1, d2, d3, d4] => { results := [.lit (.bool true)], args := [d1, d2, d3, d4] }
  | _ => none }
def blockPiecesRow : OpenClaim := { program := "ytegibnffingciaa", sum := "362a948ab395f818061c6f3ec80fe2dff1a7259c6ab9fdcc1b8f7312a5729ef8", func := "astragal/astragallaw28.BlockPieces", spec := "blockPieces", unfollowed := true, recurses := true, apart := false }
def BlockPiecesSaid : Prop := blockPiecesRow.holds Try.pinned (OpenSpec.ofChange blockPiecesSpec)

/-- ITS FALSE NEIGHBOUR: 'it returns false'. Refute it at one input. -/
def blockPiecesWrong : ChangeSpec := { name := "blockPieces", fn := fun _ => fun
  | [d1, d2, d3, d4] => { results := [.lit (.bool false)], args := [d1, d2, d3, d4] }
  | _ => none }
def BlockPiecesWrongFalsely : Prop := blockPiecesRow.holds Try.pinned (OpenSpec.ofChange blockPiecesWrong)

/-- 'astragallaw28.BlockCopies': WHATEVER THE INPUT: true; the input reads as it did. -/
def blockCopiesSpec : ChangeSpec := { name := "blockCopies", fn := fun _ => fun
  | [d1, d2, d3, d4, d5] => { results := [.lit (.bool true)], args := [d1, d2, d3, d4, d5] }
  | _ => none }
def blockCopiesRow : OpenClaim := { program := "ytegibnffingciaa", sum := "362a948ab395f818061c6f3ec80fe2dff1a7259c6ab9fdcc1b8f7312a5729ef8", func := "astragal/astragallaw28.BlockCopies", spec := "blockCopies", unfollowed := true, recurses := true, apart := false }
def BlockCopiesSaid : Prop := blockCopiesRow.holds Try.pinned (OpenSpec.ofChange blockCopiesSpec)

/-- ITS FALSE NEIGHBOUR: 'it returns false'. Refute it at one input. -/
def blockCopiesWrong : ChangeSpec := { name := "blockCopies", fn := fun _ => fun
  | [d1, d2, d3, d4, d5] => { results := [.lit (.bool false)], args := [d1, d2, d3, d4, d5] }
  | _ => none }
def BlockCopiesWrongFalsely : Prop := blockCopiesRow.holds Try.pinned (OpenSpec.ofChange blockCopiesWrong)

/-- 'astragallaw28.BlockSets': WHATEVER THE INPUT: true; the input reads as it did. -/
def blockSetsSpec : ChangeSpec := { name := "blockSets", fn := fun _ => fun
  | [d1, d2, d3, d4, d5] => { results := [.lit (.bool true)], args := [d1, d2, d3, d4, d5] }
  | _ => none }
def blockSetsRow : OpenClaim := { program := "ytegibnffingciaa", sum := "362a948ab395f818061c6f3ec80fe2dff1a7259c6ab9fdcc1b8f7312a5729ef8", func := "astragal/astragallaw28.BlockSets", spec := "blockSets", unfollowed := true, recurses := true, apart := false }
def BlockSetsSaid : Prop := blockSetsRow.holds Try.pinned (OpenSpec.ofChange blockSetsSpec)

/-- ITS FALSE NEIGHBOUR: 'it returns false'. Refute it at one input. -/
def blockSetsWrong : ChangeSpec := { name := "blockSets", fn := fun _ => fun
  | [d1, d2, d3, d4, d5] => { results := [.lit (.bool false)], args := [d1, d2, d3, d4, d5] }
  | _ => none }
def BlockSetsWrongFalsely : Prop := blockSetsRow.holds Try.pinned (OpenSpec.ofChange blockSetsWrong)

/-- 'astragallaw29.Murmur32One': WHATEVER THE INPUT: true; the input reads as it did. -/
def murmur32OneSpec : ChangeSpec := { name := "murmur32One", fn := fun _ => fun
  | [d1, d2] => { results := [.lit (.bool true)], args := [d1, d2] }
  | _ => none }
def murmur32OneRow : OpenClaim := { program := "ytegibnffingciaa", sum := "362a948ab395f818061c6f3ec80fe2dff1a7259c6ab9fdcc1b8f7312a5729ef8", func := "astragal/astragallaw29.Murmur32One", spec := "murmur32One", unfollowed := true, recurses := true, apart := false }
def Murmur32OneSaid : Prop := murmur32OneRow.holds Try.pinned (OpenSpec.ofChange murmur32OneSpec)

/-- ITS FALSE NEIGHBOUR: 'it returns false'. Refute it at one input. -/
def murmur32OneWrong : ChangeSpec := { name := "murmur32One", fn := fun _ => fun
  | [d1, d2] => { results := [.lit (.bool false)], args := [d1, d2] }
  | _ => none }
def Murmur32OneWrongFalsely : Prop := murmur32OneRow.holds Try.pinned (OpenSpec.ofChange murmur32OneWrong)

/-- 'astragallaw29.Murmur32Pieces': WHATEVER THE INPUT: true; the input reads as it did. -/
def murmur32PiecesSpec : ChangeSpec := { name := "murmur32Pieces", fn := fun _ => fun
  | [d1, d2, d3] => { results := [.lit (.bool true)], args := [d1, d2, d3] }
  | _ => none }
def murmur32PiecesRow : OpenClaim := { program := "ytegibnffingciaa", sum := "362a948ab395f818061c6f3ec80fe2dff1a7259c6ab9fdcc1b8f7312a5729ef8", func := "astragal/astragallaw29.Murmur32Pieces", spec := "murmur32Pieces", unfollowed := true, recurses := true, apart := false }
def Murmur32PiecesSaid : Prop := murmur32PiecesRow.holds Try.pinned (OpenSpec.ofChange murmur32PiecesSpec)

/-- ITS FALSE NEIGHBOUR: 'it returns false'. Refute it at one input. -/
def murmur32PiecesWrong : ChangeSpec := { name := "murmur32Pieces", fn := fun _ => fun
  | [d1, d2, d3] => { results := [.lit (.bool false)], args := [d1, d2, d3] }
  | _ => none }
def Murmur32PiecesWrongFalsely : Prop := murmur32PiecesRow.holds Try.pinned (OpenSpec.ofChange murmur32PiecesWrong)

/-- 'astragallaw29.Murmur32Lanes': WHATEVER THE INPUT: true; the input reads as it did. -/
def murmur32LanesSpec : ChangeSpec := { name := "murmur32Lanes", fn := fun _ => fun
  | [d1, d2, d3] => { results := [.lit (.bool true)], args := [d1, d2, d3] }
  | _ => none }
def murmur32LanesRow : OpenClaim := { program := "ytegibnffingciaa", sum := "362a948ab395f818061c6f3ec80fe2dff1a7259c6ab9fdcc1b8f7312a5729ef8", func := "astragal/astragallaw29.Murmur32Lanes", spec := "murmur32Lanes", unfollowed := true, recurses := true, apart := false }
def Murmur32LanesSaid : Prop := murmur32LanesRow.holds Try.pinned (OpenSpec.ofChange murmur32LanesSpec)

/-- ITS FALSE NEIGHBOUR: 'it returns false'. Refute it at one input. -/
def murmur32LanesWrong : ChangeSpec := { name := "murmur32Lanes", fn := fun _ => fun
  | [d1, d2, d3] => { results := [.lit (.bool false)], args := [d1, d2, d3] }
  | _ => none }
def Murmur32LanesWrongFalsely : Prop := murmur32LanesRow.holds Try.pinned (OpenSpec.ofChange murmur32LanesWrong)

/-- 'astragallaw29.Murmur32Sets': WHATEVER THE INPUT: true; the input reads as it did. -/
def murmur32SetsSpec : ChangeSpec := { name := "murmur32Sets", fn := fun _ => fun
  | [d1, d2, d3, d4] => { results := [.lit (.bool true)], args := [d1, d2, d3, d4] }
  | _ => none }
def murmur32SetsRow : OpenClaim := { program := "ytegibnffingciaa", sum := "362a948ab395f818061c6f3ec80fe2dff1a7259c6ab9fdcc1b8f7312a5729ef8", func := "astragal/astragallaw29.Murmur32Sets", spec := "murmur32Sets", unfollowed := true, recurses := true, apart := false }
def Murmur32SetsSaid : Prop := murmur32SetsRow.holds Try.pinned (OpenSpec.ofChange murmur32SetsSpec)

/-- ITS FALSE NEIGHBOUR: 'it returns false'. Refute it at one input. -/
def murmur32SetsWrong : ChangeSpec := { name := "murmur32Sets", fn := fun _ => fun
  | [d1, d2, d3, d4] => { results := [.lit (.bool false)], args := [d1, d2, d3, d4] }
  | _ => none }
def Murmur32SetsWrongFalsely : Prop := murmur32SetsRow.holds Try.pinned (OpenSpec.ofChange murmur32SetsWrong)

/-- 'astragallaw30.Murmur86One': WHATEVER THE INPUT: true; the input reads as it did. -/
def murmur86OneSpec : ChangeSpec := { name := "murmur86One", fn := fun _ => fun
  | [d1, d2] => { results := [.lit (.bool true)], args := [d1, d2] }
  | _ => none }
def murmur86OneRow : OpenClaim := { program := "ytegibnffingciaa", sum := "362a948ab395f818061c6f3ec80fe2dff1a7259c6ab9fdcc1b8f7312a5729ef8", func := "astragal/astragallaw30.Murmur86One", spec := "murmur86One", unfollowed := true, recurses := true, apart := false }
def Murmur86OneSaid : Prop := murmur86OneRow.holds Try.pinned (OpenSpec.ofChange murmur86OneSpec)

/-- ITS FALSE NEIGHBOUR: 'it returns false'. Refute it at one input. -/
def murmur86OneWrong : ChangeSpec := { name := "murmur86One", fn := fun _ => fun
  | [d1, d2] => { results := [.lit (.bool false)], args := [d1, d2] }
  | _ => none }
def Murmur86OneWrongFalsely : Prop := murmur86OneRow.holds Try.pinned (OpenSpec.ofChange murmur86OneWrong)

/-- 'astragallaw30.Murmur86Pieces': WHATEVER THE INPUT: true; the input reads as it did. -/
def murmur86PiecesSpec : ChangeSpec := { name := "murmur86Pieces", fn := fun _ => fun
  | [d1, d2, d3] => { results := [.lit (.bool true)], args := [d1, d2, d3] }
  | _ => none }
def murmur86PiecesRow : OpenClaim := { program := "ytegibnffingciaa", sum := "362a948ab395f818061c6f3ec80fe2dff1a7259c6ab9fdcc1b8f7312a5729ef8", func := "astragal/astragallaw30.Murmur86Pieces", spec := "murmur86Pieces", unfollowed := true, recurses := true, apart := false }
def Murmur86PiecesSaid : Prop := murmur86PiecesRow.holds Try.pinned (OpenSpec.ofChange murmur86PiecesSpec)

/-- ITS FALSE NEIGHBOUR: 'it returns false'. Refute it at one input. -/
def murmur86PiecesWrong : ChangeSpec := { name := "murmur86Pieces", fn := fun _ => fun
  | [d1, d2, d3] => { results := [.lit (.bool false)], args := [d1, d2, d3] }
  | _ => none }
def Murmur86PiecesWrongFalsely : Prop := murmur86PiecesRow.holds Try.pinned (OpenSpec.ofChange murmur86PiecesWrong)

/-- 'astragallaw30.Murmur86Lanes': WHATEVER THE INPUT: true; the input reads as it did. -/
def murmur86LanesSpec : ChangeSpec := { name := "murmur86Lanes", fn := fun _ => fun
  | [d1, d2, d3] => { results := [.lit (.bool true)], args := [d1, d2, d3] }
  | _ => none }
def murmur86LanesRow : OpenClaim := { program := "ytegibnffingciaa", sum := "362a948ab395f818061c6f3ec80fe2dff1a7259c6ab9fdcc1b8f7312a5729ef8", func := "astragal/astragallaw30.Murmur86Lanes", spec := "murmur86Lanes", unfollowed := true, recurses := true, apart := false }
def Murmur86LanesSaid : Prop := murmur86LanesRow.holds Try.pinned (OpenSpec.ofChange murmur86LanesSpec)

/-- ITS FALSE NEIGHBOUR: 'it returns false'. Refute it at one input. -/
def murmur86LanesWrong : ChangeSpec := { name := "murmur86Lanes", fn := fun _ => fun
  | [d1, d2, d3] => { results := [.lit (.bool false)], args := [d1, d2, d3] }
  | _ => none }
def Murmur86LanesWrongFalsely : Prop := murmur86LanesRow.holds Try.pinned (OpenSpec.ofChange murmur86LanesWrong)

/-- 'astragallaw30.Murmur86Sets': WHATEVER THE INPUT: true; the input reads as it did. -/
def murmur86SetsSpec : ChangeSpec := { name := "murmur86Sets", fn := fun _ => fun
  | [d1, d2, d3, d4] => { results := [.lit (.bool true)], args := [d1, d2, d3, d4] }
  | _ => none }
def murmur86SetsRow : OpenClaim := { program := "ytegibnffingciaa", sum := "362a948ab395f818061c6f3ec80fe2dff1a7259c6ab9fdcc1b8f7312a5729ef8", func := "astragal/astragallaw30.Murmur86Sets", spec := "murmur86Sets", unfollowed := true, recurses := true, apart := false }
def Murmur86SetsSaid : Prop := murmur86SetsRow.holds Try.pinned (OpenSpec.ofChange murmur86SetsSpec)

/-- ITS FALSE NEIGHBOUR: 'it returns false'. Refute it at one input. -/
def murmur86SetsWrong : ChangeSpec := { name := "murmur86Sets", fn := fun _ => fun
  | [d1, d2, d3, d4] => { results := [.lit (.bool false)], args := [d1, d2, d3, d4] }
  | _ => none }
def Murmur86SetsWrongFalsely : Prop := murmur86SetsRow.holds Try.pinned (OpenSpec.ofChange murmur86SetsWrong)

/-- 'astragallaw31.Murmur64One': WHATEVER THE INPUT: true; the input reads as it did. -/
def murmur64OneSpec : ChangeSpec := { name := "murmur64One", fn := fun _ => fun
  | [d1, d2] => { results := [.lit (.bool true)], args := [d1, d2] }
  | _ => none }
def murmur64OneRow : OpenClaim := { program := "ytegibnffingciaa", sum := "362a948ab395f818061c6f3ec80fe2dff1a7259c6ab9fdcc1b8f7312a5729ef8", func := "astragal/astragallaw31.Murmur64One", spec := "murmur64One", unfollowed := true, recurses := true, apart := false }
def Murmur64OneSaid : Prop := murmur64OneRow.holds Try.pinned (OpenSpec.ofChange murmur64OneSpec)

/-- ITS FALSE NEIGHBOUR: 'it returns false'. Refute it at one input. -/
def murmur64OneWrong : ChangeSpec := { name := "murmur64One", fn := fun _ => fun
  | [d1, d2] => { results := [.lit (.bool false)], args := [d1, d2] }
  | _ => none }
def Murmur64OneWrongFalsely : Prop := murmur64OneRow.holds Try.pinned (OpenSpec.ofChange murmur64OneWrong)

/-- 'astragallaw31.Murmur64Pieces': WHATEVER THE INPUT: true; the input reads as it did. -/
def murmur64PiecesSpec : ChangeSpec := { name := "murmur64Pieces", fn := fun _ => fun
  | [d1, d2, d3] => { results := [.lit (.bool true)], args := [d1, d2, d3] }
  | _ => none }
def murmur64PiecesRow : OpenClaim := { program := "ytegibnffingciaa", sum := "362a948ab395f818061c6f3ec80fe2dff1a7259c6ab9fdcc1b8f7312a5729ef8", func := "astragal/astragallaw31.Murmur64Pieces", spec := "murmur64Pieces", unfollowed := true, recurses := true, apart := false }
def Murmur64PiecesSaid : Prop := murmur64PiecesRow.holds Try.pinned (OpenSpec.ofChange murmur64PiecesSpec)

/-- ITS FALSE NEIGHBOUR: 'it returns false'. Refute it at one input. -/
def murmur64PiecesWrong : ChangeSpec := { name := "murmur64Pieces", fn := fun _ => fun
  | [d1, d2, d3] => { results := [.lit (.bool false)], args := [d1, d2, d3] }
  | _ => none }
def Murmur64PiecesWrongFalsely : Prop := murmur64PiecesRow.holds Try.pinned (OpenSpec.ofChange murmur64PiecesWrong)

/-- 'astragallaw31.Murmur64Lanes': WHATEVER THE INPUT: true; the input reads as it did. -/
def murmur64LanesSpec : ChangeSpec := { name := "murmur64Lanes", fn := fun _ => fun
  | [d1, d2, d3] => { results := [.lit (.bool true)], args := [d1, d2, d3] }
  | _ => none }
def murmur64LanesRow : OpenClaim := { program := "ytegibnffingciaa", sum := "362a948ab395f818061c6f3ec80fe2dff1a7259c6ab9fdcc1b8f7312a5729ef8", func := "astragal/astragallaw31.Murmur64Lanes", spec := "murmur64Lanes", unfollowed := true, recurses := true, apart := false }
def Murmur64LanesSaid : Prop := murmur64LanesRow.holds Try.pinned (OpenSpec.ofChange murmur64LanesSpec)

/-- ITS FALSE NEIGHBOUR: 'it returns false'. Refute it at one input. -/
def murmur64LanesWrong : ChangeSpec := { name := "murmur64Lanes", fn := fun _ => fun
  | [d1, d2, d3] => { results := [.lit (.bool false)], args := [d1, d2, d3] }
  | _ => none }
def Murmur64LanesWrongFalsely : Prop := murmur64LanesRow.holds Try.pinned (OpenSpec.ofChange murmur64LanesWrong)

/-- 'astragallaw31.Murmur64Sets': WHATEVER THE INPUT: true; the input reads as it did. -/
def murmur64SetsSpec : ChangeSpec := { name := "murmur64Sets", fn := fun _ => fun
  | [d1, d2, d3, d4] => { results := [.lit (.bool true)], args := [d1, d2, d3, d4] }
  | _ => none }
def murmur64SetsRow : OpenClaim := { program := "ytegibnffingciaa", sum := "362a948ab395f818061c6f3ec80fe2dff1a7259c6ab9fdcc1b8f7312a5729ef8", func := "astragal/astragallaw31.Murmur64Sets", spec := "murmur64Sets", unfollowed := true, recurses := true, apart := false }
def Murmur64SetsSaid : Prop := murmur64SetsRow.holds Try.pinned (OpenSpec.ofChange murmur64SetsSpec)

/-- ITS FALSE NEIGHBOUR: 'it returns false'. Refute it at one input. -/
def murmur64SetsWrong : ChangeSpec := { name := "murmur64Sets", fn := fun _ => fun
  | [d1, d2, d3, d4] => { results := [.lit (.bool false)], args := [d1, d2, d3, d4] }
  | _ => none }
def Murmur64SetsWrongFalsely : Prop := murmur64SetsRow.holds Try.pinned (OpenSpec.ofChange murmur64SetsWrong)

/- THE SECOND FORM. 'bulk': how many values and letters a reading holds, each counted each time it is reached (what is shared counts as often as it is met; a slice's spare places count too). A statement '..UptoSaid' is the law's where the arguments, and the package variables that the reading takes, are together of bulk at most 1048576: NARROWER than '..Said'. Prove '..Said' where nothing that the law and all that it calls make is longer than what came in: it says more and counts as full. Else prove '..UptoSaid'. A law counts once. -/
mutual
def uptoBulk {H : Type} : DataW H → Nat
  | .lit (.string bytes) => bytes.length + 1
  | .lit _ => 1
  | .nil => 1
  | .ptr d => uptoBulk d + 1
  | .slice elems spare => uptoBulkAll elems + uptoBulkAll spare + 1
  | .agg parts => uptoBulkAll parts + 1
  | .iface _ d => uptoBulk d + 1
  | .map entries => uptoBulkEntries entries + 1
  | .held _ => 1
def uptoBulkAll {H : Type} : List (DataW H) → Nat
  | [] => 0
  | d :: r => uptoBulk d + uptoBulkAll r
def uptoBulkEntries {H : Type} : List (Lit × DataW H) → Nat
  | [] => 0
  | x :: r => uptoBulkEntry x + uptoBulkEntries r
def uptoBulkEntry {H : Type} : Lit × DataW H → Nat
  | (.string bytes, d) => bytes.length + uptoBulk d + 1
  | (_, d) => uptoBulk d + 1
 end
def uptoSmall : (H : Type) → List (DataW H) → Bool := fun _ ds => decide (uptoBulkAll ds ≤ 1048576)
def OpenSpec.upto (s : _root_.Go.ChangeSpec) : _root_.Go.OpenSpec := { _root_.Go.OpenSpec.ofChange s with cond := some uptoSmall }

/-- 'astragallaw28.BlockPieces', WHERE WHAT IT READS IS OF BULK AT MOST 1048576: true; the input reads as it did. -/
def blockPiecesUptoRow : OpenClaim := { program := "ytegibnffingciaa", sum := "362a948ab395f818061c6f3ec80fe2dff1a7259c6ab9fdcc1b8f7312a5729ef8", func := "astragal/astragallaw28.BlockPieces", spec := "blockPieces", unfollowed := true, recurses := true, apart := false, narrowed := true }
def BlockPiecesUptoSaid : Prop := blockPiecesUptoRow.holds Try.pinned (OpenSpec.upto blockPiecesSpec)

/-- 'astragallaw28.BlockCopies', WHERE WHAT IT READS IS OF BULK AT MOST 1048576: true; the input reads as it did. -/
def blockCopiesUptoRow : OpenClaim := { program := "ytegibnffingciaa", sum := "362a948ab395f818061c6f3ec80fe2dff1a7259c6ab9fdcc1b8f7312a5729ef8", func := "astragal/astragallaw28.BlockCopies", spec := "blockCopies", unfollowed := true, recurses := true, apart := false, narrowed := true }
def BlockCopiesUptoSaid : Prop := blockCopiesUptoRow.holds Try.pinned (OpenSpec.upto blockCopiesSpec)

/-- 'astragallaw28.BlockSets', WHERE WHAT IT READS IS OF BULK AT MOST 1048576: true; the input reads as it did. -/
def blockSetsUptoRow : OpenClaim := { program := "ytegibnffingciaa", sum := "362a948ab395f818061c6f3ec80fe2dff1a7259c6ab9fdcc1b8f7312a5729ef8", func := "astragal/astragallaw28.BlockSets", spec := "blockSets", unfollowed := true, recurses := true, apart := false, narrowed := true }
def BlockSetsUptoSaid : Prop := blockSetsUptoRow.holds Try.pinned (OpenSpec.upto blockSetsSpec)

/-- 'astragallaw29.Murmur32One', WHERE WHAT IT READS IS OF BULK AT MOST 1048576: true; the input reads as it did. -/
def murmur32OneUptoRow : OpenClaim := { program := "ytegibnffingciaa", sum := "362a948ab395f818061c6f3ec80fe2dff1a7259c6ab9fdcc1b8f7312a5729ef8", func := "astragal/astragallaw29.Murmur32One", spec := "murmur32One", unfollowed := true, recurses := true, apart := false, narrowed := true }
def Murmur32OneUptoSaid : Prop := murmur32OneUptoRow.holds Try.pinned (OpenSpec.upto murmur32OneSpec)

/-- 'astragallaw29.Murmur32Pieces', WHERE WHAT IT READS IS OF BULK AT MOST 1048576: true; the input reads as it did. -/
def murmur32PiecesUptoRow : OpenClaim := { program := "ytegibnffingciaa", sum := "362a948ab395f818061c6f3ec80fe2dff1a7259c6ab9fdcc1b8f7312a5729ef8", func := "astragal/astragallaw29.Murmur32Pieces", spec := "murmur32Pieces", unfollowed := true, recurses := true, apart := false, narrowed := true }
def Murmur32PiecesUptoSaid : Prop := murmur32PiecesUptoRow.holds Try.pinned (OpenSpec.upto murmur32PiecesSpec)

/-- 'astragallaw29.Murmur32Lanes', WHERE WHAT IT READS IS OF BULK AT MOST 1048576: true; the input reads as it did. -/
def murmur32LanesUptoRow : OpenClaim := { program := "ytegibnffingciaa", sum := "362a948ab395f818061c6f3ec80fe2dff1a7259c6ab9fdcc1b8f7312a5729ef8", func := "astragal/astragallaw29.Murmur32Lanes", spec := "murmur32Lanes", unfollowed := true, recurses := true, apart := false, narrowed := true }
def Murmur32LanesUptoSaid : Prop := murmur32LanesUptoRow.holds Try.pinned (OpenSpec.upto murmur32LanesSpec)

/-- 'astragallaw29.Murmur32Sets', WHERE WHAT IT READS IS OF BULK AT MOST 1048576: true; the input reads as it did. -/
def murmur32SetsUptoRow : OpenClaim := { program := "ytegibnffingciaa", sum := "362a948ab395f818061c6f3ec80fe2dff1a7259c6ab9fdcc1b8f7312a5729ef8", func := "astragal/astragallaw29.Murmur32Sets", spec := "murmur32Sets", unfollowed := true, recurses := true, apart := false, narrowed := true }
def Murmur32SetsUptoSaid : Prop := murmur32SetsUptoRow.holds Try.pinned (OpenSpec.upto murmur32SetsSpec)

/-- 'astragallaw30.Murmur86One', WHERE WHAT IT READS IS OF BULK AT MOST 1048576: true; the input reads as it did. -/
def murmur86OneUptoRow : OpenClaim := { program := "ytegibnffingciaa", sum := "362a948ab395f818061c6f3ec80fe2dff1a7259c6ab9fdcc1b8f7312a5729ef8", func := "astragal/astragallaw30.Murmur86One", spec := "murmur86One", unfollowed := true, recurses := true, apart := false, narrowed := true }
def Murmur86OneUptoSaid : Prop := murmur86OneUptoRow.holds Try.pinned (OpenSpec.upto murmur86OneSpec)

/-- 'astragallaw30.Murmur86Pieces', WHERE WHAT IT READS IS OF BULK AT MOST 1048576: true; the input reads as it did. -/
def murmur86PiecesUptoRow : OpenClaim := { program := "ytegibnffingciaa", sum := "362a948ab395f818061c6f3ec80fe2dff1a7259c6ab9fdcc1b8f7312a5729ef8", func := "astragal/astragallaw30.Murmur86Pieces", spec := "murmur86Pieces", unfollowed := true, recurses := true, apart := false, narrowed := true }
def Murmur86PiecesUptoSaid : Prop := murmur86PiecesUptoRow.holds Try.pinned (OpenSpec.upto murmur86PiecesSpec)

/-- 'astragallaw30.Murmur86Lanes', WHERE WHAT IT READS IS OF BULK AT MOST 1048576: true; the input reads as it did. -/
def murmur86LanesUptoRow : OpenClaim := { program := "ytegibnffingciaa", sum := "362a948ab395f818061c6f3ec80fe2dff1a7259c6ab9fdcc1b8f7312a5729ef8", func := "astragal/astragallaw30.Murmur86Lanes", spec := "murmur86Lanes", unfollowed := true, recurses := true, apart := false, narrowed := true }
def Murmur86LanesUptoSaid : Prop := murmur86LanesUptoRow.holds Try.pinned (OpenSpec.upto murmur86LanesSpec)

/-- 'astragallaw30.Murmur86Sets', WHERE WHAT IT READS IS OF BULK AT MOST 1048576: true; the input reads as it did. -/
def murmur86SetsUptoRow : OpenClaim := { program := "ytegibnffingciaa", sum := "362a948ab395f818061c6f3ec80fe2dff1a7259c6ab9fdcc1b8f7312a5729ef8", func := "astragal/astragallaw30.Murmur86Sets", spec := "murmur86Sets", unfollowed := true, recurses := true, apart := false, narrowed := true }
def Murmur86SetsUptoSaid : Prop := murmur86SetsUptoRow.holds Try.pinned (OpenSpec.upto murmur86SetsSpec)

/-- 'astragallaw31.Murmur64One', WHERE WHAT IT READS IS OF BULK AT MOST 1048576: true; the input reads as it did. -/
def murmur64OneUptoRow : OpenClaim := { program := "ytegibnffingciaa", sum := "362a948ab395f818061c6f3ec80fe2dff1a7259c6ab9fdcc1b8f7312a5729ef8", func := "astragal/astragallaw31.Murmur64One", spec := "murmur64One", unfollowed := true, recurses := true, apart := false, narrowed := true }
def Murmur64OneUptoSaid : Prop := murmur64OneUptoRow.holds Try.pinned (OpenSpec.upto murmur64OneSpec)

/-- 'astragallaw31.Murmur64Pieces', WHERE WHAT IT READS IS OF BULK AT MOST 1048576: true; the input reads as it did. -/
def murmur64PiecesUptoRow : OpenClaim := { program := "ytegibnffingciaa", sum := "362a948ab395f818061c6f3ec80fe2dff1a7259c6ab9fdcc1b8f7312a5729ef8", func := "astragal/astragallaw31.Murmur64Pieces", spec := "murmur64Pieces", unfollowed := true, recurses := true, apart := false, narrowed := true }
def Murmur64PiecesUptoSaid : Prop := murmur64PiecesUptoRow.holds Try.pinned (OpenSpec.upto murmur64PiecesSpec)

/-- 'astragallaw31.Murmur64Lanes', WHERE WHAT IT READS IS OF BULK AT MOST 1048576: true; the input reads as it did. -/
def murmur64LanesUptoRow : OpenClaim := { program := "ytegibnffingciaa", sum := "362a948ab395f818061c6f3ec80fe2dff1a7259c6ab9fdcc1b8f7312a5729ef8", func := "astragal/astragallaw31.Murmur64Lanes", spec := "murmur64Lanes", unfollowed := true, recurses := true, apart := false, narrowed := true }
def Murmur64LanesUptoSaid : Prop := murmur64LanesUptoRow.holds Try.pinned (OpenSpec.upto murmur64LanesSpec)

/-- 'astragallaw31.Murmur64Sets', WHERE WHAT IT READS IS OF BULK AT MOST 1048576: true; the input reads as it did. -/
def murmur64SetsUptoRow : OpenClaim := { program := "ytegibnffingciaa", sum := "362a948ab395f818061c6f3ec80fe2dff1a7259c6ab9fdcc1b8f7312a5729ef8", func := "astragal/astragallaw31.Murmur64Sets", spec := "murmur64Sets", unfollowed := true, recurses := true, apart := false, narrowed := true }
def Murmur64SetsUptoSaid : Prop := murmur64SetsUptoRow.holds Try.pinned (OpenSpec.upto murmur64SetsSpec)

end Rows
end Go.Proofs.Ytegibnffingciaa
