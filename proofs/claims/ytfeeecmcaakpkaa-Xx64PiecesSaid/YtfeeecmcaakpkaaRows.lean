/-
  No cell of these rows narrows 'for every input' (looked for: loops, veiled, ifaces, maps, wideKeys, modest, calm, conditions, laid).
  DERIVED. THE GIVEN ROWS OF THIS SEAT. 6 by the template 'for every input the law returns true; each argument reads behind the call as it read before'; 0 by the template 'total and deterministic' (their statements: YtfeeecmcaakpkaaTotals.lean).
  GIVEN WITH THE SEED: the statements are not yours to turn. If you find one false, say at which input.
  Laid BY PROGRAM, IN A SANDBOX (cutbox-rows.mjs): the forced cells as the released guide's own fill.sh prints them over the translation 04b720a190f0d90a… (all of the seat's roots in one cut). By AI agents, Wed Nov 11 2026. No macro, syntax, notation, axiom, sorry.
-/
import Derived.Test.YtfeeecmcaakpkaaChecked
import GoSem.Claim
import GoSem.ClaimJoined
import GoSem.ClaimMapViews
import Derived.JoinedTies
import Derived.KernelRfl
namespace Go.Proofs.Ytfeeecmcaakpkaa
/- THE CELL 'sum', in the pinned program and in every row, IS THE sha256 OF THE DUMP (.gsa) THAT YtfeeecmcaakpkaaProg.lean LOADS. Nothing in Lean hashes anything: it is a label: what it is worth is what the hold of that sum in a sandbox is worth. -/
noncomputable def Try.pinned : Pinned := { name := "ytfeeecmcaakpkaa", sum := "04b720a190f0d90a06281288eee08a85e7b10ec878309b9e2559a3ad674bf484", checked := Try.checked }
namespace Rows
def none {H : Type} : Left H := { results := [], args := [] }

/-- 'astragallaw32.Xx32One': WHATEVER THE INPUT: true; the input reads as it did. -/
def xx32OneSpec : ChangeSpec := { name := "xx32One", fn := fun _ => fun
  | [d1, d2] => { results := [.lit (.bool true)], args := [d1, d2] }
  | _ => none }
def xx32OneRow : OpenClaim := { program := "ytfeeecmcaakpkaa", sum := "04b720a190f0d90a06281288eee08a85e7b10ec878309b9e2559a3ad674bf484", func := "astragal/astragallaw32.Xx32One", spec := "xx32One", unfollowed := true, recurses := true, apart := false }
def Xx32OneSaid : Prop := xx32OneRow.holds Try.pinned (OpenSpec.ofChange xx32OneSpec)

/-- ITS FALSE NEIGHBOUR: 'it returns false'. Refute it at one input. -/
def xx32OneWrong : ChangeSpec := { name := "xx32One", fn := fun _ => fun
  | [d1, d2] => { results := [.lit (.bool false)], args := [d1, d2] }
  | _ => none }
def Xx32OneWrongFalsely : Prop := xx32OneRow.holds Try.pinned (OpenSpec.ofChange xx32OneWrong)

/-- 'astragallaw32.Xx32Pieces': WHATEVER THE INPUT: true; the input reads as it did. -/
def xx32PiecesSpec : ChangeSpec := { name := "xx32Pieces", fn := fun _ => fun
  | [d1, d2, d3] => { results := [.lit (.bool true)], args := [d1, d2, d3] }
  | _ => none }
def xx32PiecesRow : OpenClaim := { program := "ytfeeecmcaakpkaa", sum := "04b720a190f0d90a06281288eee08a85e7b10ec878309b9e2559a3ad674bf484", func := "astragal/astragallaw32.Xx32Pieces", spec := "xx32Pieces", unfollowed := true, recurses := true, apart := false }
def Xx32PiecesSaid : Prop := xx32PiecesRow.holds Try.pinned (OpenSpec.ofChange xx32PiecesSpec)

/-- ITS FALSE NEIGHBOUR: 'it returns false'. Refute it at one input. -/
def xx32PiecesWrong : ChangeSpec := { name := "xx32Pieces", fn := fun _ => fun
  | [d1, d2, d3] => { results := [.lit (.bool false)], args := [d1, d2, d3] }
  | _ => none }
def Xx32PiecesWrongFalsely : Prop := xx32PiecesRow.holds Try.pinned (OpenSpec.ofChange xx32PiecesWrong)

/-- 'astragallaw32.Xx32Lanes': WHATEVER THE INPUT: true; the input reads as it did. -/
def xx32LanesSpec : ChangeSpec := { name := "xx32Lanes", fn := fun _ => fun
  | [d1, d2, d3] => { results := [.lit (.bool true)], args := [d1, d2, d3] }
  | _ => none }
def xx32LanesRow : OpenClaim := { program := "ytfeeecmcaakpkaa", sum := "04b720a190f0d90a06281288eee08a85e7b10ec878309b9e2559a3ad674bf484", func := "astragal/astragallaw32.Xx32Lanes", spec := "xx32Lanes", unfollowed := true, recurses := true, apart := false }
def Xx32LanesSaid : Prop := xx32LanesRow.holds Try.pinned (OpenSpec.ofChange xx32LanesSpec)

/-- ITS FALSE NEIGHBOUR: 'it returns false'. Refute it at one input. -/
def xx32LanesWrong : ChangeSpec := { name := "xx32Lanes", fn := fun _ => fun
  | [d1, d2, d3] => { results := [.lit (.bool false)], args := [d1, d2, d3] }
  | _ => none }
def Xx32LanesWrongFalsely : Prop := xx32LanesRow.holds Try.pinned (OpenSpec.ofChange xx32LanesWrong)

/-- 'astragallaw33.Xx64One': WHATEVER THE INPUT: true; the input reads as it did. -/
def xx64OneSpec : ChangeSpec := { name := "xx64One", fn := fun _ => fun
  | [d1, d2] => { results := [.lit (.bool true)], args := [d1, d2] }
  | _ => none }
def xx64OneRow : OpenClaim := { program := "ytfeeecmcaakpkaa", sum := "04b720a190f0d90a06281288eee08a85e7b10ec878309b9e2559a3ad674bf484", func := "astragal/astragallaw33.Xx64One", spec := "xx64One", unfollowed := true, recurses := true, apart := false }
def Xx64OneSaid : Prop := xx64OneRow.holds Try.pinned (OpenSpec.ofChange xx64OneSpec)

/-- ITS FALSE NEIGHBOUR: 'it returns false'. Refute it at one input. -/
def xx64OneWrong : ChangeSpec := { name := "xx64One", fn := fun _ => fun
  | [d1, d2] => { results := [.lit (.bool false)], args := [d1, d2] }
  | _ => none }
def Xx64OneWrongFalsely : Prop := xx64OneRow.holds Try.pinned (OpenSpec.ofChange xx64OneWrong)

/-- 'astragallaw33.Xx64Pieces': WHATEVER THE INPUT: true; the input reads as it did. -/
def xx64PiecesSpec : ChangeSpec := { name := "xx64Pieces", fn := fun _ => fun
  | [d1, d2, d3] => { results := [.lit (.bool true)], args := [d1, d2, d3] }
  | _ => none }
def xx64PiecesRow : OpenClaim := { program := "ytfeeecmcaakpkaa", sum := "04b720a190f0d90a06281288eee08a85e7b10ec878309b9e2559a3ad674bf484", func := "astragal/astragallaw33.Xx64Pieces", spec := "xx64Pieces", unfollowed := true, recurses := true, apart := false }
def Xx64PiecesSaid : Prop := xx64PiecesRow.holds Try.pinned (OpenSpec.ofChange xx64PiecesSpec)

/-- ITS FALSE NEIGHBOUR: 'it returns false'. Refute it at one input. -/
def xx64PiecesWrong : ChangeSpec := { name := "xx64Pieces", fn := fun _ => fun
  | [d1, d2, d3] => { results := [.lit (.bool false)], args := [d1, d2, d3] }
  | _ => none }
def Xx64PiecesWrongFalsely : Prop := xx64PiecesRow.holds Try.pinned (OpenSpec.ofChange xx64PiecesWrong)

/-- 'astragallaw33.Xx64Lanes': WHATEVER THE INPUT: true; the input reads as it did. -/
def xx64LanesSpec : ChangeSpec := { name := "xx64Lanes", fn := fun _ => fun
  | [d1, d2, d3] => { results := [.lit (.bool true)], args := [d1, d2, d3] }
  | _ => none }
def xx64LanesRow : OpenClaim := { program := "ytfeeecmcaakpkaa", sum := "04b720a190f0d90a06281288eee08a85e7b10ec878309b9e2559a3ad674bf484", func := "astragal/astragallaw33.Xx64Lanes", spec := "xx64Lanes", unfollowed := true, recurses := true, apart := false }
def Xx64LanesSaid : Prop := xx64LanesRow.holds Try.pinned (OpenSpec.ofChange xx64LanesSpec)

/-- ITS FALSE NEIGHBOUR: 'it returns false'. Refute it at one input. -/
def xx64LanesWrong : ChangeSpec := { name := "xx64Lanes", fn := fun _ => fun
  | [d1, d2, d3] => { results := [.lit (.bool false)], args := [d1, d2, d3] }
  | _ => none }
def Xx64LanesWrongFalsely : Prop := xx64LanesRow.holds Try.pinned (OpenSpec.ofChange xx64LanesWrong)

/- THE SECOND FORM. 'bulk': how many values and letters a reading holds, each counted each time it is reached (what is shared counts as often as it is met; a slice's spare places count too). A statement '..UptoSaid' is the law's where the arguments, and the package variables that the reading takes, are together of bulk at most 1048576: NARROWER than '..Said'. Prove '..Said' where nothing that the law and all that it calls make is longer than what came in: it says more and counts as full. Else prove '..UptoSaid'. A law counts once. -/
mutual
def uptoBulk {H : Type} : DataW H → Nat
  | .lit (.string bytes) => bytes.length + 1
  | .lit _ => 1
  | .nil => 1
  | .ptr d => uptoBulk d + 1
  | .slice elems spare => uptoBulkAll elems + uptoBulkAll spare + 1
  | .agg parts => uptoBulkAll parts + 1
  | .iface _ d => uptoBulk d + 1
  | .map entries => uptoBulkEntries entries + 1
  | .held _ => 1
def uptoBulkAll {H : Type} : List (DataW H) → Nat
  | [] => 0
  | d :: r => uptoBulk d + uptoBulkAll r
def uptoBulkEntries {H : Type} : List (Lit × DataW H) → Nat
  | [] => 0
  | x :: r => uptoBulkEntry x + uptoBulkEntries r
def uptoBulkEntry {H : Type} : Lit × DataW H → Nat
  | (.string bytes, d) => bytes.length + uptoBulk d + 1
  | (_, d) => uptoBulk d + 1
 end
def uptoSmall : (H : Type) → List (DataW H) → Bool := fun _ ds => decide (uptoBulkAll ds ≤ 1048576)
def OpenSpec.upto (s : _root_.Go.ChangeSpec) : _root_.Go.OpenSpec := { _root_.Go.OpenSpec.ofChange s with cond := some uptoSmall }

/-- 'astragallaw32.Xx32One', WHERE WHAT IT READS IS OF BULK AT MOST 1048576: true; the input reads as it did. -/
def xx32OneUptoRow : OpenClaim := { program := "ytfeeecmcaakpkaa", sum := "04b720a190f0d90a06281288eee08a85e7b10ec878309b9e2559a3ad674bf484", func := "astragal/astragallaw32.Xx32One", spec := "xx32One", unfollowed := true, recurses := true, apart := false, narrowed := true }
def Xx32OneUptoSaid : Prop := xx32OneUptoRow.holds Try.pinned (OpenSpec.upto xx32OneSpec)

/-- 'astragallaw32.Xx32Pieces', WHERE WHAT IT READS IS OF BULK AT MOST 1048576: true; the input reads as it did. -/
def xx32PiecesUptoRow : OpenClaim := { program := "ytfeeecmcaakpkaa", sum := "04b720a190f0d90a06281288eee08a85e7b10ec878309b9e2559a3ad674bf484", func := "astragal/astragallaw32.Xx32Pieces", spec := "xx32Pieces", unfollowed := true, recurses := true, apart := false, narrowed := true }
def Xx32PiecesUptoSaid : Prop := xx32PiecesUptoRow.holds Try.pinned (OpenSpec.upto xx32PiecesSpec)

/-- 'astragallaw32.Xx32Lanes', WHERE WHAT IT READS IS OF BULK AT MOST 1048576: true; the input reads as it did. -/
def xx32LanesUptoRow : OpenClaim := { program := "ytfeeecmcaakpkaa", sum := "04b720a190f0d90a06281288eee08a85e7b10ec878309b9e2559a3ad674bf484", func := "astragal/astragallaw32.Xx32Lanes", spec := "xx32Lanes", unfollowed := true, recurses := true, apart := false, narrowed := true }
def Xx32LanesUptoSaid : Prop := xx32LanesUptoRow.holds Try.pinned (OpenSpec.upto xx32LanesSpec)

/-- 'astragallaw33.Xx64One', WHERE WHAT IT READS IS OF BULK AT MOST 1048576: true; the input reads as it did. -/
def xx64OneUptoRow : OpenClaim := { program := "ytfeeecmcaakpkaa", sum := "04b720a190f0d90a06281288eee08a85e7b10ec878309b9e2559a3ad674bf484", func := "astragal/astragallaw33.Xx64One", spec := "xx64One", unfollowed := true, recurses := true, apart := false, narrowed := true }
def Xx64OneUptoSaid : Prop := xx64OneUptoRow.holds Try.pinned (OpenSpec.upto xx64OneSpec)

/-- 'astragallaw33.Xx64Pieces', WHERE WHAT IT READS IS OF BULK AT MOST 1048576: true; the input reads as it did. -/
def xx64PiecesUptoRow : OpenClaim := { program := "ytfeeecmcaakpkaa", sum := "04b720a190f0d90a06281288eee08a85e7b10ec878309b9e2559a3ad674bf484", func := "astragal/astragallaw33.Xx64Pieces", spec := "xx64Pieces", unfollowed := true, recurses := true, apart := false, narrowed := true }
def Xx64PiecesUptoSaid : Prop := xx64PiecesUptoRow.holds Try.pinned (OpenSpec.upto xx64PiecesSpec)

/-- 'astragallaw33.Xx64Lanes', WHERE WHAT IT READS IS OF BULK AT MOST 1048576: true; the input reads as it did. -/
def xx64LanesUptoRow : OpenClaim := { program := "ytfeeecmcaakpkaa", sum := "04b720a190f0d90a06281288eee08a85e7b10ec878309b9e2559a3ad674bf484", func := "astragal/astragallaw33.Xx64Lanes", spec := "xx64Lanes", unfollowed := true, recurses := true, apart := false, narrowed := true }
def Xx64LanesUptoSaid : Prop := xx64LanesUptoRow.holds Try.pinned (OpenSpec.upto xx64LanesSpec)

end Rows
end Go.Proofs.Ytfeeecmcaakpkaa
