/-
  No cell of these rows narrows 'for every input' (looked for: loops, veiled, ifaces, maps, wideKeys, modest, calm, conditions, laid).
  DERIVED. THE GIVEN ROWS OF THIS SEAT. 5 by the template 'for every input the law returns true; each argument reads behind the call as it read before'; 0 by the template 'total and deterministic' (their statements: YtajjpllhihgkdaaTotals.lean).
  GIVEN WITH THE SEED: the statements are not yours to turn. If you find one false, say at which input.
  Laid BY PROGRAM, IN A SANDBOX (cutbox-rows.mjs): the forced cells as the released guide's own fill.sh prints them over the translation 64a5cca757e45d57… (all of the seat's roots in one cut). By AI agents, Wed Nov 11 2026. No macro, syntax, notation, axiom, sorry.
-/
import Derived.Test.YtajjpllhihgkdaaChecked
import GoSem.Claim
import GoSem.ClaimJoined
import GoSem.ClaimMapViews
import Derived.JoinedTies
import Derived.KernelRfl
namespace Go.Proofs.Ytajjpllhihgkdaa
/- THE CELL 'sum', in the pinned program and in every row, IS THE sha256 OF THE DUMP (.gsa) THAT YtajjpllhihgkdaaProg.lean LOADS. Nothing in Lean hashes anything: it is a label: what it is worth is what the hold of that sum in a sandbox is worth. -/
noncomputable def Try.pinned : Pinned := { name := "ytajjpllhihgkdaa", sum := "64a5cca757e45d5717fe95999fad56153faf8c1f7a1b6b7f03f2db1acd8aff39", checked := Try.checked }
namespace Rows
def none {H : Type} : Left H := { results := [], args := [] }

/-- 'astragallaw42.ReservoirSlots': WHATEVER THE INPUT: true; the input reads as it did. -/
def reservoirSlotsSpec : ChangeSpec := { name := "reservoirSlots", fn := fun _ => fun
  | [d1, d2, d3] => { results := [.lit (.bool true)], args := [d1, d2, d3] }
  | _ => none }
def reservoirSlotsRow : OpenClaim := { program := "ytajjpllhihgkdaa", sum := "64a5cca757e45d5717fe95999fad56153faf8c1f7a1b6b7f03f2db1acd8aff39", func := "astragal/astragallaw42.ReservoirSlots", spec := "reservoirSlots", unfollowed := true, recurses := true, apart := false }
def ReservoirSlotsSaid : Prop := reservoirSlotsRow.holds Try.pinned (OpenSpec.ofChange reservoirSlotsSpec)

/-- ITS FALSE NEIGHBOUR: 'it returns false'. Refute it at one input. -/
def reservoirSlotsWrong : ChangeSpec := { name := "reservoirSlots", fn := fun _ => fun
  | [d1, d2, d3] => { results := [.lit (.bool false)], args := [d1, d2, d3] }
  | _ => none }
def ReservoirSlotsWrongFalsely : Prop := reservoirSlotsRow.holds Try.pinned (OpenSpec.ofChange reservoirSlotsWrong)

/-- 'astragallaw42.ReservoirUndoes': WHATEVER THE INPUT: true; the input reads as it did. -/
def reservoirUndoesSpec : ChangeSpec := { name := "reservoirUndoes", fn := fun _ => fun
  | [d1, d2, d3, d4] => { results := [.lit (.bool true)], args := [d1, d2, d3, d4] }
  | _ => none }
def reservoirUndoesRow : OpenClaim := { program := "ytajjpllhihgkdaa", sum := "64a5cca757e45d5717fe95999fad56153faf8c1f7a1b6b7f03f2db1acd8aff39", func := "astragal/astragallaw42.ReservoirUndoes", spec := "reservoirUndoes", unfollowed := true, recurses := true, apart := false }
def ReservoirUndoesSaid : Prop := reservoirUndoesRow.holds Try.pinned (OpenSpec.ofChange reservoirUndoesSpec)

/-- ITS FALSE NEIGHBOUR: 'it returns false'. Refute it at one input. -/
def reservoirUndoesWrong : ChangeSpec := { name := "reservoirUndoes", fn := fun _ => fun
  | [d1, d2, d3, d4] => { results := [.lit (.bool false)], args := [d1, d2, d3, d4] }
  | _ => none }
def ReservoirUndoesWrongFalsely : Prop := reservoirUndoesRow.holds Try.pinned (OpenSpec.ofChange reservoirUndoesWrong)

/-- 'astragallaw42.ReservoirTakes': WHATEVER THE INPUT: true; the input reads as it did. -/
def reservoirTakesSpec : ChangeSpec := { name := "reservoirTakes", fn := fun _ => fun
  | [d1, d2, d3] => { results := [.lit (.bool true)], args := [d1, d2, d3] }
  | _ => none }
def reservoirTakesRow : OpenClaim := { program := "ytajjpllhihgkdaa", sum := "64a5cca757e45d5717fe95999fad56153faf8c1f7a1b6b7f03f2db1acd8aff39", func := "astragal/astragallaw42.ReservoirTakes", spec := "reservoirTakes", unfollowed := true, recurses := true, named := ["math/bits.divideError", "math/bits.overflowError"], apart := false }
def ReservoirTakesSaid : Prop := reservoirTakesRow.holds Try.pinned (OpenSpec.ofChange reservoirTakesSpec)

/-- ITS FALSE NEIGHBOUR: 'it returns false'. Refute it at one input. -/
def reservoirTakesWrong : ChangeSpec := { name := "reservoirTakes", fn := fun _ => fun
  | [d1, d2, d3] => { results := [.lit (.bool false)], args := [d1, d2, d3] }
  | _ => none }
def ReservoirTakesWrongFalsely : Prop := reservoirTakesRow.holds Try.pinned (OpenSpec.ofChange reservoirTakesWrong)

/-- 'astragallaw42.ReservoirTurns': WHATEVER THE INPUT: true; the input reads as it did. -/
def reservoirTurnsSpec : ChangeSpec := { name := "reservoirTurns", fn := fun _ => fun
  | [d1, d2, d3, d4] => { results := [.lit (.bool true)], args := [d1, d2, d3, d4] }
  | _ => none }
def reservoirTurnsRow : OpenClaim := { program := "ytajjpllhihgkdaa", sum := "64a5cca757e45d5717fe95999fad56153faf8c1f7a1b6b7f03f2db1acd8aff39", func := "astragal/astragallaw42.ReservoirTurns", spec := "reservoirTurns", unfollowed := true, recurses := true, apart := false }
def ReservoirTurnsSaid : Prop := reservoirTurnsRow.holds Try.pinned (OpenSpec.ofChange reservoirTurnsSpec)

/-- ITS FALSE NEIGHBOUR: 'it returns false'. Refute it at one input. -/
def reservoirTurnsWrong : ChangeSpec := { name := "reservoirTurns", fn := fun _ => fun
  | [d1, d2, d3, d4] => { results := [.lit (.bool false)], args := [d1, d2, d3, d4] }
  | _ => none }
def ReservoirTurnsWrongFalsely : Prop := reservoirTurnsRow.holds Try.pinned (OpenSpec.ofChange reservoirTurnsWrong)

/-- 'astragallaw42.ReservoirEven': WHATEVER THE INPUT: true; the input reads as it did. -/
def reservoirEvenSpec : ChangeSpec := { name := "reservoirEven", fn := fun _ => fun
  | [d1, d2, d3] => { results := [.lit (.bool true)], args := [d1, d2, d3] }
  | _ => none }
def reservoirEvenRow : OpenClaim := { program := "ytajjpllhihgkdaa", sum := "64a5cca757e45d5717fe95999fad56153faf8c1f7a1b6b7f03f2db1acd8aff39", func := "astragal/astragallaw42.ReservoirEven", spec := "reservoirEven", inPlace := ["math/bits.Sub64"], unfollowed := true, recurses := true, named := ["math/bits.divideError", "math/bits.overflowError"], apart := false }
def ReservoirEvenSaid : Prop := reservoirEvenRow.holds Try.pinned (OpenSpec.ofChange reservoirEvenSpec)

/-- ITS FALSE NEIGHBOUR: 'it returns false'. Refute it at one input. -/
def reservoirEvenWrong : ChangeSpec := { name := "reservoirEven", fn := fun _ => fun
  | [d1, d2, d3] => { results := [.lit (.bool false)], args := [d1, d2, d3] }
  | _ => none }
def ReservoirEvenWrongFalsely : Prop := reservoirEvenRow.holds Try.pinned (OpenSpec.ofChange reservoirEvenWrong)

/- THE SECOND FORM. 'bulk': how many values and letters a reading holds, each counted each time it is reached (what is shared counts as often as it is met; a slice's spare places count too). A statement '..UptoSaid' is the law's where the arguments, and the package variables that the reading takes, are together of bulk at most 1048576: NARROWER than '..Said'. Prove '..Said' where nothing that the law and all that it calls make is longer than what came in: it says more and counts as full. Else prove '..UptoSaid'. A law counts once. -/
mutual
def uptoBulk {H : Type} : DataW H → Nat
  | .lit (.string bytes) => bytes.length + 1
  | .lit _ => 1
  | .nil => 1
  | .ptr d => uptoBulk d + 1
  | .slice elems spare => uptoBulkAll elems + uptoBulkAll spare + 1
  | .agg parts => uptoBulkAll parts + 1
  | .iface _ d => uptoBulk d + 1
  | .map entries => uptoBulkEntries entries + 1
  | .held _ => 1
def uptoBulkAll {H : Type} : List (DataW H) → Nat
  | [] => 0
  | d :: r => uptoBulk d + uptoBulkAll r
def uptoBulkEntries {H : Type} : List (Lit × DataW H) → Nat
  | [] => 0
  | x :: r => uptoBulkEntry x + uptoBulkEntries r
def uptoBulkEntry {H : Type} : Lit × DataW H → Nat
  | (.string bytes, d) => bytes.length + uptoBulk d + 1
  | (_, d) => uptoBulk d + 1
 end
def uptoSmall : (H : Type) → List (DataW H) → Bool := fun _ ds => decide (uptoBulkAll ds ≤ 1048576)
def OpenSpec.upto (s : _root_.Go.ChangeSpec) : _root_.Go.OpenSpec := { _root_.Go.OpenSpec.ofChange s with cond := some uptoSmall }

/-- 'astragallaw42.ReservoirSlots', WHERE WHAT IT READS IS OF BULK AT MOST 1048576: true; the input reads as it did. -/
def reservoirSlotsUptoRow : OpenClaim := { program := "ytajjpllhihgkdaa", sum := "64a5cca757e45d5717fe95999fad56153faf8c1f7a1b6b7f03f2db1acd8aff39", func := "astragal/astragallaw42.ReservoirSlots", spec := "reservoirSlots", unfollowed := true, recurses := true, apart := false, narrowed := true }
def ReservoirSlotsUptoSaid : Prop := reservoirSlotsUptoRow.holds Try.pinned (OpenSpec.upto reservoirSlotsSpec)

/-- 'astragallaw42.ReservoirUndoes', WHERE WHAT IT READS IS OF BULK AT MOST 1048576: true; the input reads as it did. -/
def reservoirUndoesUptoRow : OpenClaim := { program := "ytajjpllhihgkdaa", sum := "64a5cca757e45d5717fe95999fad56153faf8c1f7a1b6b7f03f2db1acd8aff39", func := "astragal/astragallaw42.ReservoirUndoes", spec := "reservoirUndoes", unfollowed := true, recurses := true, apart := false, narrowed := true }
def ReservoirUndoesUptoSaid : Prop := reservoirUndoesUptoRow.holds Try.pinned (OpenSpec.upto reservoirUndoesSpec)

/-- 'astragallaw42.ReservoirTakes', WHERE WHAT IT READS IS OF BULK AT MOST 1048576: true; the input reads as it did. -/
def reservoirTakesUptoRow : OpenClaim := { program := "ytajjpllhihgkdaa", sum := "64a5cca757e45d5717fe95999fad56153faf8c1f7a1b6b7f03f2db1acd8aff39", func := "astragal/astragallaw42.ReservoirTakes", spec := "reservoirTakes", unfollowed := true, recurses := true, named := ["math/bits.divideError", "math/bits.overflowError"], apart := false, narrowed := true }
def ReservoirTakesUptoSaid : Prop := reservoirTakesUptoRow.holds Try.pinned (OpenSpec.upto reservoirTakesSpec)

/-- 'astragallaw42.ReservoirTurns', WHERE WHAT IT READS IS OF BULK AT MOST 1048576: true; the input reads as it did. -/
def reservoirTurnsUptoRow : OpenClaim := { program := "ytajjpllhihgkdaa", sum := "64a5cca757e45d5717fe95999fad56153faf8c1f7a1b6b7f03f2db1acd8aff39", func := "astragal/astragallaw42.ReservoirTurns", spec := "reservoirTurns", unfollowed := true, recurses := true, apart := false, narrowed := true }
def ReservoirTurnsUptoSaid : Prop := reservoirTurnsUptoRow.holds Try.pinned (OpenSpec.upto reservoirTurnsSpec)

/-- 'astragallaw42.ReservoirEven', WHERE WHAT IT READS IS OF BULK AT MOST 1048576: true; the input reads as it did. -/
def reservoirEvenUptoRow : OpenClaim := { program := "ytajjpllhihgkdaa", sum := "64a5cca757e45d5717fe95999fad56153faf8c1f7a1b6b7f03f2db1acd8aff39", func := "astragal/astragallaw42.ReservoirEven", spec := "reservoirEven", inPlace := ["math/bits.Sub64"], unfollowed := true, recurses := true, named := ["math/bits.divideError", "math/bits.overflowError"], apart := false, narrowed := true }
def ReservoirEvenUptoSaid : Prop := reservoirEvenUptoRow.holds Try.pinned (OpenSpec.upto reservoirEvenSpec)

end Rows
end Go.Proofs.Ytajjpllhihgkdaa
