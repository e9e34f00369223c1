/-
  No cell of these rows narrows 'for every input' (looked for: loops, veiled, ifaces, maps, wideKeys, modest, calm, conditions, laid).
  DERIVED. THE GIVEN ROWS OF THIS SEAT. 5 by the template 'for every input the law returns true; each argument reads behind the call as it read before'; 0 by the template 'total and deterministic' (their statements: YtopepchfaomdoaaTotals.lean).
  GIVEN WITH THE SEED: the statements are not yours to turn. If you find one false, say at which input.
  Laid BY PROGRAM, IN A SANDBOX (cutbox-rows.mjs): the forced cells as the released guide's own fill.sh prints them over the translation c11c91355b7063bd… (all of the seat's roots in one cut). By AI agents, Wed Nov 11 2026. No macro, syntax, notation, axiom, sorry.
-/
import Derived.Test.YtopepchfaomdoaaChecked
import GoSem.Claim
import GoSem.ClaimJoined
import GoSem.ClaimMapViews
import Derived.JoinedTies
import Derived.KernelRfl
namespace Go.Proofs.Ytopepchfaomdoaa
/- THE CELL 'sum', in the pinned program and in every row, IS THE sha256 OF THE DUMP (.gsa) THAT YtopepchfaomdoaaProg.lean LOADS. Nothing in Lean hashes anything: it is a label: what it is worth is what the hold of that sum in a sandbox is worth. -/
noncomputable def Try.pinned : Pinned := { name := "ytopepchfaomdoaa", sum := "c11c91355b7063bd2b21c16c101fc7588c9f0aba7a24a0862267e68d57dd06b1", checked := Try.checked }
namespace Rows
def none {H : Type} : Left H := { results := [], args := [] }

/-- 'astragallaw40.ShuffleOrders': WHATEVER THE INPUT: true; the input reads as it did. -/
def shuffleOrdersSpec : ChangeSpec := { name := "shuffleOrders", fn := fun _ => fun
  | [d1, d2] => { results := [.lit (.bool true)], args := [d1, d2] }
  | _ => none }
def shuffleOrdersRow : OpenClaim := { program := "ytopepchfaomdoaa", sum := "c11c91355b7063bd2b21c16c101fc7588c9f0aba7a24a0862267e68d57dd06b1", func := "astragal/astragallaw40.ShuffleOrders", spec := "shuffleOrders", apart := false }
def ShuffleOrdersSaid : Prop := shuffleOrdersRow.holds Try.pinned (OpenSpec.ofChange shuffleOrdersSpec)

/-- ITS FALSE NEIGHBOUR: 'it returns false'. Refute it at one input. -/
def shuffleOrdersWrong : ChangeSpec := { name := "shuffleOrders", fn := fun _ => fun
  | [d1, d2] => { results := [.lit (.bool false)], args := [d1, d2] }
  | _ => none }
def ShuffleOrdersWrongFalsely : Prop := shuffleOrdersRow.holds Try.pinned (OpenSpec.ofChange shuffleOrdersWrong)

/-- 'astragallaw40.ShuffleOnly': WHATEVER THE INPUT: true; the input reads as it did. -/
def shuffleOnlySpec : ChangeSpec := { name := "shuffleOnly", fn := fun _ => fun
  | [d] => { results := [.lit (.bool true)], args := [d] }
  | _ => none }
def shuffleOnlyRow : OpenClaim := { program := "ytopepchfaomdoaa", sum := "c11c91355b7063bd2b21c16c101fc7588c9f0aba7a24a0862267e68d57dd06b1", func := "astragal/astragallaw40.ShuffleOnly", spec := "shuffleOnly", apart := false }
def ShuffleOnlySaid : Prop := shuffleOnlyRow.holds Try.pinned (OpenSpec.ofChange shuffleOnlySpec)

/-- ITS FALSE NEIGHBOUR: 'it returns false'. Refute it at one input. -/
def shuffleOnlyWrong : ChangeSpec := { name := "shuffleOnly", fn := fun _ => fun
  | [d] => { results := [.lit (.bool false)], args := [d] }
  | _ => none }
def ShuffleOnlyWrongFalsely : Prop := shuffleOnlyRow.holds Try.pinned (OpenSpec.ofChange shuffleOnlyWrong)

/-- 'astragallaw40.ShuffleThen': WHATEVER THE INPUT: true; the input reads as it did. -/
def shuffleThenSpec : ChangeSpec := { name := "shuffleThen", fn := fun _ => fun
  | [d1, d2] => { results := [.lit (.bool true)], args := [d1, d2] }
  | _ => none }
def shuffleThenRow : OpenClaim := { program := "ytopepchfaomdoaa", sum := "c11c91355b7063bd2b21c16c101fc7588c9f0aba7a24a0862267e68d57dd06b1", func := "astragal/astragallaw40.ShuffleThen", spec := "shuffleThen", unfollowed := true, recurses := true, apart := false }
def ShuffleThenSaid : Prop := shuffleThenRow.holds Try.pinned (OpenSpec.ofChange shuffleThenSpec)

/-- ITS FALSE NEIGHBOUR: 'it returns false'. Refute it at one input. -/
def shuffleThenWrong : ChangeSpec := { name := "shuffleThen", fn := fun _ => fun
  | [d1, d2] => { results := [.lit (.bool false)], args := [d1, d2] }
  | _ => none }
def ShuffleThenWrongFalsely : Prop := shuffleThenRow.holds Try.pinned (OpenSpec.ofChange shuffleThenWrong)

/-- 'astragallaw40.ShuffleTakes': WHATEVER THE INPUT: true; the input reads as it did. -/
def shuffleTakesSpec : ChangeSpec := { name := "shuffleTakes", fn := fun _ => fun
  | [d1, d2] => { results := [.lit (.bool true)], args := [d1, d2] }
  | _ => none }
def shuffleTakesRow : OpenClaim := { program := "ytopepchfaomdoaa", sum := "c11c91355b7063bd2b21c16c101fc7588c9f0aba7a24a0862267e68d57dd06b1", func := "astragal/astragallaw40.ShuffleTakes", spec := "shuffleTakes", unfollowed := true, recurses := true, named := ["math/bits.divideError", "math/bits.overflowError"], apart := false }
def ShuffleTakesSaid : Prop := shuffleTakesRow.holds Try.pinned (OpenSpec.ofChange shuffleTakesSpec)

/-- ITS FALSE NEIGHBOUR: 'it returns false'. Refute it at one input. -/
def shuffleTakesWrong : ChangeSpec := { name := "shuffleTakes", fn := fun _ => fun
  | [d1, d2] => { results := [.lit (.bool false)], args := [d1, d2] }
  | _ => none }
def ShuffleTakesWrongFalsely : Prop := shuffleTakesRow.holds Try.pinned (OpenSpec.ofChange shuffleTakesWrong)

/-- 'astragallaw40.ShuffleAims': WHATEVER THE INPUT: true; the input reads as it did. -/
def shuffleAimsSpec : ChangeSpec := { name := "shuffleAims", fn := fun _ => fun
  | [d1, d2] => { results := [.lit (.bool true)], args := [d1, d2] }
  | _ => none }
def shuffleAimsRow : OpenClaim := { program := "ytopepchfaomdoaa", sum := "c11c91355b7063bd2b21c16c101fc7588c9f0aba7a24a0862267e68d57dd06b1", func := "astragal/astragallaw40.ShuffleAims", spec := "shuffleAims", inPlace := ["math/bits.Sub64"], unfollowed := true, recurses := true, named := ["math/bits.divideError", "math/bits.overflowError"], apart := false }
def ShuffleAimsSaid : Prop := shuffleAimsRow.holds Try.pinned (OpenSpec.ofChange shuffleAimsSpec)

/-- ITS FALSE NEIGHBOUR: 'it returns false'. Refute it at one input. -/
def shuffleAimsWrong : ChangeSpec := { name := "shuffleAims", fn := fun _ => fun
  | [d1, d2] => { results := [.lit (.bool false)], args := [d1, d2] }
  | _ => none }
def ShuffleAimsWrongFalsely : Prop := shuffleAimsRow.holds Try.pinned (OpenSpec.ofChange shuffleAimsWrong)

/- THE SECOND FORM. 'bulk': how many values and letters a reading holds, each counted each time it is reached (what is shared counts as often as it is met; a slice's spare places count too). A statement '..UptoSaid' is the law's where the arguments, and the package variables that the reading takes, are together of bulk at most 1048576: NARROWER than '..Said'. Prove '..Said' where nothing that the law and all that it calls make is longer than what came in: it says more and counts as full. Else prove '..UptoSaid'. A law counts once. -/
mutual
def uptoBulk {H : Type} : DataW H → Nat
  | .lit (.string bytes) => bytes.length + 1
  | .lit _ => 1
  | .nil => 1
  | .ptr d => uptoBulk d + 1
  | .slice elems spare => uptoBulkAll elems + uptoBulkAll spare + 1
  | .agg parts => uptoBulkAll parts + 1
  | .iface _ d => uptoBulk d + 1
  | .map entries => uptoBulkEntries entries + 1
  | .held _ => 1
def uptoBulkAll {H : Type} : List (DataW H) → Nat
  | [] => 0
  | d :: r => uptoBulk d + uptoBulkAll r
def uptoBulkEntries {H : Type} : List (Lit × DataW H) → Nat
  | [] => 0
  | x :: r => uptoBulkEntry x + uptoBulkEntries r
def uptoBulkEntry {H : Type} : Lit × DataW H → Nat
  | (.string bytes, d) => bytes.length + uptoBulk d + 1
  | (_, d) => uptoBulk d + 1
 end
def uptoSmall : (H : Type) → List (DataW H) → Bool := fun _ ds => decide (uptoBulkAll ds ≤ 1048576)
def OpenSpec.upto (s : _root_.Go.ChangeSpec) : _root_.Go.OpenSpec := { _root_.Go.OpenSpec.ofChange s with cond := some uptoSmall }

/-- 'astragallaw40.ShuffleOrders', WHERE WHAT IT READS IS OF BULK AT MOST 1048576: true; the input reads as it did. -/
def shuffleOrdersUptoRow : OpenClaim := { program := "ytopepchfaomdoaa", sum := "c11c91355b7063bd2b21c16c101fc7588c9f0aba7a24a0862267e68d57dd06b1", func := "astragal/astragallaw40.ShuffleOrders", spec := "shuffleOrders", apart := false, narrowed := true }
def ShuffleOrdersUptoSaid : Prop := shuffleOrdersUptoRow.holds Try.pinned (OpenSpec.upto shuffleOrdersSpec)

/-- 'astragallaw40.ShuffleOnly', WHERE WHAT IT READS IS OF BULK AT MOST 1048576: true; the input reads as it did. -/
def shuffleOnlyUptoRow : OpenClaim := { program := "ytopepchfaomdoaa", sum := "c11c91355b7063bd2b21c16c101fc7588c9f0aba7a24a0862267e68d57dd06b1", func := "astragal/astragallaw40.ShuffleOnly", spec := "shuffleOnly", apart := false, narrowed := true }
def ShuffleOnlyUptoSaid : Prop := shuffleOnlyUptoRow.holds Try.pinned (OpenSpec.upto shuffleOnlySpec)

/-- 'astragallaw40.ShuffleThen', WHERE WHAT IT READS IS OF BULK AT MOST 1048576: true; the input reads as it did. -/
def shuffleThenUptoRow : OpenClaim := { program := "ytopepchfaomdoaa", sum := "c11c91355b7063bd2b21c16c101fc7588c9f0aba7a24a0862267e68d57dd06b1", func := "astragal/astragallaw40.ShuffleThen", spec := "shuffleThen", unfollowed := true, recurses := true, apart := false, narrowed := true }
def ShuffleThenUptoSaid : Prop := shuffleThenUptoRow.holds Try.pinned (OpenSpec.upto shuffleThenSpec)

/-- 'astragallaw40.ShuffleTakes', WHERE WHAT IT READS IS OF BULK AT MOST 1048576: true; the input reads as it did. -/
def shuffleTakesUptoRow : OpenClaim := { program := "ytopepchfaomdoaa", sum := "c11c91355b7063bd2b21c16c101fc7588c9f0aba7a24a0862267e68d57dd06b1", func := "astragal/astragallaw40.ShuffleTakes", spec := "shuffleTakes", unfollowed := true, recurses := true, named := ["math/bits.divideError", "math/bits.overflowError"], apart := false, narrowed := true }
def ShuffleTakesUptoSaid : Prop := shuffleTakesUptoRow.holds Try.pinned (OpenSpec.upto shuffleTakesSpec)

/-- 'astragallaw40.ShuffleAims', WHERE WHAT IT READS IS OF BULK AT MOST 1048576: true; the input reads as it did. -/
def shuffleAimsUptoRow : OpenClaim := { program := "ytopepchfaomdoaa", sum := "c11c91355b7063bd2b21c16c101fc7588c9f0aba7a24a0862267e68d57dd06b1", func := "astragal/astragallaw40.ShuffleAims", spec := "shuffleAims", inPlace := ["math/bits.Sub64"], unfollowed := true, recurses := true, named := ["math/bits.divideError", "math/bits.overflowError"], apart := false, narrowed := true }
def ShuffleAimsUptoSaid : Prop := shuffleAimsUptoRow.holds Try.pinned (OpenSpec.upto shuffleAimsSpec)

end Rows
end Go.Proofs.Ytopepchfaomdoaa
