/-
  No cell of these rows narrows 'for every input' (looked for: loops, veiled, ifaces, maps, wideKeys, modest, calm, conditions, laid).
  DERIVED. THE GIVEN ROWS OF THIS SEAT. 8 by the template 'for every input the law returns true; each argument reads behind the call as it read before'; 0 by the template 'total and deterministic' (their statements: YtepphoncljlkoaaTotals.lean).
  GIVEN WITH THE SEED: the statements are not yours to turn. If you find one false, say at which input.
  Laid BY PROGRAM, IN A SANDBOX (cutbox-rows.mjs): the forced cells as the released guide's own fill.sh prints them over the translation 9a238054dd976b2c… (all of the seat's roots in one cut). By AI agents, Wed Nov 11 2026. No macro, syntax, notation, axiom, sorry.
-/
import Derived.Test.YtepphoncljlkoaaChecked
import GoSem.Claim
import GoSem.ClaimJoined
import GoSem.ClaimMapViews
import Derived.JoinedTies
import Derived.KernelRfl
namespace Go.Proofs.Ytepphoncljlkoaa
/- THE CELL 'sum', in the pinned program and in every row, IS THE sha256 OF THE DUMP (.gsa) THAT YtepphoncljlkoaaProg.lean LOADS. Nothing in Lean hashes anything: it is a label: what it is worth is what the hold of that sum in a sandbox is worth. -/
noncomputable def Try.pinned : Pinned := { name := "ytepphoncljlkoaa", sum := "9a238054dd976b2cafa86dd8034fc8ef2206729bce9a04a900bad8533a9f3196", checked := Try.checked }
namespace Rows
def none {H : Type} : Left H := { results := [], args := [] }

/-- 'astragallaw01.WideSums': WHATEVER THE INPUT: true; the input reads as it did. -/
def wideSumsSpec : ChangeSpec := { name := "wideSums", fn := fun _ => fun
  | [d1, d2] => { results := [.lit (.bool true)], args := [d1, d2] }
  | _ => none }
def wideSumsRow : OpenClaim := { program := "ytepphoncljlkoaa", sum := "9a238054dd976b2cafa86dd8034fc8ef2206729bce9a04a900bad8533a9f3196", func := "astragal/astragallaw01.WideSums", spec := "wideSums", inPlace := ["math/bits.Add64", "math/bits.Sub64"], apart := false }
def WideSumsSaid : Prop := wideSumsRow.holds Try.pinned (OpenSpec.ofChange wideSumsSpec)

/-- ITS FALSE NEIGHBOUR: 'it returns false'. Refute it at one input. -/
def wideSumsWrong : ChangeSpec := { name := "wideSums", fn := fun _ => fun
  | [d1, d2] => { results := [.lit (.bool false)], args := [d1, d2] }
  | _ => none }
def WideSumsWrongFalsely : Prop := wideSumsRow.holds Try.pinned (OpenSpec.ofChange wideSumsWrong)

/-- 'astragallaw01.WideProducts': WHATEVER THE INPUT: true; the input reads as it did. -/
def wideProductsSpec : ChangeSpec := { name := "wideProducts", fn := fun _ => fun
  | [d1, d2] => { results := [.lit (.bool true)], args := [d1, d2] }
  | _ => none }
def wideProductsRow : OpenClaim := { program := "ytepphoncljlkoaa", sum := "9a238054dd976b2cafa86dd8034fc8ef2206729bce9a04a900bad8533a9f3196", func := "astragal/astragallaw01.WideProducts", spec := "wideProducts", inPlace := ["math/bits.Add64", "math/bits.Sub64"], apart := false }
def WideProductsSaid : Prop := wideProductsRow.holds Try.pinned (OpenSpec.ofChange wideProductsSpec)

/-- ITS FALSE NEIGHBOUR: 'it returns false'. Refute it at one input. -/
def wideProductsWrong : ChangeSpec := { name := "wideProducts", fn := fun _ => fun
  | [d1, d2] => { results := [.lit (.bool false)], args := [d1, d2] }
  | _ => none }
def WideProductsWrongFalsely : Prop := wideProductsRow.holds Try.pinned (OpenSpec.ofChange wideProductsWrong)

/-- 'astragallaw01.WideShifts': WHATEVER THE INPUT: true; the input reads as it did. -/
def wideShiftsSpec : ChangeSpec := { name := "wideShifts", fn := fun _ => fun
  | [d1, d2, d3] => { results := [.lit (.bool true)], args := [d1, d2, d3] }
  | _ => none }
def wideShiftsRow : OpenClaim := { program := "ytepphoncljlkoaa", sum := "9a238054dd976b2cafa86dd8034fc8ef2206729bce9a04a900bad8533a9f3196", func := "astragal/astragallaw01.WideShifts", spec := "wideShifts", inPlace := ["math/bits.Add64", "math/bits.Sub64"], named := ["math/bits.divideError", "math/bits.overflowError"], apart := false }
def WideShiftsSaid : Prop := wideShiftsRow.holds Try.pinned (OpenSpec.ofChange wideShiftsSpec)

/-- ITS FALSE NEIGHBOUR: 'it returns false'. Refute it at one input. -/
def wideShiftsWrong : ChangeSpec := { name := "wideShifts", fn := fun _ => fun
  | [d1, d2, d3] => { results := [.lit (.bool false)], args := [d1, d2, d3] }
  | _ => none }
def WideShiftsWrongFalsely : Prop := wideShiftsRow.holds Try.pinned (OpenSpec.ofChange wideShiftsWrong)

/-- 'astragallaw01.WideFours': WHATEVER THE INPUT: true; the input reads as it did. -/
def wideFoursSpec : ChangeSpec := { name := "wideFours", fn := fun _ => fun
  | [d1, d2, d3] => { results := [.lit (.bool true)], args := [d1, d2, d3] }
  | _ => none }
def wideFoursRow : OpenClaim := { program := "ytepphoncljlkoaa", sum := "9a238054dd976b2cafa86dd8034fc8ef2206729bce9a04a900bad8533a9f3196", func := "astragal/astragallaw01.WideFours", spec := "wideFours", inPlace := ["math/bits.Add64", "math/bits.Sub64"], apart := false }
def WideFoursSaid : Prop := wideFoursRow.holds Try.pinned (OpenSpec.ofChange wideFoursSpec)

/-- ITS FALSE NEIGHBOUR: 'it returns false'. Refute it at one input. -/
def wideFoursWrong : ChangeSpec := { name := "wideFours", fn := fun _ => fun
  | [d1, d2, d3] => { results := [.lit (.bool false)], args := [d1, d2, d3] }
  | _ => none }
def WideFoursWrongFalsely : Prop := wideFoursRow.holds Try.pinned (OpenSpec.ofChange wideFoursWrong)

/-- 'astragallaw02.LoadReads': WHATEVER THE INPUT: true; the input reads as it did. -/
def loadReadsSpec : ChangeSpec := { name := "loadReads", fn := fun _ => fun
  | [d1, d2] => { results := [.lit (.bool true)], args := [d1, d2] }
  | _ => none }
def loadReadsRow : OpenClaim := { program := "ytepphoncljlkoaa", sum := "9a238054dd976b2cafa86dd8034fc8ef2206729bce9a04a900bad8533a9f3196", func := "astragal/astragallaw02.LoadReads", spec := "loadReads", apart := false }
def LoadReadsSaid : Prop := loadReadsRow.holds Try.pinned (OpenSpec.ofChange loadReadsSpec)

/-- ITS FALSE NEIGHBOUR: 'it returns false'. Refute it at one input. -/
def loadReadsWrong : ChangeSpec := { name := "loadReads", fn := fun _ => fun
  | [d1, d2] => { results := [.lit (.bool false)], args := [d1, d2] }
  | _ => none }
def LoadReadsWrongFalsely : Prop := loadReadsRow.holds Try.pinned (OpenSpec.ofChange loadReadsWrong)

/-- 'astragallaw02.LoadPuts': WHATEVER THE INPUT: true; the input reads as it did. -/
def loadPutsSpec : ChangeSpec := { name := "loadPuts", fn := fun _ => fun
  | [d1, d2, d3] => { results := [.lit (.bool true)], args := [d1, d2, d3] }
  | _ => none }
def loadPutsRow : OpenClaim := { program := "ytepphoncljlkoaa", sum := "9a238054dd976b2cafa86dd8034fc8ef2206729bce9a04a900bad8533a9f3196", func := "astragal/astragallaw02.LoadPuts", spec := "loadPuts", apart := false }
def LoadPutsSaid : Prop := loadPutsRow.holds Try.pinned (OpenSpec.ofChange loadPutsSpec)

/-- ITS FALSE NEIGHBOUR: 'it returns false'. Refute it at one input. -/
def loadPutsWrong : ChangeSpec := { name := "loadPuts", fn := fun _ => fun
  | [d1, d2, d3] => { results := [.lit (.bool false)], args := [d1, d2, d3] }
  | _ => none }
def LoadPutsWrongFalsely : Prop := loadPutsRow.holds Try.pinned (OpenSpec.ofChange loadPutsWrong)

/-- 'astragallaw02.LoadTurns': WHATEVER THE INPUT: true; the input reads as it did. -/
def loadTurnsSpec : ChangeSpec := { name := "loadTurns", fn := fun _ => fun
  | [d1, d2, d3] => { results := [.lit (.bool true)], args := [d1, d2, d3] }
  | _ => none }
def loadTurnsRow : OpenClaim := { program := "ytepphoncljlkoaa", sum := "9a238054dd976b2cafa86dd8034fc8ef2206729bce9a04a900bad8533a9f3196", func := "astragal/astragallaw02.LoadTurns", spec := "loadTurns", apart := false }
def LoadTurnsSaid : Prop := loadTurnsRow.holds Try.pinned (OpenSpec.ofChange loadTurnsSpec)

/-- ITS FALSE NEIGHBOUR: 'it returns false'. Refute it at one input. -/
def loadTurnsWrong : ChangeSpec := { name := "loadTurns", fn := fun _ => fun
  | [d1, d2, d3] => { results := [.lit (.bool false)], args := [d1, d2, d3] }
  | _ => none }
def LoadTurnsWrongFalsely : Prop := loadTurnsRow.holds Try.pinned (OpenSpec.ofChange loadTurnsWrong)

/-- 'astragallaw02.LoadHexes': WHATEVER THE INPUT: true; the input reads as it did. -/
def loadHexesSpec : ChangeSpec := { name := "loadHexes", fn := fun _ => fun
  | [d1, d2] => { results := [.lit (.bool true)], args := [d1, d2] }
  | _ => none }
def loadHexesRow : OpenClaim := { program := "ytepphoncljlkoaa", sum := "9a238054dd976b2cafa86dd8034fc8ef2206729bce9a04a900bad8533a9f3196", func := "astragal/astragallaw02.LoadHexes", spec := "loadHexes", apart := false }
def LoadHexesSaid : Prop := loadHexesRow.holds Try.pinned (OpenSpec.ofChange loadHexesSpec)

/-- ITS FALSE NEIGHBOUR: 'it returns false'. Refute it at one input. -/
def loadHexesWrong : ChangeSpec := { name := "loadHexes", fn := fun _ => fun
  | [d1, d2] => { results := [.lit (.bool false)], args := [d1, d2] }
  | _ => none }
def LoadHexesWrongFalsely : Prop := loadHexesRow.holds Try.pinned (OpenSpec.ofChange loadHexesWrong)

/- THE SECOND FORM. 'bulk': how many values and letters a reading holds, each counted each time it is reached (what is shared counts as often as it is met; a slice's spare places count too). A statement '..UptoSaid' is the law's where the arguments, and the package variables that the reading takes, are together of bulk at most 1048576: NARROWER than '..Said'. Prove '..Said' where nothing that the law and all that it calls make is longer than what came in: it says more and counts as full. Else prove '..UptoSaid'. A law counts once. -/
mutual
def uptoBulk {H : Type} : DataW H → Nat
  | .lit (.string bytes) => bytes.length + 1
  | .lit _ => 1
  | .nil => 1
  | .ptr d => uptoBulk d + 1
  | .slice elems spare => uptoBulkAll elems + uptoBulkAll spare + 1
  | .agg parts => uptoBulkAll parts + 1
  | .iface _ d => uptoBulk d + 1
  | .map entries => uptoBulkEntries entries + 1
  | .held _ => 1
def uptoBulkAll {H : Type} : List (DataW H) → Nat
  | [] => 0
  | d :: r => uptoBulk d + uptoBulkAll r
def uptoBulkEntries {H : Type} : List (Lit × DataW H) → Nat
  | [] => 0
  | x :: r => uptoBulkEntry x + uptoBulkEntries r
def uptoBulkEntry {H : Type} : Lit × DataW H → Nat
  | (.string bytes, d) => bytes.length + uptoBulk d + 1
  | (_, d) => uptoBulk d + 1
 end
def uptoSmall : (H : Type) → List (DataW H) → Bool := fun _ ds => decide (uptoBulkAll ds ≤ 1048576)
def OpenSpec.upto (s : _root_.Go.ChangeSpec) : _root_.Go.OpenSpec := { _root_.Go.OpenSpec.ofChange s with cond := some uptoSmall }

/-- 'astragallaw01.WideSums', WHERE WHAT IT READS IS OF BULK AT MOST 1048576: true; the input reads as it did. -/
def wideSumsUptoRow : OpenClaim := { program := "ytepphoncljlkoaa", sum := "9a238054dd976b2cafa86dd8034fc8ef2206729bce9a04a900bad8533a9f3196", func := "astragal/astragallaw01.WideSums", spec := "wideSums", inPlace := ["math/bits.Add64", "math/bits.Sub64"], apart := false, narrowed := true }
def WideSumsUptoSaid : Prop := wideSumsUptoRow.holds Try.pinned (OpenSpec.upto wideSumsSpec)

/-- 'astragallaw01.WideProducts', WHERE WHAT IT READS IS OF BULK AT MOST 1048576: true; the input reads as it did. -/
def wideProductsUptoRow : OpenClaim := { program := "ytepphoncljlkoaa", sum := "9a238054dd976b2cafa86dd8034fc8ef2206729bce9a04a900bad8533a9f3196", func := "astragal/astragallaw01.WideProducts", spec := "wideProducts", inPlace := ["math/bits.Add64", "math/bits.Sub64"], apart := false, narrowed := true }
def WideProductsUptoSaid : Prop := wideProductsUptoRow.holds Try.pinned (OpenSpec.upto wideProductsSpec)

/-- 'astragallaw01.WideShifts', WHERE WHAT IT READS IS OF BULK AT MOST 1048576: true; the input reads as it did. -/
def wideShiftsUptoRow : OpenClaim := { program := "ytepphoncljlkoaa", sum := "9a238054dd976b2cafa86dd8034fc8ef2206729bce9a04a900bad8533a9f3196", func := "astragal/astragallaw01.WideShifts", spec := "wideShifts", inPlace := ["math/bits.Add64", "math/bits.Sub64"], named := ["math/bits.divideError", "math/bits.overflowError"], apart := false, narrowed := true }
def WideShiftsUptoSaid : Prop := wideShiftsUptoRow.holds Try.pinned (OpenSpec.upto wideShiftsSpec)

/-- 'astragallaw01.WideFours', WHERE WHAT IT READS IS OF BULK AT MOST 1048576: true; the input reads as it did. -/
def wideFoursUptoRow : OpenClaim := { program := "ytepphoncljlkoaa", sum := "9a238054dd976b2cafa86dd8034fc8ef2206729bce9a04a900bad8533a9f3196", func := "astragal/astragallaw01.WideFours", spec := "wideFours", inPlace := ["math/bits.Add64", "math/bits.Sub64"], apart := false, narrowed := true }
def WideFoursUptoSaid : Prop := wideFoursUptoRow.holds Try.pinned (OpenSpec.upto wideFoursSpec)

/-- 'astragallaw02.LoadReads', WHERE WHAT IT READS IS OF BULK AT MOST 1048576: true; the input reads as it did. -/
def loadReadsUptoRow : OpenClaim := { program := "ytepphoncljlkoaa", sum := "9a238054dd976b2cafa86dd8034fc8ef2206729bce9a04a900bad8533a9f3196", func := "astragal/astragallaw02.LoadReads", spec := "loadReads", apart := false, narrowed := true }
def LoadReadsUptoSaid : Prop := loadReadsUptoRow.holds Try.pinned (OpenSpec.upto loadReadsSpec)

/-- 'astragallaw02.LoadPuts', WHERE WHAT IT READS IS OF BULK AT MOST 1048576: true; the input reads as it did. -/
def loadPutsUptoRow : OpenClaim := { program := "ytepphoncljlkoaa", sum := "9a238054dd976b2cafa86dd8034fc8ef2206729bce9a04a900bad8533a9f3196", func := "astragal/astragallaw02.LoadPuts", spec := "loadPuts", apart := false, narrowed := true }
def LoadPutsUptoSaid : Prop := loadPutsUptoRow.holds Try.pinned (OpenSpec.upto loadPutsSpec)

/-- 'astragallaw02.LoadTurns', WHERE WHAT IT READS IS OF BULK AT MOST 1048576: true; the input reads as it did. -/
def loadTurnsUptoRow : OpenClaim := { program := "ytepphoncljlkoaa", sum := "9a238054dd976b2cafa86dd8034fc8ef2206729bce9a04a900bad8533a9f3196", func := "astragal/astragallaw02.LoadTurns", spec := "loadTurns", apart := false, narrowed := true }
def LoadTurnsUptoSaid : Prop := loadTurnsUptoRow.holds Try.pinned (OpenSpec.upto loadTurnsSpec)

/-- 'astragallaw02.LoadHexes', WHERE WHAT IT READS IS OF BULK AT MOST 1048576: true; the input reads as it did. -/
def loadHexesUptoRow : OpenClaim := { program := "ytepphoncljlkoaa", sum := "9a238054dd976b2cafa86dd8034fc8ef2206729bce9a04a900bad8533a9f3196", func := "astragal/astragallaw02.LoadHexes", spec := "loadHexes", apart := false, narrowed := true }
def LoadHexesUptoSaid : Prop := loadHexesUptoRow.holds Try.pinned (OpenSpec.upto loadHexesSpec)

end Rows
end Go.Proofs.Ytepphoncljlkoaa
