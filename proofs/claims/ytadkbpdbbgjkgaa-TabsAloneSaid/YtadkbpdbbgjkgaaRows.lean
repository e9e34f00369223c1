/-
  No cell of these rows narrows 'for every input' (looked for: loops, veiled, ifaces, maps, wideKeys, modest, calm, conditions, laid).
  DERIVED. THE GIVEN ROWS OF THIS SEAT. 11 by the template 'for every input the law returns true; each argument reads behind the call as it read before'; 0 by the template 'total and deterministic' (their statements: YtadkbpdbbgjkgaaTotals.lean).
  GIVEN WITH THE SEED: the statements are not yours to turn. If you find one false, say at which input.
  Laid BY PROGRAM, IN A SANDBOX (cutbox-rows.mjs): the forced cells as the released guide's own fill.sh prints them over the translation 70a23d8d4488e057… (all of the seat's roots in one cut). By AI agents, Wed Nov 11 2026. No macro, syntax, notation, axiom, sorry.
-/
import Derived.Test.YtadkbpdbbgjkgaaChecked
import GoSem.Claim
import GoSem.ClaimJoined
import GoSem.ClaimMapViews
import Derived.JoinedTies
import Derived.KernelRfl
namespace Go.Proofs.Ytadkbpdbbgjkgaa
/- THE CELL 'sum', in the pinned program and in every row, IS THE sha256 OF THE DUMP (.gsa) THAT YtadkbpdbbgjkgaaProg.lean LOADS. Nothing in Lean hashes anything: it is a label: what it is worth is what the hold of that sum in a sandbox is worth. -/
noncomputable def Try.pinned : Pinned := { name := "ytadkbpdbbgjkgaa", sum := "70a23d8d4488e057d87948a7d9b8257365001084e47fcf0c659ca98fe92fb942", checked := Try.checked }
namespace Rows
def none {H : Type} : Left H := { results := [], args := [] }

/-- 'astragallaw22.TabsSums': WHATEVER THE INPUT: true; the input reads as it did. -/
def tabsSumsSpec : ChangeSpec := { name := "tabsSums", fn := fun _ => fun
  | [d1, d2, d3, d4] => { results := [.lit (.bool true)], args := [d1, d2, d3, d4] }
  | _ => none }
def tabsSumsRow : OpenClaim := { program := "ytadkbpdbbgjkgaa", sum := "70a23d8d4488e057d87948a7d9b8257365001084e47fcf0c659ca98fe92fb942", func := "astragal/astragallaw22.TabsSums", spec := "tabsSums", apart := false }
def TabsSumsSaid : Prop := tabsSumsRow.holds Try.pinned (OpenSpec.ofChange tabsSumsSpec)

/-- ITS FALSE NEIGHBOUR: 'it returns false'. Refute it at one input. -/
def tabsSumsWrong : ChangeSpec := { name := "tabsSums", fn := fun _ => fun
  | [d1, d2, d3, d4] => { results := [.lit (.bool false)], args := [d1, d2, d3, d4] }
  | _ => none }
def TabsSumsWrongFalsely : Prop := tabsSumsRow.holds Try.pinned (OpenSpec.ofChange tabsSumsWrong)

/-- 'astragallaw22.TabsAims': WHATEVER THE INPUT: true; the input reads as it did. -/
def tabsAimsSpec : ChangeSpec := { name := "tabsAims", fn := fun _ => fun
  | [d1, d2, d3] => { results := [.lit (.bool true)], args := [d1, d2, d3] }
  | _ => none }
def tabsAimsRow : OpenClaim := { program := "ytadkbpdbbgjkgaa", sum := "70a23d8d4488e057d87948a7d9b8257365001084e47fcf0c659ca98fe92fb942", func := "astragal/astragallaw22.TabsAims", spec := "tabsAims", apart := false }
def TabsAimsSaid : Prop := tabsAimsRow.holds Try.pinned (OpenSpec.ofChange tabsAimsSpec)

/-- ITS FALSE NEIGHBOUR: 'it returns false'. Refute it at one input. -/
def tabsAimsWrong : ChangeSpec := { name := "tabsAims", fn := fun _ => fun
  | [d1, d2, d3] => { results := [.lit (.bool false)], args := [d1, d2, d3] }
  | _ => none }
def TabsAimsWrongFalsely : Prop := tabsAimsRow.holds Try.pinned (OpenSpec.ofChange tabsAimsWrong)

/-- 'astragallaw22.TabsAlone': WHATEVER THE INPUT: true; the input reads as it did. -/
def tabsAloneSpec : ChangeSpec := { name := "tabsAlone", fn := fun _ => fun
  | [d1, d2, d3, d4] => { results := [.lit (.bool true)], args := [d1, d2, d3, d4] }
  | _ => none }
def tabsAloneRow : OpenClaim := { program := "ytadkbpdbbgjkgaa", sum := "70a23d8d4488e057d87948a7d9b8257365001084e47fcf0c659ca98fe92fb942", func := "astragal/astragallaw22.TabsAlone", spec := "tabsAlone", apart := false }
def TabsAloneSaid : Prop := tabsAloneRow.holds Try.pinned (OpenSpec.ofChange tabsAloneSpec)

/-- ITS FALSE NEIGHBOUR: 'it returns false'. Refute it at one input. -/
def tabsAloneWrong : ChangeSpec := { name := "tabsAlone", fn := fun _ => fun
  | [d1, d2, d3, d4] => { results := [.lit (.bool false)], args := [d1, d2, d3, d4] }
  | _ => none }
def TabsAloneWrongFalsely : Prop := tabsAloneRow.holds Try.pinned (OpenSpec.ofChange tabsAloneWrong)

/-- 'astragallaw22.TabsEvals': WHATEVER THE INPUT: true; the input reads as it did. -/
def tabsEvalsSpec : ChangeSpec := { name := "tabsEvals", fn := fun _ => fun
  | [d1, d2, d3] => { results := [.lit (.bool true)], args := [d1, d2, d3] }
  | _ => none }
def tabsEvalsRow : OpenClaim := { program := "ytadkbpdbbgjkgaa", sum := "70a23d8d4488e057d87948a7d9b8257365001084e47fcf0c659ca98fe92fb942", func := "astragal/astragallaw22.TabsEvals", spec := "tabsEvals", apart := false }
def TabsEvalsSaid : Prop := tabsEvalsRow.holds Try.pinned (OpenSpec.ofChange tabsEvalsSpec)

/-- ITS FALSE NEIGHBOUR: 'it returns false'. Refute it at one input. -/
def tabsEvalsWrong : ChangeSpec := { name := "tabsEvals", fn := fun _ => fun
  | [d1, d2, d3] => { results := [.lit (.bool false)], args := [d1, d2, d3] }
  | _ => none }
def TabsEvalsWrongFalsely : Prop := tabsEvalsRow.holds Try.pinned (OpenSpec.ofChange tabsEvalsWrong)

/-- 'astragallaw22.TabsShifts': WHATEVER THE INPUT: true; the input reads as it did. -/
def tabsShiftsSpec : ChangeSpec := { name := "tabsShifts", fn := fun _ => fun
  | [d1, d2, d3, d4] => { results := [.lit (.bool true)], args := [d1, d2, d3, d4] }
  | _ => none }
def tabsShiftsRow : OpenClaim := { program := "ytadkbpdbbgjkgaa", sum := "70a23d8d4488e057d87948a7d9b8257365001084e47fcf0c659ca98fe92fb942", func := "astragal/astragallaw22.TabsShifts", spec := "tabsShifts", apart := false }
def TabsShiftsSaid : Prop := tabsShiftsRow.holds Try.pinned (OpenSpec.ofChange tabsShiftsSpec)

/-- ITS FALSE NEIGHBOUR: 'it returns false'. Refute it at one input. -/
def tabsShiftsWrong : ChangeSpec := { name := "tabsShifts", fn := fun _ => fun
  | [d1, d2, d3, d4] => { results := [.lit (.bool false)], args := [d1, d2, d3, d4] }
  | _ => none }
def TabsShiftsWrongFalsely : Prop := tabsShiftsRow.holds Try.pinned (OpenSpec.ofChange tabsShiftsWrong)

/-- 'astragallaw23.TwistTurns': WHATEVER THE INPUT: true; the input reads as it did. -/
def twistTurnsSpec : ChangeSpec := { name := "twistTurns", fn := fun _ => fun
  | [d1, d2, d3] => { results := [.lit (.bool true)], args := [d1, d2, d3] }
  | _ => none }
def twistTurnsRow : OpenClaim := { program := "ytadkbpdbbgjkgaa", sum := "70a23d8d4488e057d87948a7d9b8257365001084e47fcf0c659ca98fe92fb942", func := "astragal/astragallaw23.TwistTurns", spec := "twistTurns", unfollowed := true, recurses := true, apart := false }
def TwistTurnsSaid : Prop := twistTurnsRow.holds Try.pinned (OpenSpec.ofChange twistTurnsSpec)

/-- ITS FALSE NEIGHBOUR: 'it returns false'. Refute it at one input. -/
def twistTurnsWrong : ChangeSpec := { name := "twistTurns", fn := fun _ => fun
  | [d1, d2, d3] => { results := [.lit (.bool false)], args := [d1, d2, d3] }
  | _ => none }
def TwistTurnsWrongFalsely : Prop := twistTurnsRow.holds Try.pinned (OpenSpec.ofChange twistTurnsWrong)

/-- 'astragallaw23.TwistEvals': WHATEVER THE INPUT: true; the input reads as it did. -/
def twistEvalsSpec : ChangeSpec := { name := "twistEvals", fn := fun _ => fun
  | [d1, d2, d3] => { results := [.lit (.bool true)], args := [d1, d2, d3] }
  | _ => none }
def twistEvalsRow : OpenClaim := { program := "ytadkbpdbbgjkgaa", sum := "70a23d8d4488e057d87948a7d9b8257365001084e47fcf0c659ca98fe92fb942", func := "astragal/astragallaw23.TwistEvals", spec := "twistEvals", unfollowed := true, recurses := true, apart := false }
def TwistEvalsSaid : Prop := twistEvalsRow.holds Try.pinned (OpenSpec.ofChange twistEvalsSpec)

/-- ITS FALSE NEIGHBOUR: 'it returns false'. Refute it at one input. -/
def twistEvalsWrong : ChangeSpec := { name := "twistEvals", fn := fun _ => fun
  | [d1, d2, d3] => { results := [.lit (.bool false)], args := [d1, d2, d3] }
  | _ => none }
def TwistEvalsWrongFalsely : Prop := twistEvalsRow.holds Try.pinned (OpenSpec.ofChange twistEvalsWrong)

/-- 'astragallaw23.TwistShifts': WHATEVER THE INPUT: true; the input reads as it did. -/
def twistShiftsSpec : ChangeSpec := { name := "twistShifts", fn := fun _ => fun
  | [d1, d2, d3, d4] => { results := [.lit (.bool true)], args := [d1, d2, d3, d4] }
  | _ => none }
def twistShiftsRow : OpenClaim := { program := "ytadkbpdbbgjkgaa", sum := "70a23d8d4488e057d87948a7d9b8257365001084e47fcf0c659ca98fe92fb942", func := "astragal/astragallaw23.TwistShifts", spec := "twistShifts", unfollowed := true, recurses := true, apart := false }
def TwistShiftsSaid : Prop := twistShiftsRow.holds Try.pinned (OpenSpec.ofChange twistShiftsSpec)

/-- ITS FALSE NEIGHBOUR: 'it returns false'. Refute it at one input. -/
def twistShiftsWrong : ChangeSpec := { name := "twistShifts", fn := fun _ => fun
  | [d1, d2, d3, d4] => { results := [.lit (.bool false)], args := [d1, d2, d3, d4] }
  | _ => none }
def TwistShiftsWrongFalsely : Prop := twistShiftsRow.holds Try.pinned (OpenSpec.ofChange twistShiftsWrong)

/-- 'astragallaw24.MixedRows': WHATEVER THE INPUT: true; the input reads as it did. -/
def mixedRowsSpec : ChangeSpec := { name := "mixedRows", fn := fun _ => fun
  | [d1, d2, d3] => { results := [.lit (.bool true)], args := [d1, d2, d3] }
  | _ => none }
def mixedRowsRow : OpenClaim := { program := "ytadkbpdbbgjkgaa", sum := "70a23d8d4488e057d87948a7d9b8257365001084e47fcf0c659ca98fe92fb942", func := "astragal/astragallaw24.MixedRows", spec := "mixedRows", unfollowed := true, recurses := true, apart := false }
def MixedRowsSaid : Prop := mixedRowsRow.holds Try.pinned (OpenSpec.ofChange mixedRowsSpec)

/-- ITS FALSE NEIGHBOUR: 'it returns false'. Refute it at one input. -/
def mixedRowsWrong : ChangeSpec := { name := "mixedRows", fn := fun _ => fun
  | [d1, d2, d3] => { results := [.lit (.bool false)], args := [d1, d2, d3] }
  | _ => none }
def MixedRowsWrongFalsely : Prop := mixedRowsRow.holds Try.pinned (OpenSpec.ofChange mixedRowsWrong)

/-- 'astragallaw24.MixedEvals': WHATEVER THE INPUT: true; the input reads as it did. -/
def mixedEvalsSpec : ChangeSpec := { name := "mixedEvals", fn := fun _ => fun
  | [d1, d2, d3] => { results := [.lit (.bool true)], args := [d1, d2, d3] }
  | _ => none }
def mixedEvalsRow : OpenClaim := { program := "ytadkbpdbbgjkgaa", sum := "70a23d8d4488e057d87948a7d9b8257365001084e47fcf0c659ca98fe92fb942", func := "astragal/astragallaw24.MixedEvals", spec := "mixedEvals", unfollowed := true, recurses := true, apart := false }
def MixedEvalsSaid : Prop := mixedEvalsRow.holds Try.pinned (OpenSpec.ofChange mixedEvalsSpec)

/-- ITS FALSE NEIGHBOUR: 'it returns false'. Refute it at one input. -/
def mixedEvalsWrong : ChangeSpec := { name := "mixedEvals", fn := fun _ => fun
  | [d1, d2, d3] => { results := [.lit (.bool false)], args := [d1, d2, d3] }
  | _ => none }
def MixedEvalsWrongFalsely : Prop := mixedEvalsRow.holds Try.pinned (OpenSpec.ofChange mixedEvalsWrong)

/-- 'astragallaw24.MixedShifts': WHATEVER THE INPUT: true; the input reads as it did. -/
def mixedShiftsSpec : ChangeSpec := { name := "mixedShifts", fn := fun _ => fun
  | [d1, d2, d3, d4] => { results := [.lit (.bool true)], args := [d1, d2, d3, d4] }
  | _ => none }
def mixedShiftsRow : OpenClaim := { program := "ytadkbpdbbgjkgaa", sum := "70a23d8d4488e057d87948a7d9b8257365001084e47fcf0c659ca98fe92fb942", func := "astragal/astragallaw24.MixedShifts", spec := "mixedShifts", unfollowed := true, recurses := true, apart := false }
def MixedShiftsSaid : Prop := mixedShiftsRow.holds Try.pinned (OpenSpec.ofChange mixedShiftsSpec)

/-- ITS FALSE NEIGHBOUR: 'it returns false'. Refute it at one input. -/
def mixedShiftsWrong : ChangeSpec := { name := "mixedShifts", fn := fun _ => fun
  | [d1, d2, d3, d4] => { results := [.lit (.bool false)], args := [d1, d2, d3, d4] }
  | _ => none }
def MixedShiftsWrongFalsely : Prop := mixedShiftsRow.holds Try.pinned (OpenSpec.ofChange mixedShiftsWrong)

/- THE SECOND FORM. 'bulk': how many values and letters a reading holds, each counted each time it is reached (what is shared counts as often as it is met; a slice's spare places count too). A statement '..UptoSaid' is the law's where the arguments, and the package variables that the reading takes, are together of bulk at most 1048576: NARROWER than '..Said'. Prove '..Said' where nothing that the law and all that it calls make is longer than what came in: it says more and counts as full. Else prove '..UptoSaid'. A law counts once. -/
mutual
def uptoBulk {H : Type} : DataW H → Nat
  | .lit (.string bytes) => bytes.length + 1
  | .lit _ => 1
  | .nil => 1
  | .ptr d => uptoBulk d + 1
  | .slice elems spare => uptoBulkAll elems + uptoBulkAll spare + 1
  | .agg parts => uptoBulkAll parts + 1
  | .iface _ d => uptoBulk d + 1
  | .map entries => uptoBulkEntries entries + 1
  | .held _ => 1
def uptoBulkAll {H : Type} : List (DataW H) → Nat
  | [] => 0
  | d :: r => uptoBulk d + uptoBulkAll r
def uptoBulkEntries {H : Type} : List (Lit × DataW H) → Nat
  | [] => 0
  | x :: r => uptoBulkEntry x + uptoBulkEntries r
def uptoBulkEntry {H : Type} : Lit × DataW H → Nat
  | (.string bytes, d) => bytes.length + uptoBulk d + 1
  | (_, d) => uptoBulk d + 1
 end
def uptoSmall : (H : Type) → List (DataW H) → Bool := fun _ ds => decide (uptoBulkAll ds ≤ 1048576)
def OpenSpec.upto (s : _root_.Go.ChangeSpec) : _root_.Go.OpenSpec := { _root_.Go.OpenSpec.ofChange s with cond := some uptoSmall }

/-- 'astragallaw22.TabsSums', WHERE WHAT IT READS IS OF BULK AT MOST 1048576: true; the input reads as it did. -/
def tabsSumsUptoRow : OpenClaim := { program := "ytadkbpdbbgjkgaa", sum := "70a23d8d4488e057d87948a7d9b8257365001084e47fcf0c659ca98fe92fb942", func := "astragal/astragallaw22.TabsSums", spec := "tabsSums", apart := false, narrowed := true }
def TabsSumsUptoSaid : Prop := tabsSumsUptoRow.holds Try.pinned (OpenSpec.upto tabsSumsSpec)

/-- 'astragallaw22.TabsAims', WHERE WHAT IT READS IS OF BULK AT MOST 1048576: true; the input reads as it did. -/
def tabsAimsUptoRow : OpenClaim := { program := "ytadkbpdbbgjkgaa", sum := "70a23d8d4488e057d87948a7d9b8257365001084e47fcf0c659ca98fe92fb942", func := "astragal/astragallaw22.TabsAims", spec := "tabsAims", apart := false, narrowed := true }
def TabsAimsUptoSaid : Prop := tabsAimsUptoRow.holds Try.pinned (OpenSpec.upto tabsAimsSpec)

/-- 'astragallaw22.TabsAlone', WHERE WHAT IT READS IS OF BULK AT MOST 1048576: true; the input reads as it did. -/
def tabsAloneUptoRow : OpenClaim := { program := "ytadkbpdbbgjkgaa", sum := "70a23d8d4488e057d87948a7d9b8257365001084e47fcf0c659ca98fe92fb942", func := "astragal/astragallaw22.TabsAlone", spec := "tabsAlone", apart := false, narrowed := true }
def TabsAloneUptoSaid : Prop := tabsAloneUptoRow.holds Try.pinned (OpenSpec.upto tabsAloneSpec)

/-- 'astragallaw22.TabsEvals', WHERE WHAT IT READS IS OF BULK AT MOST 1048576: true; the input reads as it did. -/
def tabsEvalsUptoRow : OpenClaim := { program := "ytadkbpdbbgjkgaa", sum := "70a23d8d4488e057d87948a7d9b8257365001084e47fcf0c659ca98fe92fb942", func := "astragal/astragallaw22.TabsEvals", spec := "tabsEvals", apart := false, narrowed := true }
def TabsEvalsUptoSaid : Prop := tabsEvalsUptoRow.holds Try.pinned (OpenSpec.upto tabsEvalsSpec)

/-- 'astragallaw22.TabsShifts', WHERE WHAT IT READS IS OF BULK AT MOST 1048576: true; the input reads as it did. -/
def tabsShiftsUptoRow : OpenClaim := { program := "ytadkbpdbbgjkgaa", sum := "70a23d8d4488e057d87948a7d9b8257365001084e47fcf0c659ca98fe92fb942", func := "astragal/astragallaw22.TabsShifts", spec := "tabsShifts", apart := false, narrowed := true }
def TabsShiftsUptoSaid : Prop := tabsShiftsUptoRow.holds Try.pinned (OpenSpec.upto tabsShiftsSpec)

/-- 'astragallaw23.TwistTurns', WHERE WHAT IT READS IS OF BULK AT MOST 1048576: true; the input reads as it did. -/
def twistTurnsUptoRow : OpenClaim := { program := "ytadkbpdbbgjkgaa", sum := "70a23d8d4488e057d87948a7d9b8257365001084e47fcf0c659ca98fe92fb942", func := "astragal/astragallaw23.TwistTurns", spec := "twistTurns", unfollowed := true, recurses := true, apart := false, narrowed := true }
def TwistTurnsUptoSaid : Prop := twistTurnsUptoRow.holds Try.pinned (OpenSpec.upto twistTurnsSpec)

/-- 'astragallaw23.TwistEvals', WHERE WHAT IT READS IS OF BULK AT MOST 1048576: true; the input reads as it did. -/
def twistEvalsUptoRow : OpenClaim := { program := "ytadkbpdbbgjkgaa", sum := "70a23d8d4488e057d87948a7d9b8257365001084e47fcf0c659ca98fe92fb942", func := "astragal/astragallaw23.TwistEvals", spec := "twistEvals", unfollowed := true, recurses := true, apart := false, narrowed := true }
def TwistEvalsUptoSaid : Prop := twistEvalsUptoRow.holds Try.pinned (OpenSpec.upto twistEvalsSpec)

/-- 'astragallaw23.TwistShifts', WHERE WHAT IT READS IS OF BULK AT MOST 1048576: true; the input reads as it did. -/
def twistShiftsUptoRow : OpenClaim := { program := "ytadkbpdbbgjkgaa", sum := "70a23d8d4488e057d87948a7d9b8257365001084e47fcf0c659ca98fe92fb942", func := "astragal/astragallaw23.TwistShifts", spec := "twistShifts", unfollowed := true, recurses := true, apart := false, narrowed := true }
def TwistShiftsUptoSaid : Prop := twistShiftsUptoRow.holds Try.pinned (OpenSpec.upto twistShiftsSpec)

/-- 'astragallaw24.MixedRows', WHERE WHAT IT READS IS OF BULK AT MOST 1048576: true; the input reads as it did. -/
def mixedRowsUptoRow : OpenClaim := { program := "ytadkbpdbbgjkgaa", sum := "70a23d8d4488e057d87948a7d9b8257365001084e47fcf0c659ca98fe92fb942", func := "astragal/astragallaw24.MixedRows", spec := "mixedRows", unfollowed := true, recurses := true, apart := false, narrowed := true }
def MixedRowsUptoSaid : Prop := mixedRowsUptoRow.holds Try.pinned (OpenSpec.upto mixedRowsSpec)

/-- 'astragallaw24.MixedEvals', WHERE WHAT IT READS IS OF BULK AT MOST 1048576: true; the input reads as it did. -/
def mixedEvalsUptoRow : OpenClaim := { program := "ytadkbpdbbgjkgaa", sum := "70a23d8d4488e057d87948a7d9b8257365001084e47fcf0c659ca98fe92fb942", func := "astragal/astragallaw24.MixedEvals", spec := "mixedEvals", unfollowed := true, recurses := true, apart := false, narrowed := true }
def MixedEvalsUptoSaid : Prop := mixedEvalsUptoRow.holds Try.pinned (OpenSpec.upto mixedEvalsSpec)

/-- 'astragallaw24.MixedShifts', WHERE WHAT IT READS IS OF BULK AT MOST 1048576: true; the input reads as it did. -/
def mixedShiftsUptoRow : OpenClaim := { program := "ytadkbpdbbgjkgaa", sum := "70a23d8d4488e057d87948a7d9b8257365001084e47fcf0c659ca98fe92fb942", func := "astragal/astragallaw24.MixedShifts", spec := "mixedShifts", unfollowed := true, recurses := true, apart := false, narrowed := true }
def MixedShiftsUptoSaid : Prop := mixedShiftsUptoRow.holds Try.pinned (OpenSpec.upto mixedShiftsSpec)

end Rows
end Go.Proofs.Ytadkbpdbbgjkgaa
