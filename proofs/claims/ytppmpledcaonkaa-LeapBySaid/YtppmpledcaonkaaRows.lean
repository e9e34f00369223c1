/-
  No cell of these rows narrows 'for every input' (looked for: loops, veiled, ifaces, maps, wideKeys, modest, calm, conditions, laid).
  DERIVED. THE GIVEN ROWS OF THIS SEAT. 11 by the template 'for every input the law returns true; each argument reads behind the call as it read before'; 0 by the template 'total and deterministic' (their statements: YtppmpledcaonkaaTotals.lean).
  GIVEN WITH THE SEED: the statements are not yours to turn. If you find one false, say at which input.
  Laid BY PROGRAM, IN A SANDBOX (cutbox-rows.mjs): the forced cells as the released guide's own fill.sh prints them over the translation 414cae4378d7831b… (all of the seat's roots in one cut). By AI agents, Wed Nov 11 2026. No macro, syntax, notation, axiom, sorry.
-/
import Derived.Test.YtppmpledcaonkaaChecked
import GoSem.Claim
import GoSem.ClaimJoined
import GoSem.ClaimMapViews
import Derived.JoinedTies
import Derived.KernelRfl
namespace Go.Proofs.Ytppmpledcaonkaa
/- THE CELL 'sum', in the pinned program and in every row, IS THE sha256 OF THE DUMP (.gsa) THAT YtppmpledcaonkaaProg.lean LOADS. Nothing in Lean hashes anything: it is a label: what it is worth is what the hold of that sum in a sandbox is worth. -/
noncomputable def Try.pinned : Pinned := { name := "ytppmpledcaonkaa", sum := "414cae4378d7831be41c8691415b2d8e5330897c94ea8ea6f6d71f1bbf67917f", checked := Try.checked }
namespace Rows
def none {H : Type} : Left H := { results := [], args := [] }

/-- 'astragallaw06.Gf2Tells': WHATEVER THE INPUT: true; the input reads as it did. -/
def gf2TellsSpec : ChangeSpec := { name := "gf2Tells", fn := fun _ => fun
  | [d1, d2] => { results := [.lit (.bool true)], args := [d1, d2] }
  | _ => none }
def gf2TellsRow : OpenClaim := { program := "ytppmpledcaonkaa", sum := "414cae4378d7831be41c8691415b2d8e5330897c94ea8ea6f6d71f1bbf67917f", func := "astragal/astragallaw06.Gf2Tells", spec := "gf2Tells", apart := false }
def Gf2TellsSaid : Prop := gf2TellsRow.holds Try.pinned (OpenSpec.ofChange gf2TellsSpec)

/-- ITS FALSE NEIGHBOUR: 'it returns false'. Refute it at one input. -/
def gf2TellsWrong : ChangeSpec := { name := "gf2Tells", fn := fun _ => fun
  | [d1, d2] => { results := [.lit (.bool false)], args := [d1, d2] }
  | _ => none }
def Gf2TellsWrongFalsely : Prop := gf2TellsRow.holds Try.pinned (OpenSpec.ofChange gf2TellsWrong)

/-- 'astragallaw06.Gf2Reckons': WHATEVER THE INPUT: true; the input reads as it did. -/
def gf2ReckonsSpec : ChangeSpec := { name := "gf2Reckons", fn := fun _ => fun
  | [d1, d2] => { results := [.lit (.bool true)], args := [d1, d2] }
  | _ => none }
def gf2ReckonsRow : OpenClaim := { program := "ytppmpledcaonkaa", sum := "414cae4378d7831be41c8691415b2d8e5330897c94ea8ea6f6d71f1bbf67917f", func := "astragal/astragallaw06.Gf2Reckons", spec := "gf2Reckons", apart := false }
def Gf2ReckonsSaid : Prop := gf2ReckonsRow.holds Try.pinned (OpenSpec.ofChange gf2ReckonsSpec)

/-- ITS FALSE NEIGHBOUR: 'it returns false'. Refute it at one input. -/
def gf2ReckonsWrong : ChangeSpec := { name := "gf2Reckons", fn := fun _ => fun
  | [d1, d2] => { results := [.lit (.bool false)], args := [d1, d2] }
  | _ => none }
def Gf2ReckonsWrongFalsely : Prop := gf2ReckonsRow.holds Try.pinned (OpenSpec.ofChange gf2ReckonsWrong)

/-- 'astragallaw06.Gf2Divides': WHATEVER THE INPUT: true; the input reads as it did. -/
def gf2DividesSpec : ChangeSpec := { name := "gf2Divides", fn := fun _ => fun
  | [d1, d2] => { results := [.lit (.bool true)], args := [d1, d2] }
  | _ => none }
def gf2DividesRow : OpenClaim := { program := "ytppmpledcaonkaa", sum := "414cae4378d7831be41c8691415b2d8e5330897c94ea8ea6f6d71f1bbf67917f", func := "astragal/astragallaw06.Gf2Divides", spec := "gf2Divides", apart := false }
def Gf2DividesSaid : Prop := gf2DividesRow.holds Try.pinned (OpenSpec.ofChange gf2DividesSpec)

/-- ITS FALSE NEIGHBOUR: 'it returns false'. Refute it at one input. -/
def gf2DividesWrong : ChangeSpec := { name := "gf2Divides", fn := fun _ => fun
  | [d1, d2] => { results := [.lit (.bool false)], args := [d1, d2] }
  | _ => none }
def Gf2DividesWrongFalsely : Prop := gf2DividesRow.holds Try.pinned (OpenSpec.ofChange gf2DividesWrong)

/-- 'astragallaw06.Gf2Common': WHATEVER THE INPUT: true; the input reads as it did. -/
def gf2CommonSpec : ChangeSpec := { name := "gf2Common", fn := fun _ => fun
  | [d1, d2, d3] => { results := [.lit (.bool true)], args := [d1, d2, d3] }
  | _ => none }
def gf2CommonRow : OpenClaim := { program := "ytppmpledcaonkaa", sum := "414cae4378d7831be41c8691415b2d8e5330897c94ea8ea6f6d71f1bbf67917f", func := "astragal/astragallaw06.Gf2Common", spec := "gf2Common", apart := false }
def Gf2CommonSaid : Prop := gf2CommonRow.holds Try.pinned (OpenSpec.ofChange gf2CommonSpec)

/-- ITS FALSE NEIGHBOUR: 'it returns false'. Refute it at one input. -/
def gf2CommonWrong : ChangeSpec := { name := "gf2Common", fn := fun _ => fun
  | [d1, d2, d3] => { results := [.lit (.bool false)], args := [d1, d2, d3] }
  | _ => none }
def Gf2CommonWrongFalsely : Prop := gf2CommonRow.holds Try.pinned (OpenSpec.ofChange gf2CommonWrong)

/-- 'astragallaw06.Gf2Powers': WHATEVER THE INPUT: true; the input reads as it did. -/
def gf2PowersSpec : ChangeSpec := { name := "gf2Powers", fn := fun _ => fun
  | [d1, d2, d3, d4] => { results := [.lit (.bool true)], args := [d1, d2, d3, d4] }
  | _ => none }
def gf2PowersRow : OpenClaim := { program := "ytppmpledcaonkaa", sum := "414cae4378d7831be41c8691415b2d8e5330897c94ea8ea6f6d71f1bbf67917f", func := "astragal/astragallaw06.Gf2Powers", spec := "gf2Powers", inPlace := ["math/bits.Add64"], apart := false }
def Gf2PowersSaid : Prop := gf2PowersRow.holds Try.pinned (OpenSpec.ofChange gf2PowersSpec)

/-- ITS FALSE NEIGHBOUR: 'it returns false'. Refute it at one input. -/
def gf2PowersWrong : ChangeSpec := { name := "gf2Powers", fn := fun _ => fun
  | [d1, d2, d3, d4] => { results := [.lit (.bool false)], args := [d1, d2, d3, d4] }
  | _ => none }
def Gf2PowersWrongFalsely : Prop := gf2PowersRow.holds Try.pinned (OpenSpec.ofChange gf2PowersWrong)

/-- 'astragallaw12.LeapBy': WHATEVER THE INPUT: true; the input reads as it did. -/
def leapBySpec : ChangeSpec := { name := "leapBy", fn := fun _ => fun
  | [d1, d2, d3, d4] => { results := [.lit (.bool true)], args := [d1, d2, d3, d4] }
  | _ => none }
def leapByRow : OpenClaim := { program := "ytppmpledcaonkaa", sum := "414cae4378d7831be41c8691415b2d8e5330897c94ea8ea6f6d71f1bbf67917f", func := "astragal/astragallaw12.LeapBy", spec := "leapBy", unfollowed := true, recurses := true, apart := false }
def LeapBySaid : Prop := leapByRow.holds Try.pinned (OpenSpec.ofChange leapBySpec)

/-- ITS FALSE NEIGHBOUR: 'it returns false'. Refute it at one input. -/
def leapByWrong : ChangeSpec := { name := "leapBy", fn := fun _ => fun
  | [d1, d2, d3, d4] => { results := [.lit (.bool false)], args := [d1, d2, d3, d4] }
  | _ => none }
def LeapByWrongFalsely : Prop := leapByRow.holds Try.pinned (OpenSpec.ofChange leapByWrong)

/-- 'astragallaw12.LeapSteps': WHATEVER THE INPUT: true; the input reads as it did. -/
def leapStepsSpec : ChangeSpec := { name := "leapSteps", fn := fun _ => fun
  | [d1, d2, d3, d4] => { results := [.lit (.bool true)], args := [d1, d2, d3, d4] }
  | _ => none }
def leapStepsRow : OpenClaim := { program := "ytppmpledcaonkaa", sum := "414cae4378d7831be41c8691415b2d8e5330897c94ea8ea6f6d71f1bbf67917f", func := "astragal/astragallaw12.LeapSteps", spec := "leapSteps", unfollowed := true, recurses := true, apart := false }
def LeapStepsSaid : Prop := leapStepsRow.holds Try.pinned (OpenSpec.ofChange leapStepsSpec)

/-- ITS FALSE NEIGHBOUR: 'it returns false'. Refute it at one input. -/
def leapStepsWrong : ChangeSpec := { name := "leapSteps", fn := fun _ => fun
  | [d1, d2, d3, d4] => { results := [.lit (.bool false)], args := [d1, d2, d3, d4] }
  | _ => none }
def LeapStepsWrongFalsely : Prop := leapStepsRow.holds Try.pinned (OpenSpec.ofChange leapStepsWrong)

/-- 'astragallaw12.LeapAdds': WHATEVER THE INPUT: true; the input reads as it did. -/
def leapAddsSpec : ChangeSpec := { name := "leapAdds", fn := fun _ => fun
  | [d1, d2, d3, d4, d5] => { results := [.lit (.bool true)], args := [d1, d2, d3, d4, d5] }
  | _ => none }
def leapAddsRow : OpenClaim := { program := "ytppmpledcaonkaa", sum := "414cae4378d7831be41c8691415b2d8e5330897c94ea8ea6f6d71f1bbf67917f", func := "astragal/astragallaw12.LeapAdds", spec := "leapAdds", inPlace := ["math/bits.Add64"], unfollowed := true, recurses := true, apart := false }
def LeapAddsSaid : Prop := leapAddsRow.holds Try.pinned (OpenSpec.ofChange leapAddsSpec)

/-- ITS FALSE NEIGHBOUR: 'it returns false'. Refute it at one input. -/
def leapAddsWrong : ChangeSpec := { name := "leapAdds", fn := fun _ => fun
  | [d1, d2, d3, d4, d5] => { results := [.lit (.bool false)], args := [d1, d2, d3, d4, d5] }
  | _ => none }
def LeapAddsWrongFalsely : Prop := leapAddsRow.holds Try.pinned (OpenSpec.ofChange leapAddsWrong)

/-- 'astragallaw12.LeapFixed': WHATEVER THE INPUT: true; the input reads as it did. -/
def leapFixedSpec : ChangeSpec := { name := "leapFixed", fn := fun _ => fun
  | [d1, d2, d3, d4] => { results := [.lit (.bool true)], args := [d1, d2, d3, d4] }
  | _ => none }
def leapFixedRow : OpenClaim := { program := "ytppmpledcaonkaa", sum := "414cae4378d7831be41c8691415b2d8e5330897c94ea8ea6f6d71f1bbf67917f", func := "astragal/astragallaw12.LeapFixed", spec := "leapFixed", unfollowed := true, recurses := true, apart := false }
def LeapFixedSaid : Prop := leapFixedRow.holds Try.pinned (OpenSpec.ofChange leapFixedSpec)

/-- ITS FALSE NEIGHBOUR: 'it returns false'. Refute it at one input. -/
def leapFixedWrong : ChangeSpec := { name := "leapFixed", fn := fun _ => fun
  | [d1, d2, d3, d4] => { results := [.lit (.bool false)], args := [d1, d2, d3, d4] }
  | _ => none }
def LeapFixedWrongFalsely : Prop := leapFixedRow.holds Try.pinned (OpenSpec.ofChange leapFixedWrong)

/-- 'astragallaw12.LeapRound': WHATEVER THE INPUT: true; the input reads as it did. -/
def leapRoundSpec : ChangeSpec := { name := "leapRound", fn := fun _ => fun
  | [d1, d2, d3, d4] => { results := [.lit (.bool true)], args := [d1, d2, d3, d4] }
  | _ => none }
def leapRoundRow : OpenClaim := { program := "ytppmpledcaonkaa", sum := "414cae4378d7831be41c8691415b2d8e5330897c94ea8ea6f6d71f1bbf67917f", func := "astragal/astragallaw12.LeapRound", spec := "leapRound", inPlace := ["math/bits.Sub64"], unfollowed := true, recurses := true, apart := false }
def LeapRoundSaid : Prop := leapRoundRow.holds Try.pinned (OpenSpec.ofChange leapRoundSpec)

/-- ITS FALSE NEIGHBOUR: 'it returns false'. Refute it at one input. -/
def leapRoundWrong : ChangeSpec := { name := "leapRound", fn := fun _ => fun
  | [d1, d2, d3, d4] => { results := [.lit (.bool false)], args := [d1, d2, d3, d4] }
  | _ => none }
def LeapRoundWrongFalsely : Prop := leapRoundRow.holds Try.pinned (OpenSpec.ofChange leapRoundWrong)

/-- 'astragallaw12.LeapPeriod': WHATEVER THE INPUT: true; the input reads as it did. -/
def leapPeriodSpec : ChangeSpec := { name := "leapPeriod", fn := fun _ => fun
  | [d1, d2, d3, d4] => { results := [.lit (.bool true)], args := [d1, d2, d3, d4] }
  | _ => none }
def leapPeriodRow : OpenClaim := { program := "ytppmpledcaonkaa", sum := "414cae4378d7831be41c8691415b2d8e5330897c94ea8ea6f6d71f1bbf67917f", func := "astragal/astragallaw12.LeapPeriod", spec := "leapPeriod", inPlace := ["math/bits.Sub64"], unfollowed := true, recurses := true, apart := false }
def LeapPeriodSaid : Prop := leapPeriodRow.holds Try.pinned (OpenSpec.ofChange leapPeriodSpec)

/-- ITS FALSE NEIGHBOUR: 'it returns false'. Refute it at one input. -/
def leapPeriodWrong : ChangeSpec := { name := "leapPeriod", fn := fun _ => fun
  | [d1, d2, d3, d4] => { results := [.lit (.bool false)], args := [d1, d2, d3, d4] }
  | _ => none }
def LeapPeriodWrongFalsely : Prop := leapPeriodRow.holds Try.pinned (OpenSpec.ofChange leapPeriodWrong)

/- THE SECOND FORM. 'bulk': how many values and letters a reading holds, each counted each time it is reached (what is shared counts as often as it is met; a slice's spare places count too). A statement '..UptoSaid' is the law's where the arguments, and the package variables that the reading takes, are together of bulk at most 1048576: NARROWER than '..Said'. Prove '..Said' where nothing that the law and all that it calls make is longer than what came in: it says more and counts as full. Else prove '..UptoSaid'. A law counts once. -/
mutual
def uptoBulk {H : Type} : DataW H → Nat
  | .lit (.string bytes) => bytes.length + 1
  | .lit _ => 1
  | .nil => 1
  | .ptr d => uptoBulk d + 1
  | .slice elems spare => uptoBulkAll elems + uptoBulkAll spare + 1
  | .agg parts => uptoBulkAll parts + 1
  | .iface _ d => uptoBulk d + 1
  | .map entries => uptoBulkEntries entries + 1
  | .held _ => 1
def uptoBulkAll {H : Type} : List (DataW H) → Nat
  | [] => 0
  | d :: r => uptoBulk d + uptoBulkAll r
def uptoBulkEntries {H : Type} : List (Lit × DataW H) → Nat
  | [] => 0
  | x :: r => uptoBulkEntry x + uptoBulkEntries r
def uptoBulkEntry {H : Type} : Lit × DataW H → Nat
  | (.string bytes, d) => bytes.length + uptoBulk d + 1
  | (_, d) => uptoBulk d + 1
 end
def uptoSmall : (H : Type) → List (DataW H) → Bool := fun _ ds => decide (uptoBulkAll ds ≤ 1048576)
def OpenSpec.upto (s : _root_.Go.ChangeSpec) : _root_.Go.OpenSpec := { _root_.Go.OpenSpec.ofChange s with cond := some uptoSmall }

/-- 'astragallaw06.Gf2Tells', WHERE WHAT IT READS IS OF BULK AT MOST 1048576: true; the input reads as it did. -/
def gf2TellsUptoRow : OpenClaim := { program := "ytppmpledcaonkaa", sum := "414cae4378d7831be41c8691415b2d8e5330897c94ea8ea6f6d71f1bbf67917f", func := "astragal/astragallaw06.Gf2Tells", spec := "gf2Tells", apart := false, narrowed := true }
def Gf2TellsUptoSaid : Prop := gf2TellsUptoRow.holds Try.pinned (OpenSpec.upto gf2TellsSpec)

/-- 'astragallaw06.Gf2Reckons', WHERE WHAT IT READS IS OF BULK AT MOST 1048576: true; the input reads as it did. -/
def gf2ReckonsUptoRow : OpenClaim := { program := "ytppmpledcaonkaa", sum := "414cae4378d7831be41c8691415b2d8e5330897c94ea8ea6f6d71f1bbf67917f", func := "astragal/astragallaw06.Gf2Reckons", spec := "gf2Reckons", apart := false, narrowed := true }
def Gf2ReckonsUptoSaid : Prop := gf2ReckonsUptoRow.holds Try.pinned (OpenSpec.upto gf2ReckonsSpec)

/-- 'astragallaw06.Gf2Divides', WHERE WHAT IT READS IS OF BULK AT MOST 1048576: true; the input reads as it did. -/
def gf2DividesUptoRow : OpenClaim := { program := "ytppmpledcaonkaa", sum := "414cae4378d7831be41c8691415b2d8e5330897c94ea8ea6f6d71f1bbf67917f", func := "astragal/astragallaw06.Gf2Divides", spec := "gf2Divides", apart := false, narrowed := true }
def Gf2DividesUptoSaid : Prop := gf2DividesUptoRow.holds Try.pinned (OpenSpec.upto gf2DividesSpec)

/-- 'astragallaw06.Gf2Common', WHERE WHAT IT READS IS OF BULK AT MOST 1048576: true; the input reads as it did. -/
def gf2CommonUptoRow : OpenClaim := { program := "ytppmpledcaonkaa", sum := "414cae4378d7831be41c8691415b2d8e5330897c94ea8ea6f6d71f1bbf67917f", func := "astragal/astragallaw06.Gf2Common", spec := "gf2Common", apart := false, narrowed := true }
def Gf2CommonUptoSaid : Prop := gf2CommonUptoRow.holds Try.pinned (OpenSpec.upto gf2CommonSpec)

/-- 'astragallaw06.Gf2Powers', WHERE WHAT IT READS IS OF BULK AT MOST 1048576: true; the input reads as it did. -/
def gf2PowersUptoRow : OpenClaim := { program := "ytppmpledcaonkaa", sum := "414cae4378d7831be41c8691415b2d8e5330897c94ea8ea6f6d71f1bbf67917f", func := "astragal/astragallaw06.Gf2Powers", spec := "gf2Powers", inPlace := ["math/bits.Add64"], apart := false, narrowed := true }
def Gf2PowersUptoSaid : Prop := gf2PowersUptoRow.holds Try.pinned (OpenSpec.upto gf2PowersSpec)

/-- 'astragallaw12.LeapBy', WHERE WHAT IT READS IS OF BULK AT MOST 1048576: true; the input reads as it did. -/
def leapByUptoRow : OpenClaim := { program := "ytppmpledcaonkaa", sum := "414cae4378d7831be41c8691415b2d8e5330897c94ea8ea6f6d71f1bbf67917f", func := "astragal/astragallaw12.LeapBy", spec := "leapBy", unfollowed := true, recurses := true, apart := false, narrowed := true }
def LeapByUptoSaid : Prop := leapByUptoRow.holds Try.pinned (OpenSpec.upto leapBySpec)

/-- 'astragallaw12.LeapSteps', WHERE WHAT IT READS IS OF BULK AT MOST 1048576: true; the input reads as it did. -/
def leapStepsUptoRow : OpenClaim := { program := "ytppmpledcaonkaa", sum := "414cae4378d7831be41c8691415b2d8e5330897c94ea8ea6f6d71f1bbf67917f", func := "astragal/astragallaw12.LeapSteps", spec := "leapSteps", unfollowed := true, recurses := true, apart := false, narrowed := true }
def LeapStepsUptoSaid : Prop := leapStepsUptoRow.holds Try.pinned (OpenSpec.upto leapStepsSpec)

/-- 'astragallaw12.LeapAdds', WHERE WHAT IT READS IS OF BULK AT MOST 1048576: true; the input reads as it did. -/
def leapAddsUptoRow : OpenClaim := { program := "ytppmpledcaonkaa", sum := "414cae4378d7831be41c8691415b2d8e5330897c94ea8ea6f6d71f1bbf67917f", func := "astragal/astragallaw12.LeapAdds", spec := "leapAdds", inPlace := ["math/bits.Add64"], unfollowed := true, recurses := true, apart := false, narrowed := true }
def LeapAddsUptoSaid : Prop := leapAddsUptoRow.holds Try.pinned (OpenSpec.upto leapAddsSpec)

/-- 'astragallaw12.LeapFixed', WHERE WHAT IT READS IS OF BULK AT MOST 1048576: true; the input reads as it did. -/
def leapFixedUptoRow : OpenClaim := { program := "ytppmpledcaonkaa", sum := "414cae4378d7831be41c8691415b2d8e5330897c94ea8ea6f6d71f1bbf67917f", func := "astragal/astragallaw12.LeapFixed", spec := "leapFixed", unfollowed := true, recurses := true, apart := false, narrowed := true }
def LeapFixedUptoSaid : Prop := leapFixedUptoRow.holds Try.pinned (OpenSpec.upto leapFixedSpec)

/-- 'astragallaw12.LeapRound', WHERE WHAT IT READS IS OF BULK AT MOST 1048576: true; the input reads as it did. -/
def leapRoundUptoRow : OpenClaim := { program := "ytppmpledcaonkaa", sum := "414cae4378d7831be41c8691415b2d8e5330897c94ea8ea6f6d71f1bbf67917f", func := "astragal/astragallaw12.LeapRound", spec := "leapRound", inPlace := ["math/bits.Sub64"], unfollowed := true, recurses := true, apart := false, narrowed := true }
def LeapRoundUptoSaid : Prop := leapRoundUptoRow.holds Try.pinned (OpenSpec.upto leapRoundSpec)

/-- 'astragallaw12.LeapPeriod', WHERE WHAT IT READS IS OF BULK AT MOST 1048576: true; the input reads as it did. -/
def leapPeriodUptoRow : OpenClaim := { program := "ytppmpledcaonkaa", sum := "414cae4378d7831be41c8691415b2d8e5330897c94ea8ea6f6d71f1bbf67917f", func := "astragal/astragallaw12.LeapPeriod", spec := "leapPeriod", inPlace := ["math/bits.Sub64"], unfollowed := true, recurses := true, apart := false, narrowed := true }
def LeapPeriodUptoSaid : Prop := leapPeriodUptoRow.holds Try.pinned (OpenSpec.upto leapPeriodSpec)

end Rows
end Go.Proofs.Ytppmpledcaonkaa
