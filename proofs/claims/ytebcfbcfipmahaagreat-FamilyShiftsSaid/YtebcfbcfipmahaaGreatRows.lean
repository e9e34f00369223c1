/-
  No cell of these rows narrows 'for every input' (looked for: loops, veiled, ifaces, maps, wideKeys, modest, calm, conditions, laid).
  DERIVED. THE GIVEN ROWS OF THIS SEAT. 4 by the template 'for every input the law returns true; each argument reads behind the call as it read before'; 0 by the template 'total and deterministic' (their statements: YtebcfbcfipmahaaGreatTotals.lean).
  GIVEN WITH THE SEED: the statements are not yours to turn. If you find one false, say at which input.
  Laid BY PROGRAM, IN A SANDBOX (cutbox-rows.mjs): the forced cells as the released guide's own fill.sh prints them over the translation 814a370953af85a9… (all of the seat's roots in one cut). By AI agents, Wed Nov 11 2026. No macro, syntax, notation, axiom, sorry.
-/
import Derived.Test.YtebcfbcfipmahaaGreatChecked
import GoSem.Claim
import GoSem.ClaimJoined
import GoSem.ClaimMapViews
import Derived.JoinedTies
import Derived.KernelRfl
namespace Go.Proofs.YtebcfbcfipmahaaGreat
/- THE CELL 'sum', in the pinned program and in every row, IS THE sha256 OF THE DUMP (.gsa) THAT YtebcfbcfipmahaaGreatProg.lean LOADS. Nothing in Lean hashes anything: it is a label: what it is worth is what the hold of that sum in a sandbox is worth. -/
noncomputable def Tryz.pinned : Pinned := { name := "ytebcfbcfipmahaagreat", sum := "814a370953af85a9ff1c9198be44daf534f6fc9a7c746b7d5cffd4b6f7b364c9", checked := Tryz.checked }
namespace Rows
def none {H : Type} : Left H := { results := [], args := [] }

/-- 'astragallaw27.FamilyKinds': WHATEVER THE INPUT: true; the input reads as it did. -/
def familyKindsSpec : ChangeSpec := { name := "familyKinds", fn := fun _ => fun
  | [d] => { results := [.lit (.bool true)], args := [d] }
  | _ => none }
def familyKindsRow : OpenClaim := { program := "ytebcfbcfipmahaagreat", sum := "814a370953af85a9ff1c9198be44daf534f6fc9a7c746b7d5cffd4b6f7b364c9", func := "astragal/astragallaw27.FamilyKinds", spec := "familyKinds", inPlace := ["math/bits.Add64", "math/bits.Sub64"], unfollowed := true, recurses := true, apart := false }
def FamilyKindsSaid : Prop := familyKindsRow.holds Tryz.pinned (OpenSpec.ofChange familyKindsSpec)

/-- ITS FALSE NEIGHBOUR: 'it returns false'. Refute it at one input. -/
def familyKindsWrong : ChangeSpec := { name := "familyKinds", fn := fun _ => fun
  | [d] => { results := [.lit (.bool false)], args := [d] }
  | _ => none }
def FamilyKindsWrongFalsely : Prop := familyKindsRow.holds Tryz.pinned (OpenSpec.ofChange familyKindsWrong)

/-- 'astragallaw27.FamilyEvals': WHATEVER THE INPUT: true; the input reads as it did. -/
def familyEvalsSpec : ChangeSpec := { name := "familyEvals", fn := fun _ => fun
  | [d1, d2] => { results := [.lit (.bool true)], args := [d1, d2] }
  | _ => none }
def familyEvalsRow : OpenClaim := { program := "ytebcfbcfipmahaagreat", sum := "814a370953af85a9ff1c9198be44daf534f6fc9a7c746b7d5cffd4b6f7b364c9", func := "astragal/astragallaw27.FamilyEvals", spec := "familyEvals", inPlace := ["math/bits.Add64", "math/bits.Sub64"], unfollowed := true, recurses := true, apart := false }
def FamilyEvalsSaid : Prop := familyEvalsRow.holds Tryz.pinned (OpenSpec.ofChange familyEvalsSpec)

/-- ITS FALSE NEIGHBOUR: 'it returns false'. Refute it at one input. -/
def familyEvalsWrong : ChangeSpec := { name := "familyEvals", fn := fun _ => fun
  | [d1, d2] => { results := [.lit (.bool false)], args := [d1, d2] }
  | _ => none }
def FamilyEvalsWrongFalsely : Prop := familyEvalsRow.holds Tryz.pinned (OpenSpec.ofChange familyEvalsWrong)

/-- 'astragallaw27.FamilyTexts': WHATEVER THE INPUT: true; the input reads as it did. -/
def familyTextsSpec : ChangeSpec := { name := "familyTexts", fn := fun _ => fun
  | [d1, d2] => { results := [.lit (.bool true)], args := [d1, d2] }
  | _ => none }
def familyTextsRow : OpenClaim := { program := "ytebcfbcfipmahaagreat", sum := "814a370953af85a9ff1c9198be44daf534f6fc9a7c746b7d5cffd4b6f7b364c9", func := "astragal/astragallaw27.FamilyTexts", spec := "familyTexts", inPlace := ["math/bits.Add64", "math/bits.Sub64"], unfollowed := true, recurses := true, apart := false }
def FamilyTextsSaid : Prop := familyTextsRow.holds Tryz.pinned (OpenSpec.ofChange familyTextsSpec)

/-- ITS FALSE NEIGHBOUR: 'it returns false'. Refute it at one input. -/
def familyTextsWrong : ChangeSpec := { name := "familyTexts", fn := fun _ => fun
  | [d1, d2] => { results := [.lit (.bool false)], args := [d1, d2] }
  | _ => none }
def FamilyTextsWrongFalsely : Prop := familyTextsRow.holds Tryz.pinned (OpenSpec.ofChange familyTextsWrong)

/-- 'astragallaw27.FamilyShifts': WHATEVER THE INPUT: true; the input reads as it did. -/
def familyShiftsSpec : ChangeSpec := { name := "familyShifts", fn := fun _ => fun
  | [d1, d2, d3] => { results := [.lit (.bool true)], args := [d1, d2, d3] }
  | _ => none }
def familyShiftsRow : OpenClaim := { program := "ytebcfbcfipmahaagreat", sum := "814a370953af85a9ff1c9198be44daf534f6fc9a7c746b7d5cffd4b6f7b364c9", func := "astragal/astragallaw27.FamilyShifts", spec := "familyShifts", inPlace := ["math/bits.Add64", "math/bits.Sub64"], unfollowed := true, recurses := true, apart := false }
def FamilyShiftsSaid : Prop := familyShiftsRow.holds Tryz.pinned (OpenSpec.ofChange familyShiftsSpec)

/-- ITS FALSE NEIGHBOUR: 'it returns false'. Refute it at one input. -/
def familyShiftsWrong : ChangeSpec := { name := "familyShifts", fn := fun _ => fun
  | [d1, d2, d3] => { results := [.lit (.bool false)], args := [d1, d2, d3] }
  | _ => none }
def FamilyShiftsWrongFalsely : Prop := familyShiftsRow.holds Tryz.pinned (OpenSpec.ofChange familyShiftsWrong)

/- THE SECOND FORM. 'bulk': how many values and letters a reading holds, each counted each time it is reached (what is shared counts as often as it is met; a slice's spare places count too). A statement '..UptoSaid' is the law's where the arguments, and the package variables that the reading takes, are together of bulk at most 1048576: NARROWER than '..Said'. Prove '..Said' where nothing that the law and all that it calls make is longer than what came in: it says more and counts as full. Else prove '..UptoSaid'. A law counts once. -/
mutual
def uptoBulk {H : Type} : DataW H → Nat
  | .lit (.string bytes) => bytes.length + 1
  | .lit _ => 1
  | .nil => 1
  | .ptr d => uptoBulk d + 1
  | .slice elems spare => uptoBulkAll elems + uptoBulkAll spare + 1
  | .agg parts => uptoBulkAll parts + 1
  | .iface _ d => uptoBulk d + 1
  | .map entries => uptoBulkEntries entries + 1
  | .held _ => 1
def uptoBulkAll {H : Type} : List (DataW H) → Nat
  | [] => 0
  | d :: r => uptoBulk d + uptoBulkAll r
def uptoBulkEntries {H : Type} : List (Lit × DataW H) → Nat
  | [] => 0
  | x :: r => uptoBulkEntry x + uptoBulkEntries r
def uptoBulkEntry {H : Type} : Lit × DataW H → Nat
  | (.string bytes, d) => bytes.length + uptoBulk d + 1
  | (_, d) => uptoBulk d + 1
 end
def uptoSmall : (H : Type) → List (DataW H) → Bool := fun _ ds => decide (uptoBulkAll ds ≤ 1048576)
def OpenSpec.upto (s : _root_.Go.ChangeSpec) : _root_.Go.OpenSpec := { _root_.Go.OpenSpec.ofChange s with cond := some uptoSmall }

/-- 'astragallaw27.FamilyKinds', WHERE WHAT IT READS IS OF BULK AT MOST 1048576: true; the input reads as it did. -/
def familyKindsUptoRow : OpenClaim := { program := "ytebcfbcfipmahaagreat", sum := "814a370953af85a9ff1c9198be44daf534f6fc9a7c746b7d5cffd4b6f7b364c9", func := "astragal/astragallaw27.FamilyKinds", spec := "familyKinds", inPlace := ["math/bits.Add64", "math/bits.Sub64"], unfollowed := true, recurses := true, apart := false, narrowed := true }
def FamilyKindsUptoSaid : Prop := familyKindsUptoRow.holds Tryz.pinned (OpenSpec.upto familyKindsSpec)

/-- 'astragallaw27.FamilyEvals', WHERE WHAT IT READS IS OF BULK AT MOST 1048576: true; the input reads as it did. -/
def familyEvalsUptoRow : OpenClaim := { program := "ytebcfbcfipmahaagreat", sum := "814a370953af85a9ff1c9198be44daf534f6fc9a7c746b7d5cffd4b6f7b364c9", func := "astragal/astragallaw27.FamilyEvals", spec := "familyEvals", inPlace := ["math/bits.Add64", "math/bits.Sub64"], unfollowed := true, recurses := true, apart := false, narrowed := true }
def FamilyEvalsUptoSaid : Prop := familyEvalsUptoRow.holds Tryz.pinned (OpenSpec.upto familyEvalsSpec)

/-- 'astragallaw27.FamilyTexts', WHERE WHAT IT READS IS OF BULK AT MOST 1048576: true; the input reads as it did. -/
def familyTextsUptoRow : OpenClaim := { program := "ytebcfbcfipmahaagreat", sum := "814a370953af85a9ff1c9198be44daf534f6fc9a7c746b7d5cffd4b6f7b364c9", func := "astragal/astragallaw27.FamilyTexts", spec := "familyTexts", inPlace := ["math/bits.Add64", "math/bits.Sub64"], unfollowed := true, recurses := true, apart := false, narrowed := true }
def FamilyTextsUptoSaid : Prop := familyTextsUptoRow.holds Tryz.pinned (OpenSpec.upto familyTextsSpec)

/-- 'astragallaw27.FamilyShifts', WHERE WHAT IT READS IS OF BULK AT MOST 1048576: true; the input reads as it did. -/
def familyShiftsUptoRow : OpenClaim := { program := "ytebcfbcfipmahaagreat", sum := "814a370953af85a9ff1c9198be44daf534f6fc9a7c746b7d5cffd4b6f7b364c9", func := "astragal/astragallaw27.FamilyShifts", spec := "familyShifts", inPlace := ["math/bits.Add64", "math/bits.Sub64"], unfollowed := true, recurses := true, apart := false, narrowed := true }
def FamilyShiftsUptoSaid : Prop := familyShiftsUptoRow.holds Tryz.pinned (OpenSpec.upto familyShiftsSpec)

end Rows
end Go.Proofs.YtebcfbcfipmahaaGreat
