/-
  No cell of these rows narrows 'for every input' (looked for: loops, veiled, ifaces, maps, wideKeys, modest, calm, conditions, laid).
  DERIVED. THE GIVEN ROWS OF THIS SEAT. 4 by the template 'for every input the law returns true; each argument reads behind the call as it read before'; 0 by the template 'total and deterministic' (their statements: YtfaobdmoifnglaaGreatTotals.lean).
  GIVEN WITH THE SEED: the statements are not yours to turn. If you find one false, say at which input.
  Laid BY PROGRAM, IN A SANDBOX (cutbox-rows.mjs): the forced cells as the released guide's own fill.sh prints them over the translation a3917a04e8f00dd2… (all of the seat's roots in one cut). By AI agents, Wed Nov 11 2026. No macro, syntax, notation, axiom, sorry.
-/
import Derived.Test.YtfaobdmoifnglaaGreatChecked
import GoSem.Claim
import GoSem.ClaimJoined
import GoSem.ClaimMapViews
import Derived.JoinedTies
import Derived.KernelRfl
namespace Go.Proofs.YtfaobdmoifnglaaGreat
/- THE CELL 'sum', in the pinned program and in every row, IS THE sha256 OF THE DUMP (.gsa) THAT YtfaobdmoifnglaaGreatProg.lean LOADS. Nothing in Lean hashes anything: it is a label: what it is worth is what the hold of that sum in a sandbox is worth. -/
noncomputable def Tryz.pinned : Pinned := { name := "ytfaobdmoifnglaagreat", sum := "a3917a04e8f00dd2c1536334a40a928c08206b649696d99535a0c64fe0435e69", checked := Tryz.checked }
namespace Rows
def none {H : Type} : Left H := { results := [], args := [] }

/-- 'astragallaw15.GensChecks': WHATEVER THE INPUT: true; the input reads as it did. -/
def gensChecksSpec : ChangeSpec := { name := "gensChecks", fn := fun _ => fun
  | [d1, d2] => { results := [.lit (.bool true)], args := [d1, d2] }
  | _ => none }
def gensChecksRow : OpenClaim := { program := "ytfaobdmoifnglaagreat", sum := "a3917a04e8f00dd2c1536334a40a928c08206b649696d99535a0c64fe0435e69", func := "astragal/astragallaw15.GensChecks", spec := "gensChecks", inPlace := ["math/bits.Add64"], unfollowed := true, recurses := true, apart := false }
def GensChecksSaid : Prop := gensChecksRow.holds Tryz.pinned (OpenSpec.ofChange gensChecksSpec)

/-- ITS FALSE NEIGHBOUR: 'it returns false'. Refute it at one input. -/
def gensChecksWrong : ChangeSpec := { name := "gensChecks", fn := fun _ => fun
  | [d1, d2] => { results := [.lit (.bool false)], args := [d1, d2] }
  | _ => none }
def GensChecksWrongFalsely : Prop := gensChecksRow.holds Tryz.pinned (OpenSpec.ofChange gensChecksWrong)

/-- 'astragallaw15.GensSeeds': WHATEVER THE INPUT: true; the input reads as it did. -/
def gensSeedsSpec : ChangeSpec := { name := "gensSeeds", fn := fun _ => fun
  | [d1, d2] => { results := [.lit (.bool true)], args := [d1, d2] }
  | _ => none }
def gensSeedsRow : OpenClaim := { program := "ytfaobdmoifnglaagreat", sum := "a3917a04e8f00dd2c1536334a40a928c08206b649696d99535a0c64fe0435e69", func := "astragal/astragallaw15.GensSeeds", spec := "gensSeeds", inPlace := ["math/bits.Add64"], unfollowed := true, recurses := true, apart := false }
def GensSeedsSaid : Prop := gensSeedsRow.holds Tryz.pinned (OpenSpec.ofChange gensSeedsSpec)

/-- ITS FALSE NEIGHBOUR: 'it returns false'. Refute it at one input. -/
def gensSeedsWrong : ChangeSpec := { name := "gensSeeds", fn := fun _ => fun
  | [d1, d2] => { results := [.lit (.bool false)], args := [d1, d2] }
  | _ => none }
def GensSeedsWrongFalsely : Prop := gensSeedsRow.holds Tryz.pinned (OpenSpec.ofChange gensSeedsWrong)

/-- 'astragallaw15.GensGoes': WHATEVER THE INPUT: true; the input reads as it did. -/
def gensGoesSpec : ChangeSpec := { name := "gensGoes", fn := fun _ => fun
  | [d1, d2] => { results := [.lit (.bool true)], args := [d1, d2] }
  | _ => none }
def gensGoesRow : OpenClaim := { program := "ytfaobdmoifnglaagreat", sum := "a3917a04e8f00dd2c1536334a40a928c08206b649696d99535a0c64fe0435e69", func := "astragal/astragallaw15.GensGoes", spec := "gensGoes", inPlace := ["math/bits.Add64"], unfollowed := true, recurses := true, apart := false }
def GensGoesSaid : Prop := gensGoesRow.holds Tryz.pinned (OpenSpec.ofChange gensGoesSpec)

/-- ITS FALSE NEIGHBOUR: 'it returns false'. Refute it at one input. -/
def gensGoesWrong : ChangeSpec := { name := "gensGoes", fn := fun _ => fun
  | [d1, d2] => { results := [.lit (.bool false)], args := [d1, d2] }
  | _ => none }
def GensGoesWrongFalsely : Prop := gensGoesRow.holds Tryz.pinned (OpenSpec.ofChange gensGoesWrong)

/-- 'astragallaw15.GensJumps': WHATEVER THE INPUT: true; the input reads as it did. -/
def gensJumpsSpec : ChangeSpec := { name := "gensJumps", fn := fun _ => fun
  | [d1, d2, d3, d4] => { results := [.lit (.bool true)], args := [d1, d2, d3, d4] }
  | _ => none }
def gensJumpsRow : OpenClaim := { program := "ytfaobdmoifnglaagreat", sum := "a3917a04e8f00dd2c1536334a40a928c08206b649696d99535a0c64fe0435e69", func := "astragal/astragallaw15.GensJumps", spec := "gensJumps", inPlace := ["math/bits.Add64"], unfollowed := true, recurses := true, apart := false }
def GensJumpsSaid : Prop := gensJumpsRow.holds Tryz.pinned (OpenSpec.ofChange gensJumpsSpec)

/-- ITS FALSE NEIGHBOUR: 'it returns false'. Refute it at one input. -/
def gensJumpsWrong : ChangeSpec := { name := "gensJumps", fn := fun _ => fun
  | [d1, d2, d3, d4] => { results := [.lit (.bool false)], args := [d1, d2, d3, d4] }
  | _ => none }
def GensJumpsWrongFalsely : Prop := gensJumpsRow.holds Tryz.pinned (OpenSpec.ofChange gensJumpsWrong)

/- THE SECOND FORM. 'bulk': how many values and letters a reading holds, each counted each time it is reached (what is shared counts as often as it is met; a slice's spare places count too). A statement '..UptoSaid' is the law's where the arguments, and the package variables that the reading takes, are together of bulk at most 1048576: NARROWER than '..Said'. Prove '..Said' where nothing that the law and all that it calls make is longer than what came in: it says more and counts as full. Else prove '..UptoSaid'. A law counts once. -/
mutual
def uptoBulk {H : Type} : DataW H → Nat
  | .lit (.string bytes) => bytes.length + 1
  | .lit _ => 1
  | .nil => 1
  | .ptr d => uptoBulk d + 1
  | .slice elems spare => uptoBulkAll elems + uptoBulkAll spare + 1
  | .agg parts => uptoBulkAll parts + 1
  | .iface _ d => uptoBulk d + 1
  | .map entries => uptoBulkEntries entries + 1
  | .held _ => 1
def uptoBulkAll {H : Type} : List (DataW H) → Nat
  | [] => 0
  | d :: r => uptoBulk d + uptoBulkAll r
def uptoBulkEntries {H : Type} : List (Lit × DataW H) → Nat
  | [] => 0
  | x :: r => uptoBulkEntry x + uptoBulkEntries r
def uptoBulkEntry {H : Type} : Lit × DataW H → Nat
  | (.string bytes, d) => bytes.length + uptoBulk d + 1
  | (_, d) => uptoBulk d + 1
 end
def uptoSmall : (H : Type) → List (DataW H) → Bool := fun _ ds => decide (uptoBulkAll ds ≤ 1048576)
def OpenSpec.upto (s : _root_.Go.ChangeSpec) : _root_.Go.OpenSpec := { _root_.Go.OpenSpec.ofChange s with cond := some uptoSmall }

/-- 'astragallaw15.GensChecks', WHERE WHAT IT READS IS OF BULK AT MOST 1048576: true; the input reads as it did. -/
def gensChecksUptoRow : OpenClaim := { program := "ytfaobdmoifnglaagreat", sum := "a3917a04e8f00dd2c1536334a40a928c08206b649696d99535a0c64fe0435e69", func := "astragal/astragallaw15.GensChecks", spec := "gensChecks", inPlace := ["math/bits.Add64"], unfollowed := true, recurses := true, apart := false, narrowed := true }
def GensChecksUptoSaid : Prop := gensChecksUptoRow.holds Tryz.pinned (OpenSpec.upto gensChecksSpec)

/-- 'astragallaw15.GensSeeds', WHERE WHAT IT READS IS OF BULK AT MOST 1048576: true; the input reads as it did. -/
def gensSeedsUptoRow : OpenClaim := { program := "ytfaobdmoifnglaagreat", sum := "a3917a04e8f00dd2c1536334a40a928c08206b649696d99535a0c64fe0435e69", func := "astragal/astragallaw15.GensSeeds", spec := "gensSeeds", inPlace := ["math/bits.Add64"], unfollowed := true, recurses := true, apart := false, narrowed := true }
def GensSeedsUptoSaid : Prop := gensSeedsUptoRow.holds Tryz.pinned (OpenSpec.upto gensSeedsSpec)

/-- 'astragallaw15.GensGoes', WHERE WHAT IT READS IS OF BULK AT MOST 1048576: true; the input reads as it did. -/
def gensGoesUptoRow : OpenClaim := { program := "ytfaobdmoifnglaagreat", sum := "a3917a04e8f00dd2c1536334a40a928c08206b649696d99535a0c64fe0435e69", func := "astragal/astragallaw15.GensGoes", spec := "gensGoes", inPlace := ["math/bits.Add64"], unfollowed := true, recurses := true, apart := false, narrowed := true }
def GensGoesUptoSaid : Prop := gensGoesUptoRow.holds Tryz.pinned (OpenSpec.upto gensGoesSpec)

/-- 'astragallaw15.GensJumps', WHERE WHAT IT READS IS OF BULK AT MOST 1048576: true; the input reads as it did. -/
def gensJumpsUptoRow : OpenClaim := { program := "ytfaobdmoifnglaagreat", sum := "a3917a04e8f00dd2c1536334a40a928c08206b649696d99535a0c64fe0435e69", func := "astragal/astragallaw15.GensJumps", spec := "gensJumps", inPlace := ["math/bits.Add64"], unfollowed := true, recurses := true, apart := false, narrowed := true }
def GensJumpsUptoSaid : Prop := gensJumpsUptoRow.holds Tryz.pinned (OpenSpec.upto gensJumpsSpec)

end Rows
end Go.Proofs.YtfaobdmoifnglaaGreat
