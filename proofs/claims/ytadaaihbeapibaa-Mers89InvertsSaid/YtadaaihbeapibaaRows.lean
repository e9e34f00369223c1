/-
  No cell of these rows narrows 'for every input' (looked for: loops, veiled, ifaces, maps, wideKeys, modest, calm, conditions, laid).
  DERIVED. THE GIVEN ROWS OF THIS SEAT. 10 by the template 'for every input the law returns true; each argument reads behind the call as it read before'; 0 by the template 'total and deterministic' (their statements: YtadaaihbeapibaaTotals.lean).
  GIVEN WITH THE SEED: the statements are not yours to turn. If you find one false, say at which input.
  Laid BY PROGRAM, IN A SANDBOX (cutbox-rows.mjs): the forced cells as the released guide's own fill.sh prints them over the translation cfd32fdaa46246ad… (all of the seat's roots in one cut). By AI agents, Wed Nov 11 2026. No macro, syntax, notation, axiom, sorry.
-/
import Derived.Test.YtadaaihbeapibaaChecked
import GoSem.Claim
import GoSem.ClaimJoined
import GoSem.ClaimMapViews
import Derived.JoinedTies
import Derived.KernelRfl
namespace Go.Proofs.Ytadaaihbeapibaa
/- THE CELL 'sum', in the pinned program and in every row, IS THE sha256 OF THE DUMP (.gsa) THAT YtadaaihbeapibaaProg.lean LOADS. Nothing in Lean hashes anything: it is a label: what it is worth is what the hold of that sum in a sandbox is worth. -/
noncomputable def Try.pinned : Pinned := { name := "ytadaaihbeapibaa", sum := "cfd32fdaa46246ade8ab8db87b7d2c86925d5bcd4a137367d46d132487d7abb1", checked := Try.checked }
namespace Rows
def none {H : Type} : Left H := { results := [], args := [] }

/-- 'astragallaw03.ModnReckons': WHATEVER THE INPUT: true; the input reads as it did. -/
def modnReckonsSpec : ChangeSpec := { name := "modnReckons", fn := fun _ => fun
  | [d1, d2, d3] => { results := [.lit (.bool true)], args := [d1, d2, d3] }
  | _ => none }
def modnReckonsRow : OpenClaim := { program := "ytadaaihbeapibaa", sum := "cfd32fdaa46246ade8ab8db87b7d2c86925d5bcd4a137367d46d132487d7abb1", func := "astragal/astragallaw03.ModnReckons", spec := "modnReckons", inPlace := ["math/bits.Add64"], named := ["math/bits.divideError", "math/bits.overflowError"], apart := false }
def ModnReckonsSaid : Prop := modnReckonsRow.holds Try.pinned (OpenSpec.ofChange modnReckonsSpec)

/-- ITS FALSE NEIGHBOUR: 'it returns false'. Refute it at one input. -/
def modnReckonsWrong : ChangeSpec := { name := "modnReckons", fn := fun _ => fun
  | [d1, d2, d3] => { results := [.lit (.bool false)], args := [d1, d2, d3] }
  | _ => none }
def ModnReckonsWrongFalsely : Prop := modnReckonsRow.holds Try.pinned (OpenSpec.ofChange modnReckonsWrong)

/-- 'astragallaw03.ModnInverts': WHATEVER THE INPUT: true; the input reads as it did. -/
def modnInvertsSpec : ChangeSpec := { name := "modnInverts", fn := fun _ => fun
  | [d1, d2] => { results := [.lit (.bool true)], args := [d1, d2] }
  | _ => none }
def modnInvertsRow : OpenClaim := { program := "ytadaaihbeapibaa", sum := "cfd32fdaa46246ade8ab8db87b7d2c86925d5bcd4a137367d46d132487d7abb1", func := "astragal/astragallaw03.ModnInverts", spec := "modnInverts", inPlace := ["math/bits.Add64"], named := ["math/bits.divideError", "math/bits.overflowError"], apart := false }
def ModnInvertsSaid : Prop := modnInvertsRow.holds Try.pinned (OpenSpec.ofChange modnInvertsSpec)

/-- ITS FALSE NEIGHBOUR: 'it returns false'. Refute it at one input. -/
def modnInvertsWrong : ChangeSpec := { name := "modnInverts", fn := fun _ => fun
  | [d1, d2] => { results := [.lit (.bool false)], args := [d1, d2] }
  | _ => none }
def ModnInvertsWrongFalsely : Prop := modnInvertsRow.holds Try.pinned (OpenSpec.ofChange modnInvertsWrong)

/-- 'astragallaw03.ModnOnly': WHATEVER THE INPUT: true; the input reads as it did. -/
def modnOnlySpec : ChangeSpec := { name := "modnOnly", fn := fun _ => fun
  | [d1, d2, d3] => { results := [.lit (.bool true)], args := [d1, d2, d3] }
  | _ => none }
def modnOnlyRow : OpenClaim := { program := "ytadaaihbeapibaa", sum := "cfd32fdaa46246ade8ab8db87b7d2c86925d5bcd4a137367d46d132487d7abb1", func := "astragal/astragallaw03.ModnOnly", spec := "modnOnly", inPlace := ["math/bits.Add64"], named := ["math/bits.divideError", "math/bits.overflowError"], apart := false }
def ModnOnlySaid : Prop := modnOnlyRow.holds Try.pinned (OpenSpec.ofChange modnOnlySpec)

/-- ITS FALSE NEIGHBOUR: 'it returns false'. Refute it at one input. -/
def modnOnlyWrong : ChangeSpec := { name := "modnOnly", fn := fun _ => fun
  | [d1, d2, d3] => { results := [.lit (.bool false)], args := [d1, d2, d3] }
  | _ => none }
def ModnOnlyWrongFalsely : Prop := modnOnlyRow.holds Try.pinned (OpenSpec.ofChange modnOnlyWrong)

/-- 'astragallaw04.MersReckons': WHATEVER THE INPUT: true; the input reads as it did. -/
def mersReckonsSpec : ChangeSpec := { name := "mersReckons", fn := fun _ => fun
  | [d1, d2, d3] => { results := [.lit (.bool true)], args := [d1, d2, d3] }
  | _ => none }
def mersReckonsRow : OpenClaim := { program := "ytadaaihbeapibaa", sum := "cfd32fdaa46246ade8ab8db87b7d2c86925d5bcd4a137367d46d132487d7abb1", func := "astragal/astragallaw04.MersReckons", spec := "mersReckons", inPlace := ["math/bits.Add64"], unfollowed := true, recurses := true, apart := false }
def MersReckonsSaid : Prop := mersReckonsRow.holds Try.pinned (OpenSpec.ofChange mersReckonsSpec)

/-- ITS FALSE NEIGHBOUR: 'it returns false'. Refute it at one input. -/
def mersReckonsWrong : ChangeSpec := { name := "mersReckons", fn := fun _ => fun
  | [d1, d2, d3] => { results := [.lit (.bool false)], args := [d1, d2, d3] }
  | _ => none }
def MersReckonsWrongFalsely : Prop := mersReckonsRow.holds Try.pinned (OpenSpec.ofChange mersReckonsWrong)

/-- 'astragallaw04.MersFolds': WHATEVER THE INPUT: true; the input reads as it did. -/
def mersFoldsSpec : ChangeSpec := { name := "mersFolds", fn := fun _ => fun
  | [d1, d2] => { results := [.lit (.bool true)], args := [d1, d2] }
  | _ => none }
def mersFoldsRow : OpenClaim := { program := "ytadaaihbeapibaa", sum := "cfd32fdaa46246ade8ab8db87b7d2c86925d5bcd4a137367d46d132487d7abb1", func := "astragal/astragallaw04.MersFolds", spec := "mersFolds", unfollowed := true, recurses := true, apart := false }
def MersFoldsSaid : Prop := mersFoldsRow.holds Try.pinned (OpenSpec.ofChange mersFoldsSpec)

/-- ITS FALSE NEIGHBOUR: 'it returns false'. Refute it at one input. -/
def mersFoldsWrong : ChangeSpec := { name := "mersFolds", fn := fun _ => fun
  | [d1, d2] => { results := [.lit (.bool false)], args := [d1, d2] }
  | _ => none }
def MersFoldsWrongFalsely : Prop := mersFoldsRow.holds Try.pinned (OpenSpec.ofChange mersFoldsWrong)

/-- 'astragallaw04.MersPowers': WHATEVER THE INPUT: true; the input reads as it did. -/
def mersPowersSpec : ChangeSpec := { name := "mersPowers", fn := fun _ => fun
  | [d1, d2, d3] => { results := [.lit (.bool true)], args := [d1, d2, d3] }
  | _ => none }
def mersPowersRow : OpenClaim := { program := "ytadaaihbeapibaa", sum := "cfd32fdaa46246ade8ab8db87b7d2c86925d5bcd4a137367d46d132487d7abb1", func := "astragal/astragallaw04.MersPowers", spec := "mersPowers", unfollowed := true, recurses := true, apart := false }
def MersPowersSaid : Prop := mersPowersRow.holds Try.pinned (OpenSpec.ofChange mersPowersSpec)

/-- ITS FALSE NEIGHBOUR: 'it returns false'. Refute it at one input. -/
def mersPowersWrong : ChangeSpec := { name := "mersPowers", fn := fun _ => fun
  | [d1, d2, d3] => { results := [.lit (.bool false)], args := [d1, d2, d3] }
  | _ => none }
def MersPowersWrongFalsely : Prop := mersPowersRow.holds Try.pinned (OpenSpec.ofChange mersPowersWrong)

/-- 'astragallaw04.MersInverts': WHATEVER THE INPUT: true; the input reads as it did. -/
def mersInvertsSpec : ChangeSpec := { name := "mersInverts", fn := fun _ => fun
  | [d1, d2, d3] => { results := [.lit (.bool true)], args := [d1, d2, d3] }
  | _ => none }
def mersInvertsRow : OpenClaim := { program := "ytadaaihbeapibaa", sum := "cfd32fdaa46246ade8ab8db87b7d2c86925d5bcd4a137367d46d132487d7abb1", func := "astragal/astragallaw04.MersInverts", spec := "mersInverts", unfollowed := true, recurses := true, apart := false }
def MersInvertsSaid : Prop := mersInvertsRow.holds Try.pinned (OpenSpec.ofChange mersInvertsSpec)

/-- ITS FALSE NEIGHBOUR: 'it returns false'. Refute it at one input. -/
def mersInvertsWrong : ChangeSpec := { name := "mersInverts", fn := fun _ => fun
  | [d1, d2, d3] => { results := [.lit (.bool false)], args := [d1, d2, d3] }
  | _ => none }
def MersInvertsWrongFalsely : Prop := mersInvertsRow.holds Try.pinned (OpenSpec.ofChange mersInvertsWrong)

/-- 'astragallaw05.Mers89Reckons': WHATEVER THE INPUT: true; the input reads as it did. -/
def mers89ReckonsSpec : ChangeSpec := { name := "mers89Reckons", fn := fun _ => fun
  | [d1, d2, d3] => { results := [.lit (.bool true)], args := [d1, d2, d3] }
  | _ => none }
def mers89ReckonsRow : OpenClaim := { program := "ytadaaihbeapibaa", sum := "cfd32fdaa46246ade8ab8db87b7d2c86925d5bcd4a137367d46d132487d7abb1", func := "astragal/astragallaw05.Mers89Reckons", spec := "mers89Reckons", inPlace := ["math/bits.Add64", "math/bits.Sub64"], unfollowed := true, recurses := true, apart := false }
def Mers89ReckonsSaid : Prop := mers89ReckonsRow.holds Try.pinned (OpenSpec.ofChange mers89ReckonsSpec)

/-- ITS FALSE NEIGHBOUR: 'it returns false'. Refute it at one input. -/
def mers89ReckonsWrong : ChangeSpec := { name := "mers89Reckons", fn := fun _ => fun
  | [d1, d2, d3] => { results := [.lit (.bool false)], args := [d1, d2, d3] }
  | _ => none }
def Mers89ReckonsWrongFalsely : Prop := mers89ReckonsRow.holds Try.pinned (OpenSpec.ofChange mers89ReckonsWrong)

/-- 'astragallaw05.Mers89Powers': WHATEVER THE INPUT: true; the input reads as it did. -/
def mers89PowersSpec : ChangeSpec := { name := "mers89Powers", fn := fun _ => fun
  | [d1, d2, d3] => { results := [.lit (.bool true)], args := [d1, d2, d3] }
  | _ => none }
def mers89PowersRow : OpenClaim := { program := "ytadaaihbeapibaa", sum := "cfd32fdaa46246ade8ab8db87b7d2c86925d5bcd4a137367d46d132487d7abb1", func := "astragal/astragallaw05.Mers89Powers", spec := "mers89Powers", inPlace := ["math/bits.Add64", "math/bits.Sub64"], unfollowed := true, recurses := true, apart := false }
def Mers89PowersSaid : Prop := mers89PowersRow.holds Try.pinned (OpenSpec.ofChange mers89PowersSpec)

/-- ITS FALSE NEIGHBOUR: 'it returns false'. Refute it at one input. -/
def mers89PowersWrong : ChangeSpec := { name := "mers89Powers", fn := fun _ => fun
  | [d1, d2, d3] => { results := [.lit (.bool false)], args := [d1, d2, d3] }
  | _ => none }
def Mers89PowersWrongFalsely : Prop := mers89PowersRow.holds Try.pinned (OpenSpec.ofChange mers89PowersWrong)

/-- 'astragallaw05.Mers89Inverts': WHATEVER THE INPUT: true; the input reads as it did. -/
def mers89InvertsSpec : ChangeSpec := { name := "mers89Inverts", fn := fun _ => fun
  | [d1, d2] => { results := [.lit (.bool true)], args := [d1, d2] }
  | _ => none }
def mers89InvertsRow : OpenClaim := { program := "ytadaaihbeapibaa", sum := "cfd32fdaa46246ade8ab8db87b7d2c86925d5bcd4a137367d46d132487d7abb1", func := "astragal/astragallaw05.Mers89Inverts", spec := "mers89Inverts", inPlace := ["math/bits.Add64", "math/bits.Sub64"], unfollowed := true, recurses := true, apart := false }
def Mers89InvertsSaid : Prop := mers89InvertsRow.holds Try.pinned (OpenSpec.ofChange mers89InvertsSpec)

/-- ITS FALSE NEIGHBOUR: 'it returns false'. Refute it at one input. -/
def mers89InvertsWrong : ChangeSpec := { name := "mers89Inverts", fn := fun _ => fun
  | [d1, d2] => { results := [.lit (.bool false)], args := [d1, d2] }
  | _ => none }
def Mers89InvertsWrongFalsely : Prop := mers89InvertsRow.holds Try.pinned (OpenSpec.ofChange mers89InvertsWrong)

/- THE SECOND FORM. 'bulk': how many values and letters a reading holds, each counted each time it is reached (what is shared counts as often as it is met; a slice's spare places count too). A statement '..UptoSaid' is the law's where the arguments, and the package variables that the reading takes, are together of bulk at most 1048576: NARROWER than '..Said'. Prove '..Said' where nothing that the law and all that it calls make is longer than what came in: it says more and counts as full. Else prove '..UptoSaid'. A law counts once. -/
mutual
def uptoBulk {H : Type} : DataW H → Nat
  | .lit (.string bytes) => bytes.length + 1
  | .lit _ => 1
  | .nil => 1
  | .ptr d => uptoBulk d + 1
  | .slice elems spare => uptoBulkAll elems + uptoBulkAll spare + 1
  | .agg parts => uptoBulkAll parts + 1
  | .iface _ d => uptoBulk d + 1
  | .map entries => uptoBulkEntries entries + 1
  | .held _ => 1
def uptoBulkAll {H : Type} : List (DataW H) → Nat
  | [] => 0
  | d :: r => uptoBulk d + uptoBulkAll r
def uptoBulkEntries {H : Type} : List (Lit × DataW H) → Nat
  | [] => 0
  | x :: r => uptoBulkEntry x + uptoBulkEntries r
def uptoBulkEntry {H : Type} : Lit × DataW H → Nat
  | (.string bytes, d) => bytes.length + uptoBulk d + 1
  | (_, d) => uptoBulk d + 1
 end
def uptoSmall : (H : Type) → List (DataW H) → Bool := fun _ ds => decide (uptoBulkAll ds ≤ 1048576)
def OpenSpec.upto (s : _root_.Go.ChangeSpec) : _root_.Go.OpenSpec := { _root_.Go.OpenSpec.ofChange s with cond := some uptoSmall }

/-- 'astragallaw03.ModnReckons', WHERE WHAT IT READS IS OF BULK AT MOST 1048576: true; the input reads as it did. -/
def modnReckonsUptoRow : OpenClaim := { program := "ytadaaihbeapibaa", sum := "cfd32fdaa46246ade8ab8db87b7d2c86925d5bcd4a137367d46d132487d7abb1", func := "astragal/astragallaw03.ModnReckons", spec := "modnReckons", inPlace := ["math/bits.Add64"], named := ["math/bits.divideError", "math/bits.overflowError"], apart := false, narrowed := true }
def ModnReckonsUptoSaid : Prop := modnReckonsUptoRow.holds Try.pinned (OpenSpec.upto modnReckonsSpec)

/-- 'astragallaw03.ModnInverts', WHERE WHAT IT READS IS OF BULK AT MOST 1048576: true; the input reads as it did. -/
def modnInvertsUptoRow : OpenClaim := { program := "ytadaaihbeapibaa", sum := "cfd32fdaa46246ade8ab8db87b7d2c86925d5bcd4a137367d46d132487d7abb1", func := "astragal/astragallaw03.ModnInverts", spec := "modnInverts", inPlace := ["math/bits.Add64"], named := ["math/bits.divideError", "math/bits.overflowError"], apart := false, narrowed := true }
def ModnInvertsUptoSaid : Prop := modnInvertsUptoRow.holds Try.pinned (OpenSpec.upto modnInvertsSpec)

/-- 'astragallaw03.ModnOnly', WHERE WHAT IT READS IS OF BULK AT MOST 1048576: true; the input reads as it did. -/
def modnOnlyUptoRow : OpenClaim := { program := "ytadaaihbeapibaa", sum := "cfd32fdaa46246ade8ab8db87b7d2c86925d5bcd4a137367d46d132487d7abb1", func := "astragal/astragallaw03.ModnOnly", spec := "modnOnly", inPlace := ["math/bits.Add64"], named := ["math/bits.divideError", "math/bits.overflowError"], apart := false, narrowed := true }
def ModnOnlyUptoSaid : Prop := modnOnlyUptoRow.holds Try.pinned (OpenSpec.upto modnOnlySpec)

/-- 'astragallaw04.MersReckons', WHERE WHAT IT READS IS OF BULK AT MOST 1048576: true; the input reads as it did. -/
def mersReckonsUptoRow : OpenClaim := { program := "ytadaaihbeapibaa", sum := "cfd32fdaa46246ade8ab8db87b7d2c86925d5bcd4a137367d46d132487d7abb1", func := "astragal/astragallaw04.MersReckons", spec := "mersReckons", inPlace := ["math/bits.Add64"], unfollowed := true, recurses := true, apart := false, narrowed := true }
def MersReckonsUptoSaid : Prop := mersReckonsUptoRow.holds Try.pinned (OpenSpec.upto mersReckonsSpec)

/-- 'astragallaw04.MersFolds', WHERE WHAT IT READS IS OF BULK AT MOST 1048576: true; the input reads as it did. -/
def mersFoldsUptoRow : OpenClaim := { program := "ytadaaihbeapibaa", sum := "cfd32fdaa46246ade8ab8db87b7d2c86925d5bcd4a137367d46d132487d7abb1", func := "astragal/astragallaw04.MersFolds", spec := "mersFolds", unfollowed := true, recurses := true, apart := false, narrowed := true }
def MersFoldsUptoSaid : Prop := mersFoldsUptoRow.holds Try.pinned (OpenSpec.upto mersFoldsSpec)

/-- 'astragallaw04.MersPowers', WHERE WHAT IT READS IS OF BULK AT MOST 1048576: true; the input reads as it did. -/
def mersPowersUptoRow : OpenClaim := { program := "ytadaaihbeapibaa", sum := "cfd32fdaa46246ade8ab8db87b7d2c86925d5bcd4a137367d46d132487d7abb1", func := "astragal/astragallaw04.MersPowers", spec := "mersPowers", unfollowed := true, recurses := true, apart := false, narrowed := true }
def MersPowersUptoSaid : Prop := mersPowersUptoRow.holds Try.pinned (OpenSpec.upto mersPowersSpec)

/-- 'astragallaw04.MersInverts', WHERE WHAT IT READS IS OF BULK AT MOST 1048576: true; the input reads as it did. -/
def mersInvertsUptoRow : OpenClaim := { program := "ytadaaihbeapibaa", sum := "cfd32fdaa46246ade8ab8db87b7d2c86925d5bcd4a137367d46d132487d7abb1", func := "astragal/astragallaw04.MersInverts", spec := "mersInverts", unfollowed := true, recurses := true, apart := false, narrowed := true }
def MersInvertsUptoSaid : Prop := mersInvertsUptoRow.holds Try.pinned (OpenSpec.upto mersInvertsSpec)

/-- 'astragallaw05.Mers89Reckons', WHERE WHAT IT READS IS OF BULK AT MOST 1048576: true; the input reads as it did. -/
def mers89ReckonsUptoRow : OpenClaim := { program := "ytadaaihbeapibaa", sum := "cfd32fdaa46246ade8ab8db87b7d2c86925d5bcd4a137367d46d132487d7abb1", func := "astragal/astragallaw05.Mers89Reckons", spec := "mers89Reckons", inPlace := ["math/bits.Add64", "math/bits.Sub64"], unfollowed := true, recurses := true, apart := false, narrowed := true }
def Mers89ReckonsUptoSaid : Prop := mers89ReckonsUptoRow.holds Try.pinned (OpenSpec.upto mers89ReckonsSpec)

/-- 'astragallaw05.Mers89Powers', WHERE WHAT IT READS IS OF BULK AT MOST 1048576: true; the input reads as it did. -/
def mers89PowersUptoRow : OpenClaim := { program := "ytadaaihbeapibaa", sum := "cfd32fdaa46246ade8ab8db87b7d2c86925d5bcd4a137367d46d132487d7abb1", func := "astragal/astragallaw05.Mers89Powers", spec := "mers89Powers", inPlace := ["math/bits.Add64", "math/bits.Sub64"], unfollowed := true, recurses := true, apart := false, narrowed := true }
def Mers89PowersUptoSaid : Prop := mers89PowersUptoRow.holds Try.pinned (OpenSpec.upto mers89PowersSpec)

/-- 'astragallaw05.Mers89Inverts', WHERE WHAT IT READS IS OF BULK AT MOST 1048576: true; the input reads as it did. -/
def mers89InvertsUptoRow : OpenClaim := { program := "ytadaaihbeapibaa", sum := "cfd32fdaa46246ade8ab8db87b7d2c86925d5bcd4a137367d46d132487d7abb1", func := "astragal/astragallaw05.Mers89Inverts", spec := "mers89Inverts", inPlace := ["math/bits.Add64", "math/bits.Sub64"], unfollowed := true, recurses := true, apart := false, narrowed := true }
def Mers89InvertsUptoSaid : Prop := mers89InvertsUptoRow.holds Try.pinned (OpenSpec.upto mers89InvertsSpec)

end Rows
end Go.Proofs.Ytadaaihbeapibaa
