/-
  No cell of these rows narrows 'for every input' (looked for: loops, veiled, ifaces, maps, wideKeys, modest, calm, conditions, laid).
  DERIVED. THE GIVEN ROWS OF THIS SEAT. 6 by the template 'for every input the law returns true; each argument reads behind the call as it read before'; 0 by the template 'total and deterministic' (their statements: YtdiikoiadhdeoaaTotals.lean).
  GIVEN WITH THE SEED: the statements are not yours to turn. If you find one false, say at which input.
  Laid BY PROGRAM, IN A SANDBOX (cutbox-rows.mjs): the forced cells as the released guide's own fill.sh prints them over the translation 459dbe5bfee5545e… (all of the seat's roots in one cut). By AI agents, Wed Nov 11 2026. No macro, syntax, notation, axiom, sorry.
-/
import Derived.Test.YtdiikoiadhdeoaaChecked
import GoSem.Claim
import GoSem.ClaimJoined
import GoSem.ClaimMapViews
import Derived.JoinedTies
import Derived.KernelRfl
namespace Go.Proofs.Ytdiikoiadhdeoaa
/- THE CELL 'sum', in the pinned program and in every row, IS THE sha256 OF THE DUMP (.gsa) THAT YtdiikoiadhdeoaaProg.lean LOADS. Nothing in Lean hashes anything: it is a label: what it is worth is what the hold of that sum in a sandbox is worth. -/
noncomputable def Try.pinned : Pinned := { name := "ytdiikoiadhdeoaa", sum := "459dbe5bfee5545e874126d40cea94b385b8d600a0f02b04f12f5db20d221dca", checked := Try.checked }
namespace Rows
def none {H : Type} : Left H := { results := [], args := [] }

/-- 'astragallaw51.TallyWords': WHATEVER THE INPUT: true; the input reads as it did. -/
def tallyWordsSpec : ChangeSpec := { name := "tallyWords", fn := fun _ => fun
  | [d1, d2] => { results := [.lit (.bool true)], args := [d1, d2] }
  | _ => none }
def tallyWordsRow : OpenClaim := { program := "ytdiikoiadhdeoaa", sum := "459dbe5bfee5545e874126d40cea94b385b8d600a0f02b04f12f5db20d221dca", func := "astragal/astragallaw51.TallyWords", spec := "tallyWords", unfollowed := true, recurses := true, apart := false }
def TallyWordsSaid : Prop := tallyWordsRow.holds Try.pinned (OpenSpec.ofChange tallyWordsSpec)

/-- ITS FALSE NEIGHBOUR: 'it returns false'. Refute it at one input. -/
def tallyWordsWrong : ChangeSpec := { name := "tallyWords", fn := fun _ => fun
  | [d1, d2] => { results := [.lit (.bool false)], args := [d1, d2] }
  | _ => none }
def TallyWordsWrongFalsely : Prop := tallyWordsRow.holds Try.pinned (OpenSpec.ofChange tallyWordsWrong)

/-- 'astragallaw51.TallyOdds': WHATEVER THE INPUT: true; the input reads as it did. -/
def tallyOddsSpec : ChangeSpec := { name := "tallyOdds", fn := fun _ => fun
  | [d1, d2, d3, d4] => { results := [.lit (.bool true)], args := [d1, d2, d3, d4] }
  | _ => none }
def tallyOddsRow : OpenClaim := { program := "ytdiikoiadhdeoaa", sum := "459dbe5bfee5545e874126d40cea94b385b8d600a0f02b04f12f5db20d221dca", func := "astragal/astragallaw51.TallyOdds", spec := "tallyOdds", unfollowed := true, recurses := true, apart := false }
def TallyOddsSaid : Prop := tallyOddsRow.holds Try.pinned (OpenSpec.ofChange tallyOddsSpec)

/-- ITS FALSE NEIGHBOUR: 'it returns false'. Refute it at one input. -/
def tallyOddsWrong : ChangeSpec := { name := "tallyOdds", fn := fun _ => fun
  | [d1, d2, d3, d4] => { results := [.lit (.bool false)], args := [d1, d2, d3, d4] }
  | _ => none }
def TallyOddsWrongFalsely : Prop := tallyOddsRow.holds Try.pinned (OpenSpec.ofChange tallyOddsWrong)

/-- 'astragallaw51.TallyAdds': WHATEVER THE INPUT: true; the input reads as it did. -/
def tallyAddsSpec : ChangeSpec := { name := "tallyAdds", fn := fun _ => fun
  | [d1, d2, d3, d4] => { results := [.lit (.bool true)], args := [d1, d2, d3, d4] }
  | _ => none }
def tallyAddsRow : OpenClaim := { program := "ytdiikoiadhdeoaa", sum := "459dbe5bfee5545e874126d40cea94b385b8d600a0f02b04f12f5db20d221dca", func := "astragal/astragallaw51.TallyAdds", spec := "tallyAdds", unfollowed := true, recurses := true, apart := false }
def TallyAddsSaid : Prop := tallyAddsRow.holds Try.pinned (OpenSpec.ofChange tallyAddsSpec)

/-- ITS FALSE NEIGHBOUR: 'it returns false'. Refute it at one input. -/
def tallyAddsWrong : ChangeSpec := { name := "tallyAdds", fn := fun _ => fun
  | [d1, d2, d3, d4] => { results := [.lit (.bool false)], args := [d1, d2, d3, d4] }
  | _ => none }
def TallyAddsWrongFalsely : Prop := tallyAddsRow.holds Try.pinned (OpenSpec.ofChange tallyAddsWrong)

/-- 'astragallaw51.TallyPolys': WHATEVER THE INPUT: true; the input reads as it did. -/
def tallyPolysSpec : ChangeSpec := { name := "tallyPolys", fn := fun _ => fun
  | [d1, d2, d3] => { results := [.lit (.bool true)], args := [d1, d2, d3] }
  | _ => none }
def tallyPolysRow : OpenClaim := { program := "ytdiikoiadhdeoaa", sum := "459dbe5bfee5545e874126d40cea94b385b8d600a0f02b04f12f5db20d221dca", func := "astragal/astragallaw51.TallyPolys", spec := "tallyPolys", unfollowed := true, recurses := true, apart := false }
def TallyPolysSaid : Prop := tallyPolysRow.holds Try.pinned (OpenSpec.ofChange tallyPolysSpec)

/-- ITS FALSE NEIGHBOUR: 'it returns false'. Refute it at one input. -/
def tallyPolysWrong : ChangeSpec := { name := "tallyPolys", fn := fun _ => fun
  | [d1, d2, d3] => { results := [.lit (.bool false)], args := [d1, d2, d3] }
  | _ => none }
def TallyPolysWrongFalsely : Prop := tallyPolysRow.holds Try.pinned (OpenSpec.ofChange tallyPolysWrong)

/-- 'astragallaw51.TallyOrders': WHATEVER THE INPUT: true; the input reads as it did. -/
def tallyOrdersSpec : ChangeSpec := { name := "tallyOrders", fn := fun _ => fun
  | [d1, d2] => { results := [.lit (.bool true)], args := [d1, d2] }
  | _ => none }
def tallyOrdersRow : OpenClaim := { program := "ytdiikoiadhdeoaa", sum := "459dbe5bfee5545e874126d40cea94b385b8d600a0f02b04f12f5db20d221dca", func := "astragal/astragallaw51.TallyOrders", spec := "tallyOrders", unfollowed := true, recurses := true, apart := false }
def TallyOrdersSaid : Prop := tallyOrdersRow.holds Try.pinned (OpenSpec.ofChange tallyOrdersSpec)

/-- ITS FALSE NEIGHBOUR: 'it returns false'. Refute it at one input. -/
def tallyOrdersWrong : ChangeSpec := { name := "tallyOrders", fn := fun _ => fun
  | [d1, d2] => { results := [.lit (.bool false)], args := [d1, d2] }
  | _ => none }
def TallyOrdersWrongFalsely : Prop := tallyOrdersRow.holds Try.pinned (OpenSpec.ofChange tallyOrdersWrong)

/-- 'astragallaw51.TallySlots': WHATEVER THE INPUT: true; the input reads as it did. -/
def tallySlotsSpec : ChangeSpec := { name := "tallySlots", fn := fun _ => fun
  | [d1, d2, d3] => { results := [.lit (.bool true)], args := [d1, d2, d3] }
  | _ => none }
def tallySlotsRow : OpenClaim := { program := "ytdiikoiadhdeoaa", sum := "459dbe5bfee5545e874126d40cea94b385b8d600a0f02b04f12f5db20d221dca", func := "astragal/astragallaw51.TallySlots", spec := "tallySlots", unfollowed := true, recurses := true, apart := false }
def TallySlotsSaid : Prop := tallySlotsRow.holds Try.pinned (OpenSpec.ofChange tallySlotsSpec)

/-- ITS FALSE NEIGHBOUR: 'it returns false'. Refute it at one input. -/
def tallySlotsWrong : ChangeSpec := { name := "tallySlots", fn := fun _ => fun
  | [d1, d2, d3] => { results := [.lit (.bool false)], args := [d1, d2, d3] }
  | _ => none }
def TallySlotsWrongFalsely : Prop := tallySlotsRow.holds Try.pinned (OpenSpec.ofChange tallySlotsWrong)

/- THE SECOND FORM. 'bulk': how many values and letters a reading holds, each counted each time it is reached (what is shared counts as often as it is met; a slice's spare places count too). A statement '..UptoSaid' is the law's where the arguments, and the package variables that the reading takes, are together of bulk at most 1048576: NARROWER than '..Said'. Prove '..Said' where nothing that the law and all that it calls make is longer than what came in: it says more and counts as full. Else prove '..UptoSaid'. A law counts once. -/
mutual
def uptoBulk {H : Type} : DataW H → Nat
  | .lit (.string bytes) => bytes.length + 1
  | .lit _ => 1
  | .nil => 1
  | .ptr d => uptoBulk d + 1
  | .slice elems spare => uptoBulkAll elems + uptoBulkAll spare + 1
  | .agg parts => uptoBulkAll parts + 1
  | .iface _ d => uptoBulk d + 1
  | .map entries => uptoBulkEntries entries + 1
  | .held _ => 1
def uptoBulkAll {H : Type} : List (DataW H) → Nat
  | [] => 0
  | d :: r => uptoBulk d + uptoBulkAll r
def uptoBulkEntries {H : Type} : List (Lit × DataW H) → Nat
  | [] => 0
  | x :: r => uptoBulkEntry x + uptoBulkEntries r
def uptoBulkEntry {H : Type} : Lit × DataW H → Nat
  | (.string bytes, d) => bytes.length + uptoBulk d + 1
  | (_, d) => uptoBulk d + 1
 end
def uptoSmall : (H : Type) → List (DataW H) → Bool := fun _ ds => decide (uptoBulkAll ds ≤ 1048576)
def OpenSpec.upto (s : _root_.Go.ChangeSpec) : _root_.Go.OpenSpec := { _root_.Go.OpenSpec.ofChange s with cond := some uptoSmall }

/-- 'astragallaw51.TallyWords', WHERE WHAT IT READS IS OF BULK AT MOST 1048576: true; the input reads as it did. -/
def tallyWordsUptoRow : OpenClaim := { program := "ytdiikoiadhdeoaa", sum := "459dbe5bfee5545e874126d40cea94b385b8d600a0f02b04f12f5db20d221dca", func := "astragal/astragallaw51.TallyWords", spec := "tallyWords", unfollowed := true, recurses := true, apart := false, narrowed := true }
def TallyWordsUptoSaid : Prop := tallyWordsUptoRow.holds Try.pinned (OpenSpec.upto tallyWordsSpec)

/-- 'astragallaw51.TallyOdds', WHERE WHAT IT READS IS OF BULK AT MOST 1048576: true; the input reads as it did. -/
def tallyOddsUptoRow : OpenClaim := { program := "ytdiikoiadhdeoaa", sum := "459dbe5bfee5545e874126d40cea94b385b8d600a0f02b04f12f5db20d221dca", func := "astragal/astragallaw51.TallyOdds", spec := "tallyOdds", unfollowed := true, recurses := true, apart := false, narrowed := true }
def TallyOddsUptoSaid : Prop := tallyOddsUptoRow.holds Try.pinned (OpenSpec.upto tallyOddsSpec)

/-- 'astragallaw51.TallyAdds', WHERE WHAT IT READS IS OF BULK AT MOST 1048576: true; the input reads as it did. -/
def tallyAddsUptoRow : OpenClaim := { program := "ytdiikoiadhdeoaa", sum := "459dbe5bfee5545e874126d40cea94b385b8d600a0f02b04f12f5db20d221dca", func := "astragal/astragallaw51.TallyAdds", spec := "tallyAdds", unfollowed := true, recurses := true, apart := false, narrowed := true }
def TallyAddsUptoSaid : Prop := tallyAddsUptoRow.holds Try.pinned (OpenSpec.upto tallyAddsSpec)

/-- 'astragallaw51.TallyPolys', WHERE WHAT IT READS IS OF BULK AT MOST 1048576: true; the input reads as it did. -/
def tallyPolysUptoRow : OpenClaim := { program := "ytdiikoiadhdeoaa", sum := "459dbe5bfee5545e874126d40cea94b385b8d600a0f02b04f12f5db20d221dca", func := "astragal/astragallaw51.TallyPolys", spec := "tallyPolys", unfollowed := true, recurses := true, apart := false, narrowed := true }
def TallyPolysUptoSaid : Prop := tallyPolysUptoRow.holds Try.pinned (OpenSpec.upto tallyPolysSpec)

/-- 'astragallaw51.TallyOrders', WHERE WHAT IT READS IS OF BULK AT MOST 1048576: true; the input reads as it did. -/
def tallyOrdersUptoRow : OpenClaim := { program := "ytdiikoiadhdeoaa", sum := "459dbe5bfee5545e874126d40cea94b385b8d600a0f02b04f12f5db20d221dca", func := "astragal/astragallaw51.TallyOrders", spec := "tallyOrders", unfollowed := true, recurses := true, apart := false, narrowed := true }
def TallyOrdersUptoSaid : Prop := tallyOrdersUptoRow.holds Try.pinned (OpenSpec.upto tallyOrdersSpec)

/-- 'astragallaw51.TallySlots', WHERE WHAT IT READS IS OF BULK AT MOST 1048576: true; the input reads as it did. -/
def tallySlotsUptoRow : OpenClaim := { program := "ytdiikoiadhdeoaa", sum := "459dbe5bfee5545e874126d40cea94b385b8d600a0f02b04f12f5db20d221dca", func := "astragal/astragallaw51.TallySlots", spec := "tallySlots", unfollowed := true, recurses := true, apart := false, narrowed := true }
def TallySlotsUptoSaid : Prop := tallySlotsUptoRow.holds Try.pinned (OpenSpec.upto tallySlotsSpec)

end Rows
end Go.Proofs.Ytdiikoiadhdeoaa
