/-
  No cell of these rows narrows 'for every input' (looked for: loops, veiled, ifaces, maps, wideKeys, modest, calm, conditions, laid).
  DERIVED. THE GIVEN ROWS OF THIS SEAT. 14 by the template 'for every input the law returns true; each argument reads behind the call as it read before'; 0 by the template 'total and deterministic' (their statements: YtpmndoedlbiliaaTotals.lean).
  GIVEN WITH THE SEED: the statements are not yours to turn. If you find one false, say at which input.
  Laid BY PROGRAM, IN A SANDBOX (cutbox-rows.mjs): the forced cells as the released guide's own fill.sh prints them over the translation 04b3551570ad5e28… (all of the seat's roots in one cut). By AI agents, Wed Nov 11 2026. No macro, syntax, notation, axiom, sorry.
-/
import Derived.Test.YtpmndoedlbiliaaChecked
import GoSem.Claim
import GoSem.ClaimJoined
import GoSem.ClaimMapViews
import Derived.JoinedTies
import Derived.KernelRfl
namespace Go.Proofs.Ytpmndoedlbiliaa
/- THE CELL 'sum', in the pinned program and in every row, IS THE sha256 OF THE DUMP (.gsa) THAT YtpmndoedlbiliaaProg.lean LOADS. Nothing in Lean hashes anything: it is a label: what it is worth is what the hold of that sum in a sandbox is worth. -/
noncomputable def Try.pinned : Pinned := { name := "ytpmndoedlbiliaa", sum := "04b3551570ad5e2897536dd9939d156f0f373616f569eb6485d70f7d166b2ff8", checked := Try.checked }
namespace Rows
def none {H : Type} : Left H := { results := [], args := [] }

/-- 'astragallaw43.AliasBuilds': WHATEVER THE INPUT: true; the input reads as it did. -/
def aliasBuildsSpec : ChangeSpec := { name := "aliasBuilds", fn := fun _ => fun
  | [d] => { results := [.lit (.bool true)], args := [d] }
  | _ => none }
def aliasBuildsRow : OpenClaim := { program := "ytpmndoedlbiliaa", sum := "04b3551570ad5e2897536dd9939d156f0f373616f569eb6485d70f7d166b2ff8", func := "astragal/astragallaw43.AliasBuilds", spec := "aliasBuilds", unfollowed := true, recurses := true, apart := false }
def AliasBuildsSaid : Prop := aliasBuildsRow.holds Try.pinned (OpenSpec.ofChange aliasBuildsSpec)

/-- ITS FALSE NEIGHBOUR: 'it returns false'. Refute it at one input. -/
def aliasBuildsWrong : ChangeSpec := { name := "aliasBuilds", fn := fun _ => fun
  | [d] => { results := [.lit (.bool false)], args := [d] }
  | _ => none }
def AliasBuildsWrongFalsely : Prop := aliasBuildsRow.holds Try.pinned (OpenSpec.ofChange aliasBuildsWrong)

/-- 'astragallaw43.AliasWeighs': WHATEVER THE INPUT: true; the input reads as it did. -/
def aliasWeighsSpec : ChangeSpec := { name := "aliasWeighs", fn := fun _ => fun
  | [d] => { results := [.lit (.bool true)], args := [d] }
  | _ => none }
def aliasWeighsRow : OpenClaim := { program := "ytpmndoedlbiliaa", sum := "04b3551570ad5e2897536dd9939d156f0f373616f569eb6485d70f7d166b2ff8", func := "astragal/astragallaw43.AliasWeighs", spec := "aliasWeighs", unfollowed := true, recurses := true, apart := false }
def AliasWeighsSaid : Prop := aliasWeighsRow.holds Try.pinned (OpenSpec.ofChange aliasWeighsSpec)

/-- ITS FALSE NEIGHBOUR: 'it returns false'. Refute it at one input. -/
def aliasWeighsWrong : ChangeSpec := { name := "aliasWeighs", fn := fun _ => fun
  | [d] => { results := [.lit (.bool false)], args := [d] }
  | _ => none }
def AliasWeighsWrongFalsely : Prop := aliasWeighsRow.holds Try.pinned (OpenSpec.ofChange aliasWeighsWrong)

/-- 'astragallaw43.AliasTells': WHATEVER THE INPUT: true; the input reads as it did. -/
def aliasTellsSpec : ChangeSpec := { name := "aliasTells", fn := fun _ => fun
  | [d1, d2, d3, d4] => { results := [.lit (.bool true)], args := [d1, d2, d3, d4] }
  | _ => none }
def aliasTellsRow : OpenClaim := { program := "ytpmndoedlbiliaa", sum := "04b3551570ad5e2897536dd9939d156f0f373616f569eb6485d70f7d166b2ff8", func := "astragal/astragallaw43.AliasTells", spec := "aliasTells", unfollowed := true, recurses := true, apart := false }
def AliasTellsSaid : Prop := aliasTellsRow.holds Try.pinned (OpenSpec.ofChange aliasTellsSpec)

/-- ITS FALSE NEIGHBOUR: 'it returns false'. Refute it at one input. -/
def aliasTellsWrong : ChangeSpec := { name := "aliasTells", fn := fun _ => fun
  | [d1, d2, d3, d4] => { results := [.lit (.bool false)], args := [d1, d2, d3, d4] }
  | _ => none }
def AliasTellsWrongFalsely : Prop := aliasTellsRow.holds Try.pinned (OpenSpec.ofChange aliasTellsWrong)

/-- 'astragallaw43.AliasPairs': WHATEVER THE INPUT: true; the input reads as it did. -/
def aliasPairsSpec : ChangeSpec := { name := "aliasPairs", fn := fun _ => fun
  | [d1, d2, d3, d4, d5] => { results := [.lit (.bool true)], args := [d1, d2, d3, d4, d5] }
  | _ => none }
def aliasPairsRow : OpenClaim := { program := "ytpmndoedlbiliaa", sum := "04b3551570ad5e2897536dd9939d156f0f373616f569eb6485d70f7d166b2ff8", func := "astragal/astragallaw43.AliasPairs", spec := "aliasPairs", unfollowed := true, recurses := true, apart := false }
def AliasPairsSaid : Prop := aliasPairsRow.holds Try.pinned (OpenSpec.ofChange aliasPairsSpec)

/-- ITS FALSE NEIGHBOUR: 'it returns false'. Refute it at one input. -/
def aliasPairsWrong : ChangeSpec := { name := "aliasPairs", fn := fun _ => fun
  | [d1, d2, d3, d4, d5] => { results := [.lit (.bool false)], args := [d1, d2, d3, d4, d5] }
  | _ => none }
def AliasPairsWrongFalsely : Prop := aliasPairsRow.holds Try.pinned (OpenSpec.ofChange aliasPairsWrong)

/-- 'astragallaw43.AliasTakes': WHATEVER THE INPUT: true; the input reads as it did. -/
def aliasTakesSpec : ChangeSpec := { name := "aliasTakes", fn := fun _ => fun
  | [d1, d2] => { results := [.lit (.bool true)], args := [d1, d2] }
  | _ => none }
def aliasTakesRow : OpenClaim := { program := "ytpmndoedlbiliaa", sum := "04b3551570ad5e2897536dd9939d156f0f373616f569eb6485d70f7d166b2ff8", func := "astragal/astragallaw43.AliasTakes", spec := "aliasTakes", unfollowed := true, recurses := true, named := ["math/bits.divideError", "math/bits.overflowError"], apart := false }
def AliasTakesSaid : Prop := aliasTakesRow.holds Try.pinned (OpenSpec.ofChange aliasTakesSpec)

/-- ITS FALSE NEIGHBOUR: 'it returns false'. Refute it at one input. -/
def aliasTakesWrong : ChangeSpec := { name := "aliasTakes", fn := fun _ => fun
  | [d1, d2] => { results := [.lit (.bool false)], args := [d1, d2] }
  | _ => none }
def AliasTakesWrongFalsely : Prop := aliasTakesRow.holds Try.pinned (OpenSpec.ofChange aliasTakesWrong)

/-- 'astragallaw48.HandlesLists': WHATEVER THE INPUT: true; the input reads as it did. -/
def handlesListsSpec : ChangeSpec := { name := "handlesLists", fn := fun _ => fun
  | [d1, d2] => { results := [.lit (.bool true)], args := [d1, d2] }
  | _ => none }
def handlesListsRow : OpenClaim := { program := "ytpmndoedlbiliaa", sum := "04b3551570ad5e2897536dd9939d156f0f373616f569eb6485d70f7d166b2ff8", func := "astragal/astragallaw48.HandlesLists", spec := "handlesLists", unfollowed := true, recurses := true, apart := false }
def HandlesListsSaid : Prop := handlesListsRow.holds Try.pinned (OpenSpec.ofChange handlesListsSpec)

/-- ITS FALSE NEIGHBOUR: 'it returns false'. Refute it at one input. -/
def handlesListsWrong : ChangeSpec := { name := "handlesLists", fn := fun _ => fun
  | [d1, d2] => { results := [.lit (.bool false)], args := [d1, d2] }
  | _ => none }
def HandlesListsWrongFalsely : Prop := handlesListsRow.holds Try.pinned (OpenSpec.ofChange handlesListsWrong)

/-- 'astragallaw48.HandlesOnce': WHATEVER THE INPUT: true; the input reads as it did. -/
def handlesOnceSpec : ChangeSpec := { name := "handlesOnce", fn := fun _ => fun
  | [d1, d2] => { results := [.lit (.bool true)], args := [d1, d2] }
  | _ => none }
def handlesOnceRow : OpenClaim := { program := "ytpmndoedlbiliaa", sum := "04b3551570ad5e2897536dd9939d156f0f373616f569eb6485d70f7d166b2ff8", func := "astragal/astragallaw48.HandlesOnce", spec := "handlesOnce", unfollowed := true, recurses := true, apart := false }
def HandlesOnceSaid : Prop := handlesOnceRow.holds Try.pinned (OpenSpec.ofChange handlesOnceSpec)

/-- ITS FALSE NEIGHBOUR: 'it returns false'. Refute it at one input. -/
def handlesOnceWrong : ChangeSpec := { name := "handlesOnce", fn := fun _ => fun
  | [d1, d2] => { results := [.lit (.bool false)], args := [d1, d2] }
  | _ => none }
def HandlesOnceWrongFalsely : Prop := handlesOnceRow.holds Try.pinned (OpenSpec.ofChange handlesOnceWrong)

/-- 'astragallaw48.HandlesNone': WHATEVER THE INPUT: true; the input reads as it did. -/
def handlesNoneSpec : ChangeSpec := { name := "handlesNone", fn := fun _ => fun
  | [d1, d2] => { results := [.lit (.bool true)], args := [d1, d2] }
  | _ => none }
def handlesNoneRow : OpenClaim := { program := "ytpmndoedlbiliaa", sum := "04b3551570ad5e2897536dd9939d156f0f373616f569eb6485d70f7d166b2ff8", func := "astragal/astragallaw48.HandlesNone", spec := "handlesNone", unfollowed := true, recurses := true, apart := false }
def HandlesNoneSaid : Prop := handlesNoneRow.holds Try.pinned (OpenSpec.ofChange handlesNoneSpec)

/-- ITS FALSE NEIGHBOUR: 'it returns false'. Refute it at one input. -/
def handlesNoneWrong : ChangeSpec := { name := "handlesNone", fn := fun _ => fun
  | [d1, d2] => { results := [.lit (.bool false)], args := [d1, d2] }
  | _ => none }
def HandlesNoneWrongFalsely : Prop := handlesNoneRow.holds Try.pinned (OpenSpec.ofChange handlesNoneWrong)

/-- 'astragallaw51.TallyWords': WHATEVER THE INPUT: true; the input reads as it did. -/
def tallyWordsSpec : ChangeSpec := { name := "tallyWords", fn := fun _ => fun
  | [d1, d2] => { results := [.lit (.bool true)], args := [d1, d2] }
  | _ => none }
def tallyWordsRow : OpenClaim := { program := "ytpmndoedlbiliaa", sum := "04b3551570ad5e2897536dd9939d156f0f373616f569eb6485d70f7d166b2ff8", func := "astragal/astragallaw51.TallyWords", spec := "tallyWords", unfollowed := true, recurses := true, apart := false }
def TallyWordsSaid : Prop := tallyWordsRow.holds Try.pinned (OpenSpec.ofChange tallyWordsSpec)

/-- ITS FALSE NEIGHBOUR: 'it returns false'. Refute it at one input. -/
def tallyWordsWrong : ChangeSpec := { name := "tallyWords", fn := fun _ => fun
  | [d1, d2] => { results := [.lit (.bool false)], args := [d1, d2] }
  | _ => none }
def TallyWordsWrongFalsely : Prop := tallyWordsRow.holds Try.pinned (OpenSpec.ofChange tallyWordsWrong)

/-- 'astragallaw51.TallyOdds': WHATEVER THE INPUT: true; the input reads as it did. -/
def tallyOddsSpec : ChangeSpec := { name := "tallyOdds", fn := fun _ => fun
  | [d1, d2, d3, d4] => { results := [.lit (.bool true)], args := [d1, d2, d3, d4] }
  | _ => none }
def tallyOddsRow : OpenClaim := { program := "ytpmndoedlbiliaa", sum := "04b3551570ad5e2897536dd9939d156f0f373616f569eb6485d70f7d166b2ff8", func := "astragal/astragallaw51.TallyOdds", spec := "tallyOdds", unfollowed := true, recurses := true, apart := false }
def TallyOddsSaid : Prop := tallyOddsRow.holds Try.pinned (OpenSpec.ofChange tallyOddsSpec)

/-- ITS FALSE NEIGHBOUR: 'it returns false'. Refute it at one input. -/
def tallyOddsWrong : ChangeSpec := { name := "tallyOdds", fn := fun _ => fun
  | [d1, d2, d3, d4] => { results := [.lit (.bool false)], args := [d1, d2, d3, d4] }
  | _ => none }
def TallyOddsWrongFalsely : Prop := tallyOddsRow.holds Try.pinned (OpenSpec.ofChange tallyOddsWrong)

/-- 'astragallaw51.TallyAdds': WHATEVER THE INPUT: true; the input reads as it did. -/
def tallyAddsSpec : ChangeSpec := { name := "tallyAdds", fn := fun _ => fun
  | [d1, d2, d3, d4] => { results := [.lit (.bool true)], args := [d1, d2, d3, d4] }
  | _ => none }
def tallyAddsRow : OpenClaim := { program := "ytpmndoedlbiliaa", sum := "04b3551570ad5e2897536dd9939d156f0f373616f569eb6485d70f7d166b2ff8", func := "astragal/astragallaw51.TallyAdds", spec := "tallyAdds", unfollowed := true, recurses := true, apart := false }
def TallyAddsSaid : Prop := tallyAddsRow.holds Try.pinned (OpenSpec.ofChange tallyAddsSpec)

/-- ITS FALSE NEIGHBOUR: 'it returns false'. Refute it at one input. -/
def tallyAddsWrong : ChangeSpec := { name := "tallyAdds", fn := fun _ => fun
  | [d1, d2, d3, d4] => { results := [.lit (.bool false)], args := [d1, d2, d3, d4] }
  | _ => none }
def TallyAddsWrongFalsely : Prop := tallyAddsRow.holds Try.pinned (OpenSpec.ofChange tallyAddsWrong)

/-- 'astragallaw51.TallyPolys': WHATEVER THE INPUT: true; the input reads as it did. -/
def tallyPolysSpec : ChangeSpec := { name := "tallyPolys", fn := fun _ => fun
  | [d1, d2, d3] => { results := [.lit (.bool true)], args := [d1, d2, d3] }
  | _ => none }
def tallyPolysRow : OpenClaim := { program := "ytpmndoedlbiliaa", sum := "04b3551570ad5e2897536dd9939d156f0f373616f569eb6485d70f7d166b2ff8", func := "astragal/astragallaw51.TallyPolys", spec := "tallyPolys", unfollowed := true, recurses := true, apart := false }
def TallyPolysSaid : Prop := tallyPolysRow.holds Try.pinned (OpenSpec.ofChange tallyPolysSpec)

/-- ITS FALSE NEIGHBOUR: 'it returns false'. Refute it at one input. -/
def tallyPolysWrong : ChangeSpec := { name := "tallyPolys", fn := fun _ => fun
  | [d1, d2, d3] => { results := [.lit (.bool false)], args := [d1, d2, d3] }
  | _ => none }
def TallyPolysWrongFalsely : Prop := tallyPolysRow.holds Try.pinned (OpenSpec.ofChange tallyPolysWrong)

/-- 'astragallaw51.TallyOrders': WHATEVER THE INPUT: true; the input reads as it did. -/
def tallyOrdersSpec : ChangeSpec := { name := "tallyOrders", fn := fun _ => fun
  | [d1, d2] => { results := [.lit (.bool true)], args := [d1, d2] }
  | _ => none }
def tallyOrdersRow : OpenClaim := { program := "ytpmndoedlbiliaa", sum := "04b3551570ad5e2897536dd9939d156f0f373616f569eb6485d70f7d166b2ff8", func := "astragal/astragallaw51.TallyOrders", spec := "tallyOrders", unfollowed := true, recurses := true, apart := false }
def TallyOrdersSaid : Prop := tallyOrdersRow.holds Try.pinned (OpenSpec.ofChange tallyOrdersSpec)

/-- ITS FALSE NEIGHBOUR: 'it returns false'. Refute it at one input. -/
def tallyOrdersWrong : ChangeSpec := { name := "tallyOrders", fn := fun _ => fun
  | [d1, d2] => { results := [.lit (.bool false)], args := [d1, d2] }
  | _ => none }
def TallyOrdersWrongFalsely : Prop := tallyOrdersRow.holds Try.pinned (OpenSpec.ofChange tallyOrdersWrong)

/-- 'astragallaw51.TallySlots': WHATEVER THE INPUT: true; the input reads as it did. -/
def tallySlotsSpec : ChangeSpec := { name := "tallySlots", fn := fun _ => fun
  | [d1, d2, d3] => { results := [.lit (.bool true)], args := [d1, d2, d3] }
  | _ => none }
def tallySlotsRow : OpenClaim := { program := "ytpmndoedlbiliaa", sum := "04b3551570ad5e2897536dd9939d156f0f373616f569eb6485d70f7d166b2ff8", func := "astragal/astragallaw51.TallySlots", spec := "tallySlots", unfollowed := true, recurses := true, apart := false }
def TallySlotsSaid : Prop := tallySlotsRow.holds Try.pinned (OpenSpec.ofChange tallySlotsSpec)

/-- ITS FALSE NEIGHBOUR: 'it returns false'. Refute it at one input. -/
def tallySlotsWrong : ChangeSpec := { name := "tallySlots", fn := fun _ => fun
  | [d1, d2, d3] => { results := [.lit (.bool false)], args := [d1, d2, d3] }
  | _ => none }
def TallySlotsWrongFalsely : Prop := tallySlotsRow.holds Try.pinned (OpenSpec.ofChange tallySlotsWrong)

/- THE SECOND FORM. 'bulk': how many values and letters a reading holds, each counted each time it is reached (what is shared counts as often as it is met; a slice's spare places count too). A statement '..UptoSaid' is the law's where the arguments, and the package variables that the reading takes, are together of bulk at most 1048576: NARROWER than '..Said'. Prove '..Said' where nothing that the law and all that it calls make is longer than what came in: it says more and counts as full. Else prove '..UptoSaid'. A law counts once. -/
mutual
def uptoBulk {H : Type} : DataW H → Nat
  | .lit (.string bytes) => bytes.length + 1
  | .lit _ => 1
  | .nil => 1
  | .ptr d => uptoBulk d + 1
  | .slice elems spare => uptoBulkAll elems + uptoBulkAll spare + 1
  | .agg parts => uptoBulkAll parts + 1
  | .iface _ d => uptoBulk d + 1
  | .map entries => uptoBulkEntries entries + 1
  | .held _ => 1
def uptoBulkAll {H : Type} : List (DataW H) → Nat
  | [] => 0
  | d :: r => uptoBulk d + uptoBulkAll r
def uptoBulkEntries {H : Type} : List (Lit × DataW H) → Nat
  | [] => 0
  | x :: r => uptoBulkEntry x + uptoBulkEntries r
def uptoBulkEntry {H : Type} : Lit × DataW H → Nat
  | (.string bytes, d) => bytes.length + uptoBulk d + 1
  | (_, d) => uptoBulk d + 1
 end
def uptoSmall : (H : Type) → List (DataW H) → Bool := fun _ ds => decide (uptoBulkAll ds ≤ 1048576)
def OpenSpec.upto (s : _root_.Go.ChangeSpec) : _root_.Go.OpenSpec := { _root_.Go.OpenSpec.ofChange s with cond := some uptoSmall }

/-- 'astragallaw43.AliasBuilds', WHERE WHAT IT READS IS OF BULK AT MOST 1048576: true; the input reads as it did. -/
def aliasBuildsUptoRow : OpenClaim := { program := "ytpmndoedlbiliaa", sum := "04b3551570ad5e2897536dd9939d156f0f373616f569eb6485d70f7d166b2ff8", func := "astragal/astragallaw43.AliasBuilds", spec := "aliasBuilds", unfollowed := true, recurses := true, apart := false, narrowed := true }
def AliasBuildsUptoSaid : Prop := aliasBuildsUptoRow.holds Try.pinned (OpenSpec.upto aliasBuildsSpec)

/-- 'astragallaw43.AliasWeighs', WHERE WHAT IT READS IS OF BULK AT MOST 1048576: true; the input reads as it did. -/
def aliasWeighsUptoRow : OpenClaim := { program := "ytpmndoedlbiliaa", sum := "04b3551570ad5e2897536dd9939d156f0f373616f569eb6485d70f7d166b2ff8", func := "astragal/astragallaw43.AliasWeighs", spec := "aliasWeighs", unfollowed := true, recurses := true, apart := false, narrowed := true }
def AliasWeighsUptoSaid : Prop := aliasWeighsUptoRow.holds Try.pinned (OpenSpec.upto aliasWeighsSpec)

/-- 'astragallaw43.AliasTells', WHERE WHAT IT READS IS OF BULK AT MOST 1048576: true; the input reads as it did. -/
def aliasTellsUptoRow : OpenClaim := { program := "ytpmndoedlbiliaa", sum := "04b3551570ad5e2897536dd9939d156f0f373616f569eb6485d70f7d166b2ff8", func := "astragal/astragallaw43.AliasTells", spec := "aliasTells", unfollowed := true, recurses := true, apart := false, narrowed := true }
def AliasTellsUptoSaid : Prop := aliasTellsUptoRow.holds Try.pinned (OpenSpec.upto aliasTellsSpec)

/-- 'astragallaw43.AliasPairs', WHERE WHAT IT READS IS OF BULK AT MOST 1048576: true; the input reads as it did. -/
def aliasPairsUptoRow : OpenClaim := { program := "ytpmndoedlbiliaa", sum := "04b3551570ad5e2897536dd9939d156f0f373616f569eb6485d70f7d166b2ff8", func := "astragal/astragallaw43.AliasPairs", spec := "aliasPairs", unfollowed := true, recurses := true, apart := false, narrowed := true }
def AliasPairsUptoSaid : Prop := aliasPairsUptoRow.holds Try.pinned (OpenSpec.upto aliasPairsSpec)

/-- 'astragallaw43.AliasTakes', WHERE WHAT IT READS IS OF BULK AT MOST 1048576: true; the input reads as it did. -/
def aliasTakesUptoRow : OpenClaim := { program := "ytpmndoedlbiliaa", sum := "04b3551570ad5e2897536dd9939d156f0f373616f569eb6485d70f7d166b2ff8", func := "astragal/astragallaw43.AliasTakes", spec := "aliasTakes", unfollowed := true, recurses := true, named := ["math/bits.divideError", "math/bits.overflowError"], apart := false, narrowed := true }
def AliasTakesUptoSaid : Prop := aliasTakesUptoRow.holds Try.pinned (OpenSpec.upto aliasTakesSpec)

/-- 'astragallaw48.HandlesLists', WHERE WHAT IT READS IS OF BULK AT MOST 1048576: true; the input reads as it did. -/
def handlesListsUptoRow : OpenClaim := { program := "ytpmndoedlbiliaa", sum := "04b3551570ad5e2897536dd9939d156f0f373616f569eb6485d70f7d166b2ff8", func := "astragal/astragallaw48.HandlesLists", spec := "handlesLists", unfollowed := true, recurses := true, apart := false, narrowed := true }
def HandlesListsUptoSaid : Prop := handlesListsUptoRow.holds Try.pinned (OpenSpec.upto handlesListsSpec)

/-- 'astragallaw48.HandlesOnce', WHERE WHAT IT READS IS OF BULK AT MOST 1048576: true; the input reads as it did. -/
def handlesOnceUptoRow : OpenClaim := { program := "ytpmndoedlbiliaa", sum := "04b3551570ad5e2897536dd9939d156f0f373616f569eb6485d70f7d166b2ff8", func := "astragal/astragallaw48.HandlesOnce", spec := "handlesOnce", unfollowed := true, recurses := true, apart := false, narrowed := true }
def HandlesOnceUptoSaid : Prop := handlesOnceUptoRow.holds Try.pinned (OpenSpec.upto handlesOnceSpec)

/-- 'astragallaw48.HandlesNone', WHERE WHAT IT READS IS OF BULK AT MOST 1048576: true; the input reads as it did. -/
def handlesNoneUptoRow : OpenClaim := { program := "ytpmndoedlbiliaa", sum := "04b3551570ad5e2897536dd9939d156f0f373616f569eb6485d70f7d166b2ff8", func := "astragal/astragallaw48.HandlesNone", spec := "handlesNone", unfollowed := true, recurses := true, apart := false, narrowed := true }
def HandlesNoneUptoSaid : Prop := handlesNoneUptoRow.holds Try.pinned (OpenSpec.upto handlesNoneSpec)

/-- 'astragallaw51.TallyWords', WHERE WHAT IT READS IS OF BULK AT MOST 1048576: true; the input reads as it did. -/
def tallyWordsUptoRow : OpenClaim := { program := "ytpmndoedlbiliaa", sum := "04b3551570ad5e2897536dd9939d156f0f373616f569eb6485d70f7d166b2ff8", func := "astragal/astragallaw51.TallyWords", spec := "tallyWords", unfollowed := true, recurses := true, apart := false, narrowed := true }
def TallyWordsUptoSaid : Prop := tallyWordsUptoRow.holds Try.pinned (OpenSpec.upto tallyWordsSpec)

/-- 'astragallaw51.TallyOdds', WHERE WHAT IT READS IS OF BULK AT MOST 1048576: true; the input reads as it did. -/
def tallyOddsUptoRow : OpenClaim := { program := "ytpmndoedlbiliaa", sum := "04b3551570ad5e2897536dd9939d156f0f373616f569eb6485d70f7d166b2ff8", func := "astragal/astragallaw51.TallyOdds", spec := "tallyOdds", unfollowed := true, recurses := true, apart := false, narrowed := true }
def TallyOddsUptoSaid : Prop := tallyOddsUptoRow.holds Try.pinned (OpenSpec.upto tallyOddsSpec)

/-- 'astragallaw51.TallyAdds', WHERE WHAT IT READS IS OF BULK AT MOST 1048576: true; the input reads as it did. -/
def tallyAddsUptoRow : OpenClaim := { program := "ytpmndoedlbiliaa", sum := "04b3551570ad5e2897536dd9939d156f0f373616f569eb6485d70f7d166b2ff8", func := "astragal/astragallaw51.TallyAdds", spec := "tallyAdds", unfollowed := true, recurses := true, apart := false, narrowed := true }
def TallyAddsUptoSaid : Prop := tallyAddsUptoRow.holds Try.pinned (OpenSpec.upto tallyAddsSpec)

/-- 'astragallaw51.TallyPolys', WHERE WHAT IT READS IS OF BULK AT MOST 1048576: true; the input reads as it did. -/
def tallyPolysUptoRow : OpenClaim := { program := "ytpmndoedlbiliaa", sum := "04b3551570ad5e2897536dd9939d156f0f373616f569eb6485d70f7d166b2ff8", func := "astragal/astragallaw51.TallyPolys", spec := "tallyPolys", unfollowed := true, recurses := true, apart := false, narrowed := true }
def TallyPolysUptoSaid : Prop := tallyPolysUptoRow.holds Try.pinned (OpenSpec.upto tallyPolysSpec)

/-- 'astragallaw51.TallyOrders', WHERE WHAT IT READS IS OF BULK AT MOST 1048576: true; the input reads as it did. -/
def tallyOrdersUptoRow : OpenClaim := { program := "ytpmndoedlbiliaa", sum := "04b3551570ad5e2897536dd9939d156f0f373616f569eb6485d70f7d166b2ff8", func := "astragal/astragallaw51.TallyOrders", spec := "tallyOrders", unfollowed := true, recurses := true, apart := false, narrowed := true }
def TallyOrdersUptoSaid : Prop := tallyOrdersUptoRow.holds Try.pinned (OpenSpec.upto tallyOrdersSpec)

/-- 'astragallaw51.TallySlots', WHERE WHAT IT READS IS OF BULK AT MOST 1048576: true; the input reads as it did. -/
def tallySlotsUptoRow : OpenClaim := { program := "ytpmndoedlbiliaa", sum := "04b3551570ad5e2897536dd9939d156f0f373616f569eb6485d70f7d166b2ff8", func := "astragal/astragallaw51.TallySlots", spec := "tallySlots", unfollowed := true, recurses := true, apart := false, narrowed := true }
def TallySlotsUptoSaid : Prop := tallySlotsUptoRow.holds Try.pinned (OpenSpec.upto tallySlotsSpec)

end Rows
end Go.Proofs.Ytpmndoedlbiliaa
