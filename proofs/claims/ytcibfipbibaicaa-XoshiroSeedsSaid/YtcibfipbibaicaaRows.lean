/-
  No cell of these rows narrows 'for every input' (looked for: loops, veiled, ifaces, maps, wideKeys, modest, calm, conditions, laid).
  DERIVED. THE GIVEN ROWS OF THIS SEAT. 8 by the template 'for every input the law returns true; each argument reads behind the call as it read before'; 0 by the template 'total and deterministic' (their statements: YtcibfipbibaicaaTotals.lean).
  GIVEN WITH THE SEED: the statements are not yours to turn. If you find one false, say at which input.
  Laid BY PROGRAM, IN A SANDBOX (cutbox-rows.mjs): the forced cells as the released guide's own fill.sh prints them over the translation 8f6f282046b30e4d… (all of the seat's roots in one cut). By AI agents, Wed Nov 11 2026. No macro, syntax, notation, axiom, sorry.
-/
import Derived.Test.YtcibfipbibaicaaChecked
import GoSem.Claim
import GoSem.ClaimJoined
import GoSem.ClaimMapViews
import Derived.JoinedTies
import Derived.KernelRfl
namespace Go.Proofs.Ytcibfipbibaicaa
/- THE CELL 'sum', in the pinned program and in every row, IS THE sha256 OF THE DUMP (.gsa) THAT YtcibfipbibaicaaProg.lean LOADS. Nothing in Lean hashes anything: it is a label: what it is worth is what the hold of that sum in a sandbox is worth. -/
noncomputable def Try.pinned : Pinned := { name := "ytcibfipbibaicaa", sum := "8f6f282046b30e4da08f7420423a0e14f8533bedf689e0e0b1a989867a41720d", checked := Try.checked }
namespace Rows
def none {H : Type} : Left H := { results := [], args := [] }

/-- 'astragallaw09.XoshiroTells': WHATEVER THE INPUT: true; the input reads as it did. -/
def xoshiroTellsSpec : ChangeSpec := { name := "xoshiroTells", fn := fun _ => fun
  | [d] => { results := [.lit (.bool true)], args := [d] }
  | _ => none }
def xoshiroTellsRow : OpenClaim := { program := "ytcibfipbibaicaa", sum := "8f6f282046b30e4da08f7420423a0e14f8533bedf689e0e0b1a989867a41720d", func := "astragal/astragallaw09.XoshiroTells", spec := "xoshiroTells", unfollowed := true, recurses := true, apart := false }
def XoshiroTellsSaid : Prop := xoshiroTellsRow.holds Try.pinned (OpenSpec.ofChange xoshiroTellsSpec)

/-- ITS FALSE NEIGHBOUR: 'it returns false'. Refute it at one input. -/
def xoshiroTellsWrong : ChangeSpec := { name := "xoshiroTells", fn := fun _ => fun
  | [d] => { results := [.lit (.bool false)], args := [d] }
  | _ => none }
def XoshiroTellsWrongFalsely : Prop := xoshiroTellsRow.holds Try.pinned (OpenSpec.ofChange xoshiroTellsWrong)

/-- 'astragallaw09.XoshiroBack': WHATEVER THE INPUT: true; the input reads as it did. -/
def xoshiroBackSpec : ChangeSpec := { name := "xoshiroBack", fn := fun _ => fun
  | [d1, d2] => { results := [.lit (.bool true)], args := [d1, d2] }
  | _ => none }
def xoshiroBackRow : OpenClaim := { program := "ytcibfipbibaicaa", sum := "8f6f282046b30e4da08f7420423a0e14f8533bedf689e0e0b1a989867a41720d", func := "astragal/astragallaw09.XoshiroBack", spec := "xoshiroBack", unfollowed := true, recurses := true, apart := false }
def XoshiroBackSaid : Prop := xoshiroBackRow.holds Try.pinned (OpenSpec.ofChange xoshiroBackSpec)

/-- ITS FALSE NEIGHBOUR: 'it returns false'. Refute it at one input. -/
def xoshiroBackWrong : ChangeSpec := { name := "xoshiroBack", fn := fun _ => fun
  | [d1, d2] => { results := [.lit (.bool false)], args := [d1, d2] }
  | _ => none }
def XoshiroBackWrongFalsely : Prop := xoshiroBackRow.holds Try.pinned (OpenSpec.ofChange xoshiroBackWrong)

/-- 'astragallaw09.XoshiroLine': WHATEVER THE INPUT: true; the input reads as it did. -/
def xoshiroLineSpec : ChangeSpec := { name := "xoshiroLine", fn := fun _ => fun
  | [d1, d2] => { results := [.lit (.bool true)], args := [d1, d2] }
  | _ => none }
def xoshiroLineRow : OpenClaim := { program := "ytcibfipbibaicaa", sum := "8f6f282046b30e4da08f7420423a0e14f8533bedf689e0e0b1a989867a41720d", func := "astragal/astragallaw09.XoshiroLine", spec := "xoshiroLine", unfollowed := true, recurses := true, apart := false }
def XoshiroLineSaid : Prop := xoshiroLineRow.holds Try.pinned (OpenSpec.ofChange xoshiroLineSpec)

/-- ITS FALSE NEIGHBOUR: 'it returns false'. Refute it at one input. -/
def xoshiroLineWrong : ChangeSpec := { name := "xoshiroLine", fn := fun _ => fun
  | [d1, d2] => { results := [.lit (.bool false)], args := [d1, d2] }
  | _ => none }
def XoshiroLineWrongFalsely : Prop := xoshiroLineRow.holds Try.pinned (OpenSpec.ofChange xoshiroLineWrong)

/-- 'astragallaw09.XoshiroSeeds': WHATEVER THE INPUT: true; the input reads as it did. -/
def xoshiroSeedsSpec : ChangeSpec := { name := "xoshiroSeeds", fn := fun _ => fun
  | [d1, d2] => { results := [.lit (.bool true)], args := [d1, d2] }
  | _ => none }
def xoshiroSeedsRow : OpenClaim := { program := "ytcibfipbibaicaa", sum := "8f6f282046b30e4da08f7420423a0e14f8533bedf689e0e0b1a989867a41720d", func := "astragal/astragallaw09.XoshiroSeeds", spec := "xoshiroSeeds", unfollowed := true, recurses := true, apart := false }
def XoshiroSeedsSaid : Prop := xoshiroSeedsRow.holds Try.pinned (OpenSpec.ofChange xoshiroSeedsSpec)

/-- ITS FALSE NEIGHBOUR: 'it returns false'. Refute it at one input. -/
def xoshiroSeedsWrong : ChangeSpec := { name := "xoshiroSeeds", fn := fun _ => fun
  | [d1, d2] => { results := [.lit (.bool false)], args := [d1, d2] }
  | _ => none }
def XoshiroSeedsWrongFalsely : Prop := xoshiroSeedsRow.holds Try.pinned (OpenSpec.ofChange xoshiroSeedsWrong)

/-- 'astragallaw10.XoroshiroTells': WHATEVER THE INPUT: true; the input reads as it did. -/
def xoroshiroTellsSpec : ChangeSpec := { name := "xoroshiroTells", fn := fun _ => fun
  | [d1, d2, d3] => { results := [.lit (.bool true)], args := [d1, d2, d3] }
  | _ => none }
def xoroshiroTellsRow : OpenClaim := { program := "ytcibfipbibaicaa", sum := "8f6f282046b30e4da08f7420423a0e14f8533bedf689e0e0b1a989867a41720d", func := "astragal/astragallaw10.XoroshiroTells", spec := "xoroshiroTells", unfollowed := true, recurses := true, apart := false }
def XoroshiroTellsSaid : Prop := xoroshiroTellsRow.holds Try.pinned (OpenSpec.ofChange xoroshiroTellsSpec)

/-- ITS FALSE NEIGHBOUR: 'it returns false'. Refute it at one input. -/
def xoroshiroTellsWrong : ChangeSpec := { name := "xoroshiroTells", fn := fun _ => fun
  | [d1, d2, d3] => { results := [.lit (.bool false)], args := [d1, d2, d3] }
  | _ => none }
def XoroshiroTellsWrongFalsely : Prop := xoroshiroTellsRow.holds Try.pinned (OpenSpec.ofChange xoroshiroTellsWrong)

/-- 'astragallaw10.XoroshiroBack': WHATEVER THE INPUT: true; the input reads as it did. -/
def xoroshiroBackSpec : ChangeSpec := { name := "xoroshiroBack", fn := fun _ => fun
  | [d1, d2, d3] => { results := [.lit (.bool true)], args := [d1, d2, d3] }
  | _ => none }
def xoroshiroBackRow : OpenClaim := { program := "ytcibfipbibaicaa", sum := "8f6f282046b30e4da08f7420423a0e14f8533bedf689e0e0b1a989867a41720d", func := "astragal/astragallaw10.XoroshiroBack", spec := "xoroshiroBack", unfollowed := true, recurses := true, apart := false }
def XoroshiroBackSaid : Prop := xoroshiroBackRow.holds Try.pinned (OpenSpec.ofChange xoroshiroBackSpec)

/-- ITS FALSE NEIGHBOUR: 'it returns false'. Refute it at one input. -/
def xoroshiroBackWrong : ChangeSpec := { name := "xoroshiroBack", fn := fun _ => fun
  | [d1, d2, d3] => { results := [.lit (.bool false)], args := [d1, d2, d3] }
  | _ => none }
def XoroshiroBackWrongFalsely : Prop := xoroshiroBackRow.holds Try.pinned (OpenSpec.ofChange xoroshiroBackWrong)

/-- 'astragallaw10.XoroshiroLine': WHATEVER THE INPUT: true; the input reads as it did. -/
def xoroshiroLineSpec : ChangeSpec := { name := "xoroshiroLine", fn := fun _ => fun
  | [d1, d2, d3] => { results := [.lit (.bool true)], args := [d1, d2, d3] }
  | _ => none }
def xoroshiroLineRow : OpenClaim := { program := "ytcibfipbibaicaa", sum := "8f6f282046b30e4da08f7420423a0e14f8533bedf689e0e0b1a989867a41720d", func := "astragal/astragallaw10.XoroshiroLine", spec := "xoroshiroLine", apart := false }
def XoroshiroLineSaid : Prop := xoroshiroLineRow.holds Try.pinned (OpenSpec.ofChange xoroshiroLineSpec)

/-- ITS FALSE NEIGHBOUR: 'it returns false'. Refute it at one input. -/
def xoroshiroLineWrong : ChangeSpec := { name := "xoroshiroLine", fn := fun _ => fun
  | [d1, d2, d3] => { results := [.lit (.bool false)], args := [d1, d2, d3] }
  | _ => none }
def XoroshiroLineWrongFalsely : Prop := xoroshiroLineRow.holds Try.pinned (OpenSpec.ofChange xoroshiroLineWrong)

/-- 'astragallaw10.XoroshiroSeeds': WHATEVER THE INPUT: true; the input reads as it did. -/
def xoroshiroSeedsSpec : ChangeSpec := { name := "xoroshiroSeeds", fn := fun _ => fun
  | [d1, d2] => { results := [.lit (.bool true)], args := [d1, d2] }
  | _ => none }
def xoroshiroSeedsRow : OpenClaim := { program := "ytcibfipbibaicaa", sum := "8f6f282046b30e4da08f7420423a0e14f8533bedf689e0e0b1a989867a41720d", func := "astragal/astragallaw10.XoroshiroSeeds", spec := "xoroshiroSeeds", unfollowed := true, recurses := true, apart := false }
def XoroshiroSeedsSaid : Prop := xoroshiroSeedsRow.holds Try.pinned (OpenSpec.ofChange xoroshiroSeedsSpec)

/-- ITS FALSE NEIGHBOUR: 'it returns false'. Refute it at one input. -/
def xoroshiroSeedsWrong : ChangeSpec := { name := "xoroshiroSeeds", fn := fun _ => fun
  | [d1, d2] => { results := [.lit (.bool false)], args := [d1, d2] }
  | _ => none }
def XoroshiroSeedsWrongFalsely : Prop := xoroshiroSeedsRow.holds Try.pinned (OpenSpec.ofChange xoroshiroSeedsWrong)

/- THE SECOND FORM. 'bulk': how many values and letters a reading holds, each counted each time it is reached (what is shared counts as often as it is met; a slice's spare places count too). A statement '..UptoSaid' is the law's where the arguments, and the package variables that the reading takes, are together of bulk at most 1048576: NARROWER than '..Said'. Prove '..Said' where nothing that the law and all that it calls make is longer than what came in: it says more and counts as full. Else prove '..UptoSaid'. A law counts once. -/
mutual
def uptoBulk {H : Type} : DataW H → Nat
  | .lit (.string bytes) => bytes.length + 1
  | .lit _ => 1
  | .nil => 1
  | .ptr d => uptoBulk d + 1
  | .slice elems spare => uptoBulkAll elems + uptoBulkAll spare + 1
  | .agg parts => uptoBulkAll parts + 1
  | .iface _ d => uptoBulk d + 1
  | .map entries => uptoBulkEntries entries + 1
  | .held _ => 1
def uptoBulkAll {H : Type} : List (DataW H) → Nat
  | [] => 0
  | d :: r => uptoBulk d + uptoBulkAll r
def uptoBulkEntries {H : Type} : List (Lit × DataW H) → Nat
  | [] => 0
  | x :: r => uptoBulkEntry x + uptoBulkEntries r
def uptoBulkEntry {H : Type} : Lit × DataW H → Nat
  | (.string bytes, d) => bytes.length + uptoBulk d + 1
  | (_, d) => uptoBulk d + 1
 end
def uptoSmall : (H : Type) → List (DataW H) → Bool := fun _ ds => decide (uptoBulkAll ds ≤ 1048576)
def OpenSpec.upto (s : _root_.Go.ChangeSpec) : _root_.Go.OpenSpec := { _root_.Go.OpenSpec.ofChange s with cond := some uptoSmall }

/-- 'astragallaw09.XoshiroTells', WHERE WHAT IT READS IS OF BULK AT MOST 1048576: true; the input reads as it did. -/
def xoshiroTellsUptoRow : OpenClaim := { program := "ytcibfipbibaicaa", sum := "8f6f282046b30e4da08f7420423a0e14f8533bedf689e0e0b1a989867a41720d", func := "astragal/astragallaw09.XoshiroTells", spec := "xoshiroTells", unfollowed := true, recurses := true, apart := false, narrowed := true }
def XoshiroTellsUptoSaid : Prop := xoshiroTellsUptoRow.holds Try.pinned (OpenSpec.upto xoshiroTellsSpec)

/-- 'astragallaw09.XoshiroBack', WHERE WHAT IT READS IS OF BULK AT MOST 1048576: true; the input reads as it did. -/
def xoshiroBackUptoRow : OpenClaim := { program := "ytcibfipbibaicaa", sum := "8f6f282046b30e4da08f7420423a0e14f8533bedf689e0e0b1a989867a41720d", func := "astragal/astragallaw09.XoshiroBack", spec := "xoshiroBack", unfollowed := true, recurses := true, apart := false, narrowed := true }
def XoshiroBackUptoSaid : Prop := xoshiroBackUptoRow.holds Try.pinned (OpenSpec.upto xoshiroBackSpec)

/-- 'astragallaw09.XoshiroLine', WHERE WHAT IT READS IS OF BULK AT MOST 1048576: true; the input reads as it did. -/
def xoshiroLineUptoRow : OpenClaim := { program := "ytcibfipbibaicaa", sum := "8f6f282046b30e4da08f7420423a0e14f8533bedf689e0e0b1a989867a41720d", func := "astragal/astragallaw09.XoshiroLine", spec := "xoshiroLine", unfollowed := true, recurses := true, apart := false, narrowed := true }
def XoshiroLineUptoSaid : Prop := xoshiroLineUptoRow.holds Try.pinned (OpenSpec.upto xoshiroLineSpec)

/-- 'astragallaw09.XoshiroSeeds', WHERE WHAT IT READS IS OF BULK AT MOST 1048576: true; the input reads as it did. -/
def xoshiroSeedsUptoRow : OpenClaim := { program := "ytcibfipbibaicaa", sum := "8f6f282046b30e4da08f7420423a0e14f8533bedf689e0e0b1a989867a41720d", func := "astragal/astragallaw09.XoshiroSeeds", spec := "xoshiroSeeds", unfollowed := true, recurses := true, apart := false, narrowed := true }
def XoshiroSeedsUptoSaid : Prop := xoshiroSeedsUptoRow.holds Try.pinned (OpenSpec.upto xoshiroSeedsSpec)

/-- 'astragallaw10.XoroshiroTells', WHERE WHAT IT READS IS OF BULK AT MOST 1048576: true; the input reads as it did. -/
def xoroshiroTellsUptoRow : OpenClaim := { program := "ytcibfipbibaicaa", sum := "8f6f282046b30e4da08f7420423a0e14f8533bedf689e0e0b1a989867a41720d", func := "astragal/astragallaw10.XoroshiroTells", spec := "xoroshiroTells", unfollowed := true, recurses := true, apart := false, narrowed := true }
def XoroshiroTellsUptoSaid : Prop := xoroshiroTellsUptoRow.holds Try.pinned (OpenSpec.upto xoroshiroTellsSpec)

/-- 'astragallaw10.XoroshiroBack', WHERE WHAT IT READS IS OF BULK AT MOST 1048576: true; the input reads as it did. -/
def xoroshiroBackUptoRow : OpenClaim := { program := "ytcibfipbibaicaa", sum := "8f6f282046b30e4da08f7420423a0e14f8533bedf689e0e0b1a989867a41720d", func := "astragal/astragallaw10.XoroshiroBack", spec := "xoroshiroBack", unfollowed := true, recurses := true, apart := false, narrowed := true }
def XoroshiroBackUptoSaid : Prop := xoroshiroBackUptoRow.holds Try.pinned (OpenSpec.upto xoroshiroBackSpec)

/-- 'astragallaw10.XoroshiroLine', WHERE WHAT IT READS IS OF BULK AT MOST 1048576: true; the input reads as it did. -/
def xoroshiroLineUptoRow : OpenClaim := { program := "ytcibfipbibaicaa", sum := "8f6f282046b30e4da08f7420423a0e14f8533bedf689e0e0b1a989867a41720d", func := "astragal/astragallaw10.XoroshiroLine", spec := "xoroshiroLine", apart := false, narrowed := true }
def XoroshiroLineUptoSaid : Prop := xoroshiroLineUptoRow.holds Try.pinned (OpenSpec.upto xoroshiroLineSpec)

/-- 'astragallaw10.XoroshiroSeeds', WHERE WHAT IT READS IS OF BULK AT MOST 1048576: true; the input reads as it did. -/
def xoroshiroSeedsUptoRow : OpenClaim := { program := "ytcibfipbibaicaa", sum := "8f6f282046b30e4da08f7420423a0e14f8533bedf689e0e0b1a989867a41720d", func := "astragal/astragallaw10.XoroshiroSeeds", spec := "xoroshiroSeeds", unfollowed := true, recurses := true, apart := false, narrowed := true }
def XoroshiroSeedsUptoSaid : Prop := xoroshiroSeedsUptoRow.holds Try.pinned (OpenSpec.upto xoroshiroSeedsSpec)

end Rows
end Go.Proofs.Ytcibfipbibaicaa
