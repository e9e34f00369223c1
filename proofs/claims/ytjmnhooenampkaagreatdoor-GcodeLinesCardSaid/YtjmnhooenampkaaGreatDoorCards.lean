/-
  DERIVED. GIVEN WITH THE SEED: THE CARDS: each row of YtjmnhooenampkaaGreatDoorRows.lean that lists a variable, with what it lists TIED to the program's text (the seventh form; the later family's looks); each row that meets fmt, with fmt's text TOLD by the authors' own Lean function (tested against real Go, not proved from fmt's source: count such statements apart). THE CARD IS WHAT COUNTS. Prove the row's statement (the work); the ties are given (YtjmnhooenampkaaGreatDoorTie.lean); close each card by the builder's one call (the guide's Derived/Test/ToyasCard.lean, 'card_holds'). Laid BY PROGRAM, IN A SANDBOX (cutbox-door.mjs). By AI agents, Wed Nov 11 2026. No macro, syntax, notation, axiom, sorry.
-/
import Derived.Test.YtjmnhooenampkaaGreatDoorRows
import GoSem.ClaimSeven
namespace Go.Proofs.YtjmnhooenampkaaGreatDoor
namespace Rows

/-- THE TIED CARD OF 'astragallaw17.GcodeReads'. -/
def gcodeReadsCard : Claim7 := { stood := { row := gcodeReadsRow, standIns := [], harness := (true, "aecab3556cbd0986bccd248463c77fdf0167c4c6fe8e4c2a4aae7ea5aff0fda0"), looks := true }, kinds := [], alts := [], laidByText := true, laidKinds := [.handle, .sentinel, .sentinel, .sentinel, .sentinel], laidTests := true, laidLooks := .later }
def GcodeReadsCardSaid : Prop := Claim7.holds Tryz.pinned (.plain (OpenSpec.ofChange gcodeReadsSpec)) gcodeReadsCard

/-- THE TIED CARD OF 'astragallaw17.GcodeLines'. -/
def gcodeLinesCard : Claim7 := { stood := { row := gcodeLinesRow, standIns := [], harness := (true, "aecab3556cbd0986bccd248463c77fdf0167c4c6fe8e4c2a4aae7ea5aff0fda0"), looks := true }, kinds := [], alts := [], laidByText := true, laidKinds := [.data, .handle, .sentinel, .sentinel, .sentinel, .sentinel, .pinned], laidTests := true, laidLooks := .later }
def GcodeLinesCardSaid : Prop := Claim7.holds Tryz.pinned (.plain (OpenSpec.ofChange gcodeLinesSpec)) gcodeLinesCard

/-- THE TIED CARD OF 'astragallaw17.GcodeBack'. -/
def gcodeBackCard : Claim7 := { stood := { row := gcodeBackRow, standIns := [], harness := (true, "aecab3556cbd0986bccd248463c77fdf0167c4c6fe8e4c2a4aae7ea5aff0fda0"), looks := true }, kinds := [], alts := [], laidByText := true, laidKinds := [.data, .handle, .sentinel, .sentinel, .sentinel, .sentinel, .pinned], laidTests := true, laidLooks := .later }
def GcodeBackCardSaid : Prop := Claim7.holds Tryz.pinned (.plain (OpenSpec.ofChange gcodeBackSpec)) gcodeBackCard

/-- THE SECOND FORM's CARD OF 'astragallaw17.GcodeReads'. -/
def gcodeReadsUptoCard : Claim7 := { stood := { row := gcodeReadsUptoRow, standIns := [], harness := (true, "aecab3556cbd0986bccd248463c77fdf0167c4c6fe8e4c2a4aae7ea5aff0fda0"), looks := true }, kinds := [], alts := [], laidByText := true, laidKinds := [.handle, .sentinel, .sentinel, .sentinel, .sentinel], laidTests := true, laidLooks := .later }
def GcodeReadsUptoCardSaid : Prop := Claim7.holds Tryz.pinned (.plain (OpenSpec.upto gcodeReadsSpec)) gcodeReadsUptoCard

/-- THE SECOND FORM's CARD OF 'astragallaw17.GcodeLines'. -/
def gcodeLinesUptoCard : Claim7 := { stood := { row := gcodeLinesUptoRow, standIns := [], harness := (true, "aecab3556cbd0986bccd248463c77fdf0167c4c6fe8e4c2a4aae7ea5aff0fda0"), looks := true }, kinds := [], alts := [], laidByText := true, laidKinds := [.data, .handle, .sentinel, .sentinel, .sentinel, .sentinel, .pinned], laidTests := true, laidLooks := .later }
def GcodeLinesUptoCardSaid : Prop := Claim7.holds Tryz.pinned (.plain (OpenSpec.upto gcodeLinesSpec)) gcodeLinesUptoCard

/-- THE SECOND FORM's CARD OF 'astragallaw17.GcodeBack'. -/
def gcodeBackUptoCard : Claim7 := { stood := { row := gcodeBackUptoRow, standIns := [], harness := (true, "aecab3556cbd0986bccd248463c77fdf0167c4c6fe8e4c2a4aae7ea5aff0fda0"), looks := true }, kinds := [], alts := [], laidByText := true, laidKinds := [.data, .handle, .sentinel, .sentinel, .sentinel, .sentinel, .pinned], laidTests := true, laidLooks := .later }
def GcodeBackUptoCardSaid : Prop := Claim7.holds Tryz.pinned (.plain (OpenSpec.upto gcodeBackSpec)) gcodeBackUptoCard
end Rows
end Go.Proofs.YtjmnhooenampkaaGreatDoor
