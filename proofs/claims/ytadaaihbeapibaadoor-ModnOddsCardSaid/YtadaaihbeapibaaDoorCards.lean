/-
  DERIVED. GIVEN WITH THE SEED: THE CARDS: each row of YtadaaihbeapibaaDoorRows.lean that lists a variable, with what it lists TIED to the program's text (the seventh form; the later family's looks); each row that meets fmt, with fmt's text TOLD by the authors' own Lean function (tested against real Go, not proved from fmt's source: count such statements apart). THE CARD IS WHAT COUNTS. Prove the row's statement (the work); the ties are given (YtadaaihbeapibaaDoorTie.lean); close each card by the builder's one call (the guide's Derived/Test/ToyasCard.lean, 'card_holds'). Laid BY PROGRAM, IN A SANDBOX (cutbox-door.mjs). By AI agents, Wed Nov 11 2026. No macro, syntax, notation, axiom, sorry.
-/
import Derived.Test.YtadaaihbeapibaaDoorRows
import GoSem.ClaimSeven
namespace Go.Proofs.YtadaaihbeapibaaDoor
namespace Rows

/-- THE TIED CARD OF 'astragallaw03.ModnOdds'. -/
def modnOddsCard : Claim7 := { stood := { row := modnOddsRow, standIns := [], harness := (true, "2d724d9605325d3489f46a9603cb9789ae8b40b6766b910edb063c204f0a8dad"), looks := false }, kinds := [], alts := [], laidByText := true, laidKinds := [.data], laidTests := true, laidLooks := .later }
def ModnOddsCardSaid : Prop := Claim7.holds Tryd.pinned (.plain (OpenSpec.ofChange modnOddsSpec)) modnOddsCard

/-- THE TIED CARD OF 'astragallaw05.Mers89Folds'. -/
def mers89FoldsCard : Claim7 := { stood := { row := mers89FoldsRow, standIns := [], harness := (true, "2d724d9605325d3489f46a9603cb9789ae8b40b6766b910edb063c204f0a8dad"), looks := false }, kinds := [], alts := [], laidByText := true, laidKinds := [.data, .data, .data], laidTests := true, laidLooks := .later }
def Mers89FoldsCardSaid : Prop := Claim7.holds Tryd.pinned (.plain (OpenSpec.ofChange mers89FoldsSpec)) mers89FoldsCard

/-- THE SECOND FORM's CARD OF 'astragallaw03.ModnOdds'. -/
def modnOddsUptoCard : Claim7 := { stood := { row := modnOddsUptoRow, standIns := [], harness := (true, "2d724d9605325d3489f46a9603cb9789ae8b40b6766b910edb063c204f0a8dad"), looks := false }, kinds := [], alts := [], laidByText := true, laidKinds := [.data], laidTests := true, laidLooks := .later }
def ModnOddsUptoCardSaid : Prop := Claim7.holds Tryd.pinned (.plain (OpenSpec.upto modnOddsSpec)) modnOddsUptoCard

/-- THE SECOND FORM's CARD OF 'astragallaw05.Mers89Folds'. -/
def mers89FoldsUptoCard : Claim7 := { stood := { row := mers89FoldsUptoRow, standIns := [], harness := (true, "2d724d9605325d3489f46a9603cb9789ae8b40b6766b910edb063c204f0a8dad"), looks := false }, kinds := [], alts := [], laidByText := true, laidKinds := [.data, .data, .data], laidTests := true, laidLooks := .later }
def Mers89FoldsUptoCardSaid : Prop := Claim7.holds Tryd.pinned (.plain (OpenSpec.upto mers89FoldsSpec)) mers89FoldsUptoCard
end Rows
end Go.Proofs.YtadaaihbeapibaaDoor
