/-
  DERIVED. GIVEN WITH THE SEED: THE CARDS: each row of YtagidgboebjkhaaDoorRows.lean that lists a variable, with what it lists TIED to the program's text (the seventh form; the later family's looks); each row that meets fmt, with fmt's text TOLD by the authors' own Lean function (tested against real Go, not proved from fmt's source: count such statements apart). THE CARD IS WHAT COUNTS. Prove the row's statement (the work); the ties are given (YtagidgboebjkhaaDoorTie.lean); close each card by the builder's one call (the guide's Derived/Test/ToyasCard.lean, 'card_holds'). Laid BY PROGRAM, IN A SANDBOX (cutbox-door.mjs). By AI agents, Wed Nov 11 2026. No macro, syntax, notation, axiom, sorry.
-/
import Derived.Test.YtagidgboebjkhaaDoorRows
import GoSem.ClaimSeven
namespace Go.Proofs.YtagidgboebjkhaaDoor
namespace Rows

/-- THE TIED CARD OF 'astragallaw05.Mers89Folds'. -/
def mers89FoldsCard : Claim7 := { stood := { row := mers89FoldsRow, standIns := [], harness := (true, "945084be568a60069545214af4242183003c4cf80140e35dd3566928799b4774"), looks := false }, kinds := [], alts := [], laidByText := true, laidKinds := [.data, .data, .data], laidTests := true, laidLooks := .later }
def Mers89FoldsCardSaid : Prop := Claim7.holds Tryd.pinned (.plain (OpenSpec.ofChange mers89FoldsSpec)) mers89FoldsCard

/-- THE SECOND FORM's CARD OF 'astragallaw05.Mers89Folds'. -/
def mers89FoldsUptoCard : Claim7 := { stood := { row := mers89FoldsUptoRow, standIns := [], harness := (true, "945084be568a60069545214af4242183003c4cf80140e35dd3566928799b4774"), looks := false }, kinds := [], alts := [], laidByText := true, laidKinds := [.data, .data, .data], laidTests := true, laidLooks := .later }
def Mers89FoldsUptoCardSaid : Prop := Claim7.holds Tryd.pinned (.plain (OpenSpec.upto mers89FoldsSpec)) mers89FoldsUptoCard
end Rows
end Go.Proofs.YtagidgboebjkhaaDoor
