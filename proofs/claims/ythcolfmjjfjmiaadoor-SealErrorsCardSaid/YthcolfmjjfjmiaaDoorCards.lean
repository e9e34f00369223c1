/-
  DERIVED. GIVEN WITH THE SEED: THE CARDS: each row of YthcolfmjjfjmiaaDoorRows.lean that lists a variable, with what it lists TIED to the program's text (the seventh form; the later family's looks); each row that meets fmt, with fmt's text TOLD by the authors' own Lean function (tested against real Go, not proved from fmt's source: count such statements apart). THE CARD IS WHAT COUNTS. Prove the row's statement (the work); the ties are given (YthcolfmjjfjmiaaDoorTie.lean); close each card by the builder's one call (the guide's Derived/Test/ToyasCard.lean, 'card_holds'). Laid BY PROGRAM, IN A SANDBOX (cutbox-door.mjs). By AI agents, Wed Nov 11 2026. No macro, syntax, notation, axiom, sorry.
-/
import Derived.Test.YthcolfmjjfjmiaaDoorRows
import GoSem.ClaimSeven
namespace Go.Proofs.YthcolfmjjfjmiaaDoor
namespace Rows

/-- THE TIED CARD OF 'astragallaw16.SealSums'. -/
def sealSumsCard : Claim7 := { stood := { row := sealSumsRow, standIns := [], harness := (true, "cfb6da10b4e30faacfefb4faa87bc42add6a3f630f3e806efd549c51ee741879"), looks := true }, kinds := [], alts := [], laidByText := true, laidKinds := [.handle], laidTests := true, laidLooks := .later }
def SealSumsCardSaid : Prop := Claim7.holds Tryd.pinned (.plain (OpenSpec.ofChange sealSumsSpec)) sealSumsCard

/-- THE TIED CARD OF 'astragallaw16.SealOpens'. -/
def sealOpensCard : Claim7 := { stood := { row := sealOpensRow, standIns := [], harness := (true, "cfb6da10b4e30faacfefb4faa87bc42add6a3f630f3e806efd549c51ee741879"), looks := true }, kinds := [], alts := [], laidByText := true, laidKinds := [.handle], laidTests := true, laidLooks := .later }
def SealOpensCardSaid : Prop := Claim7.holds Tryd.pinned (.plain (OpenSpec.ofChange sealOpensSpec)) sealOpensCard

/-- THE TIED CARD OF 'astragallaw16.SealErrors'. -/
def sealErrorsCard : Claim7 := { stood := { row := sealErrorsRow, standIns := [], harness := (true, "cfb6da10b4e30faacfefb4faa87bc42add6a3f630f3e806efd549c51ee741879"), looks := true }, kinds := [], alts := [], laidByText := true, laidKinds := [.data, .data, .data, .handle, .data], laidTests := true, laidLooks := .later }
def SealErrorsCardSaid : Prop := Claim7.holds Tryd.pinned (.plain (OpenSpec.ofChange sealErrorsSpec)) sealErrorsCard

/-- THE SECOND FORM's CARD OF 'astragallaw16.SealSums'. -/
def sealSumsUptoCard : Claim7 := { stood := { row := sealSumsUptoRow, standIns := [], harness := (true, "cfb6da10b4e30faacfefb4faa87bc42add6a3f630f3e806efd549c51ee741879"), looks := true }, kinds := [], alts := [], laidByText := true, laidKinds := [.handle], laidTests := true, laidLooks := .later }
def SealSumsUptoCardSaid : Prop := Claim7.holds Tryd.pinned (.plain (OpenSpec.upto sealSumsSpec)) sealSumsUptoCard

/-- THE SECOND FORM's CARD OF 'astragallaw16.SealOpens'. -/
def sealOpensUptoCard : Claim7 := { stood := { row := sealOpensUptoRow, standIns := [], harness := (true, "cfb6da10b4e30faacfefb4faa87bc42add6a3f630f3e806efd549c51ee741879"), looks := true }, kinds := [], alts := [], laidByText := true, laidKinds := [.handle], laidTests := true, laidLooks := .later }
def SealOpensUptoCardSaid : Prop := Claim7.holds Tryd.pinned (.plain (OpenSpec.upto sealOpensSpec)) sealOpensUptoCard

/-- THE SECOND FORM's CARD OF 'astragallaw16.SealErrors'. -/
def sealErrorsUptoCard : Claim7 := { stood := { row := sealErrorsUptoRow, standIns := [], harness := (true, "cfb6da10b4e30faacfefb4faa87bc42add6a3f630f3e806efd549c51ee741879"), looks := true }, kinds := [], alts := [], laidByText := true, laidKinds := [.data, .data, .data, .handle, .data], laidTests := true, laidLooks := .later }
def SealErrorsUptoCardSaid : Prop := Claim7.holds Tryd.pinned (.plain (OpenSpec.upto sealErrorsSpec)) sealErrorsUptoCard
end Rows
end Go.Proofs.YthcolfmjjfjmiaaDoor
