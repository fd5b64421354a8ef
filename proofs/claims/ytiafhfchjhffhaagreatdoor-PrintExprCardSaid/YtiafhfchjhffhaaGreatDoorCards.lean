/-
  DERIVED. GIVEN WITH THE SEED: THE CARDS: each row of YtiafhfchjhffhaaGreatDoorRows.lean that lists a variable, with what it lists TIED to the program's text (the seventh form; the later family's looks); each row that meets fmt, with fmt's text TOLD by the authors' own Lean function (tested against real Go, not proved from fmt's source: count such statements apart). THE CARD IS WHAT COUNTS. Prove the row's statement (the work); the ties are given (YtiafhfchjhffhaaGreatDoorTie.lean); close each card by the builder's one call (the guide's Derived/Test/ToyasCard.lean, 'card_holds'). Laid BY PROGRAM, IN A SANDBOX (cutbox-door.mjs). By AI agents, Wed Nov 11 2026. No macro, syntax, notation, axiom, sorry.
-/
import Derived.Test.YtiafhfchjhffhaaGreatDoorRows
import GoSem.ClaimSeven
namespace Go.Proofs.YtiafhfchjhffhaaGreatDoor
namespace Rows

/-- THE TIED CARD OF 'proctorlaw12.PrintTree'. -/
def printTreeCard : Claim7 := { stood := { row := printTreeRow, standIns := [], harness := (true, "c791609d1f26ac67428f0d75e0dc994a7a7fb0f2597c33de0c749f94e1ade00c"), looks := true }, kinds := [], alts := [], laidByText := true, laidKinds := [.data, .data, .data, .handle, .sentinel, .sentinel, .data, .data, .data, .data], laidTests := true, laidLooks := .later }
def PrintTreeCardSaid : Prop := Claim7.holds Tryz.pinned (.plain (OpenSpec.ofChange printTreeSpec)) printTreeCard

/-- THE TIED CARD OF 'proctorlaw12.PrintExpr'. -/
def printExprCard : Claim7 := { stood := { row := printExprRow, standIns := [], harness := (true, "c791609d1f26ac67428f0d75e0dc994a7a7fb0f2597c33de0c749f94e1ade00c"), looks := true }, kinds := [], alts := [], laidByText := true, laidKinds := [.data, .data, .data, .handle, .sentinel, .sentinel, .data, .data, .data, .data], laidTests := true, laidLooks := .later }
def PrintExprCardSaid : Prop := Claim7.holds Tryz.pinned (.plain (OpenSpec.ofChange printExprSpec)) printExprCard

/-- THE TIED CARD OF 'proctorlaw12.PrintBack'. -/
def printBackCard : Claim7 := { stood := { row := printBackRow, standIns := [], harness := (true, "c791609d1f26ac67428f0d75e0dc994a7a7fb0f2597c33de0c749f94e1ade00c"), looks := true }, kinds := [], alts := [], laidByText := true, laidKinds := [.data, .data, .data, .handle, .sentinel, .sentinel, .data, .data, .data, .data], laidTests := true, laidLooks := .later }
def PrintBackCardSaid : Prop := Claim7.holds Tryz.pinned (.plain (OpenSpec.ofChange printBackSpec)) printBackCard

/-- THE TIED CARD OF 'proctorlaw12.PrintLevels'. -/
def printLevelsCard : Claim7 := { stood := { row := printLevelsRow, standIns := [], harness := (true, "c791609d1f26ac67428f0d75e0dc994a7a7fb0f2597c33de0c749f94e1ade00c"), looks := true }, kinds := [], alts := [], laidByText := true, laidKinds := [.data, .data, .data, .handle, .sentinel, .sentinel, .data, .data, .data, .data], laidTests := true, laidLooks := .later }
def PrintLevelsCardSaid : Prop := Claim7.holds Tryz.pinned (.plain (OpenSpec.ofChange printLevelsSpec)) printLevelsCard

/-- THE SECOND FORM's CARD OF 'proctorlaw12.PrintTree'. -/
def printTreeUptoCard : Claim7 := { stood := { row := printTreeUptoRow, standIns := [], harness := (true, "c791609d1f26ac67428f0d75e0dc994a7a7fb0f2597c33de0c749f94e1ade00c"), looks := true }, kinds := [], alts := [], laidByText := true, laidKinds := [.data, .data, .data, .handle, .sentinel, .sentinel, .data, .data, .data, .data], laidTests := true, laidLooks := .later }
def PrintTreeUptoCardSaid : Prop := Claim7.holds Tryz.pinned (.plain (OpenSpec.upto printTreeSpec)) printTreeUptoCard

/-- THE SECOND FORM's CARD OF 'proctorlaw12.PrintExpr'. -/
def printExprUptoCard : Claim7 := { stood := { row := printExprUptoRow, standIns := [], harness := (true, "c791609d1f26ac67428f0d75e0dc994a7a7fb0f2597c33de0c749f94e1ade00c"), looks := true }, kinds := [], alts := [], laidByText := true, laidKinds := [.data, .data, .data, .handle, .sentinel, .sentinel, .data, .data, .data, .data], laidTests := true, laidLooks := .later }
def PrintExprUptoCardSaid : Prop := Claim7.holds Tryz.pinned (.plain (OpenSpec.upto printExprSpec)) printExprUptoCard

/-- THE SECOND FORM's CARD OF 'proctorlaw12.PrintBack'. -/
def printBackUptoCard : Claim7 := { stood := { row := printBackUptoRow, standIns := [], harness := (true, "c791609d1f26ac67428f0d75e0dc994a7a7fb0f2597c33de0c749f94e1ade00c"), looks := true }, kinds := [], alts := [], laidByText := true, laidKinds := [.data, .data, .data, .handle, .sentinel, .sentinel, .data, .data, .data, .data], laidTests := true, laidLooks := .later }
def PrintBackUptoCardSaid : Prop := Claim7.holds Tryz.pinned (.plain (OpenSpec.upto printBackSpec)) printBackUptoCard

/-- THE SECOND FORM's CARD OF 'proctorlaw12.PrintLevels'. -/
def printLevelsUptoCard : Claim7 := { stood := { row := printLevelsUptoRow, standIns := [], harness := (true, "c791609d1f26ac67428f0d75e0dc994a7a7fb0f2597c33de0c749f94e1ade00c"), looks := true }, kinds := [], alts := [], laidByText := true, laidKinds := [.data, .data, .data, .handle, .sentinel, .sentinel, .data, .data, .data, .data], laidTests := true, laidLooks := .later }
def PrintLevelsUptoCardSaid : Prop := Claim7.holds Tryz.pinned (.plain (OpenSpec.upto printLevelsSpec)) printLevelsUptoCard
end Rows
end Go.Proofs.YtiafhfchjhffhaaGreatDoor
