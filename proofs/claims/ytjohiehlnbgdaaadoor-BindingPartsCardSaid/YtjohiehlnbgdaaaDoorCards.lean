/-
  DERIVED. GIVEN WITH THE SEED: THE CARDS: each row of YtjohiehlnbgdaaaDoorRows.lean that lists a variable, with what it lists TIED to the program's text (the seventh form; the later family's looks); each row that meets fmt, with fmt's text TOLD by the authors' own Lean function (tested against real Go, not proved from fmt's source: count such statements apart). THE CARD IS WHAT COUNTS. Prove the row's statement (the work); the ties are given (YtjohiehlnbgdaaaDoorTie.lean); close each card by the builder's one call (the guide's Derived/Test/ToyasCard.lean, 'card_holds'). Laid BY PROGRAM, IN A SANDBOX (cutbox-door.mjs). By AI agents, Wed Nov 11 2026. No macro, syntax, notation, axiom, sorry.
-/
import Derived.Test.YtjohiehlnbgdaaaDoorRows
import GoSem.ClaimSeven
namespace Go.Proofs.YtjohiehlnbgdaaaDoor
namespace Rows

/-- THE TIED CARD OF 'proctorlaw05.BindingPairs'. -/
def bindingPairsCard : Claim7 := { stood := { row := bindingPairsRow, standIns := [], harness := (true, "22fd8833d1d20ca4d6ffb47ef33aa42cac7bd0cef65ce81eae29b84d312f79fd"), looks := false }, kinds := [], alts := [], laidByText := true, laidKinds := [.data, .pinned], laidTests := true, laidLooks := .later }
def BindingPairsCardSaid : Prop := Claim7.holds Tryd.pinned (.plain (OpenSpec.ofChange bindingPairsSpec)) bindingPairsCard

/-- THE TIED CARD OF 'proctorlaw05.BindingParts'. -/
def bindingPartsCard : Claim7 := { stood := { row := bindingPartsRow, standIns := [], harness := (true, "22fd8833d1d20ca4d6ffb47ef33aa42cac7bd0cef65ce81eae29b84d312f79fd"), looks := false }, kinds := [], alts := [], laidByText := true, laidKinds := [.data, .pinned], laidTests := true, laidLooks := .later }
def BindingPartsCardSaid : Prop := Claim7.holds Tryd.pinned (.plain (OpenSpec.ofChange bindingPartsSpec)) bindingPartsCard

/-- THE SECOND FORM's CARD OF 'proctorlaw05.BindingPairs'. -/
def bindingPairsUptoCard : Claim7 := { stood := { row := bindingPairsUptoRow, standIns := [], harness := (true, "22fd8833d1d20ca4d6ffb47ef33aa42cac7bd0cef65ce81eae29b84d312f79fd"), looks := false }, kinds := [], alts := [], laidByText := true, laidKinds := [.data, .pinned], laidTests := true, laidLooks := .later }
def BindingPairsUptoCardSaid : Prop := Claim7.holds Tryd.pinned (.plain (OpenSpec.upto bindingPairsSpec)) bindingPairsUptoCard

/-- THE SECOND FORM's CARD OF 'proctorlaw05.BindingParts'. -/
def bindingPartsUptoCard : Claim7 := { stood := { row := bindingPartsUptoRow, standIns := [], harness := (true, "22fd8833d1d20ca4d6ffb47ef33aa42cac7bd0cef65ce81eae29b84d312f79fd"), looks := false }, kinds := [], alts := [], laidByText := true, laidKinds := [.data, .pinned], laidTests := true, laidLooks := .later }
def BindingPartsUptoCardSaid : Prop := Claim7.holds Tryd.pinned (.plain (OpenSpec.upto bindingPartsSpec)) bindingPartsUptoCard
end Rows
end Go.Proofs.YtjohiehlnbgdaaaDoor
