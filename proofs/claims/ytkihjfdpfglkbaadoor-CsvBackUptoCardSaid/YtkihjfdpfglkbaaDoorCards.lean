/-
  DERIVED. GIVEN WITH THE SEED: THE CARDS: each row of YtkihjfdpfglkbaaDoorRows.lean that lists a variable, with what it lists TIED to the program's text (the seventh form; the later family's looks); each row that meets fmt, with fmt's text TOLD by the authors' own Lean function (tested against real Go, not proved from fmt's source: count such statements apart). THE CARD IS WHAT COUNTS. Prove the row's statement (the work); the ties are given (YtkihjfdpfglkbaaDoorTie.lean); close each card by the builder's one call (the guide's Derived/Test/ToyasCard.lean, 'card_holds'). Laid BY PROGRAM, IN A SANDBOX (cutbox-door.mjs). By AI agents, Wed Nov 11 2026. No macro, syntax, notation, axiom, sorry.
-/
import Derived.Test.YtkihjfdpfglkbaaDoorRows
import GoSem.ClaimSeven
namespace Go.Proofs.YtkihjfdpfglkbaaDoor
namespace Rows

/-- THE TIED CARD OF 'proctorlaw06.CsvAll'. -/
def csvAllCard : Claim7 := { stood := { row := csvAllRow, standIns := [], harness := (true, "191dfe3dfe9640e91db97865d1a239cfd4552eee952233c5d51e09518760fa54"), looks := true }, kinds := [], alts := [], laidByText := true, laidKinds := [.data, .handle, .pinned], laidTests := true, laidLooks := .later }
def CsvAllCardSaid : Prop := Claim7.holds Tryd.pinned (.plain (OpenSpec.ofChange csvAllSpec)) csvAllCard

/-- THE TIED CARD OF 'proctorlaw06.CsvSteps'. -/
def csvStepsCard : Claim7 := { stood := { row := csvStepsRow, standIns := [], harness := (true, "191dfe3dfe9640e91db97865d1a239cfd4552eee952233c5d51e09518760fa54"), looks := true }, kinds := [], alts := [], laidByText := true, laidKinds := [.data, .handle, .pinned], laidTests := true, laidLooks := .later }
def CsvStepsCardSaid : Prop := Claim7.holds Tryd.pinned (.plain (OpenSpec.ofChange csvStepsSpec)) csvStepsCard

/-- THE TIED CARD OF 'proctorlaw06.CsvBack'. -/
def csvBackCard : Claim7 := { stood := { row := csvBackRow, standIns := [], harness := (true, "191dfe3dfe9640e91db97865d1a239cfd4552eee952233c5d51e09518760fa54"), looks := true }, kinds := [], alts := [], laidByText := true, laidKinds := [.data, .handle, .pinned], laidTests := true, laidLooks := .later }
def CsvBackCardSaid : Prop := Claim7.holds Tryd.pinned (.plain (OpenSpec.ofChange csvBackSpec)) csvBackCard

/-- THE TIED CARD OF 'proctorlaw06.CsvNobody'. -/
def csvNobodyCard : Claim7 := { stood := { row := csvNobodyRow, standIns := [], harness := (true, "191dfe3dfe9640e91db97865d1a239cfd4552eee952233c5d51e09518760fa54"), looks := true }, kinds := [], alts := [], laidByText := true, laidKinds := [.data, .handle, .pinned], laidTests := true, laidLooks := .later }
def CsvNobodyCardSaid : Prop := Claim7.holds Tryd.pinned (.plain (OpenSpec.ofChange csvNobodySpec)) csvNobodyCard

/-- THE SECOND FORM's CARD OF 'proctorlaw06.CsvAll'. -/
def csvAllUptoCard : Claim7 := { stood := { row := csvAllUptoRow, standIns := [], harness := (true, "191dfe3dfe9640e91db97865d1a239cfd4552eee952233c5d51e09518760fa54"), looks := true }, kinds := [], alts := [], laidByText := true, laidKinds := [.data, .handle, .pinned], laidTests := true, laidLooks := .later }
def CsvAllUptoCardSaid : Prop := Claim7.holds Tryd.pinned (.plain (OpenSpec.upto csvAllSpec)) csvAllUptoCard

/-- THE SECOND FORM's CARD OF 'proctorlaw06.CsvSteps'. -/
def csvStepsUptoCard : Claim7 := { stood := { row := csvStepsUptoRow, standIns := [], harness := (true, "191dfe3dfe9640e91db97865d1a239cfd4552eee952233c5d51e09518760fa54"), looks := true }, kinds := [], alts := [], laidByText := true, laidKinds := [.data, .handle, .pinned], laidTests := true, laidLooks := .later }
def CsvStepsUptoCardSaid : Prop := Claim7.holds Tryd.pinned (.plain (OpenSpec.upto csvStepsSpec)) csvStepsUptoCard

/-- THE SECOND FORM's CARD OF 'proctorlaw06.CsvBack'. -/
def csvBackUptoCard : Claim7 := { stood := { row := csvBackUptoRow, standIns := [], harness := (true, "191dfe3dfe9640e91db97865d1a239cfd4552eee952233c5d51e09518760fa54"), looks := true }, kinds := [], alts := [], laidByText := true, laidKinds := [.data, .handle, .pinned], laidTests := true, laidLooks := .later }
def CsvBackUptoCardSaid : Prop := Claim7.holds Tryd.pinned (.plain (OpenSpec.upto csvBackSpec)) csvBackUptoCard

/-- THE SECOND FORM's CARD OF 'proctorlaw06.CsvNobody'. -/
def csvNobodyUptoCard : Claim7 := { stood := { row := csvNobodyUptoRow, standIns := [], harness := (true, "191dfe3dfe9640e91db97865d1a239cfd4552eee952233c5d51e09518760fa54"), looks := true }, kinds := [], alts := [], laidByText := true, laidKinds := [.data, .handle, .pinned], laidTests := true, laidLooks := .later }
def CsvNobodyUptoCardSaid : Prop := Claim7.holds Tryd.pinned (.plain (OpenSpec.upto csvNobodySpec)) csvNobodyUptoCard
end Rows
end Go.Proofs.YtkihjfdpfglkbaaDoor
