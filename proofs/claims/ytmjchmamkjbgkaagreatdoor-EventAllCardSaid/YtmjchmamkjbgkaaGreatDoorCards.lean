/-
  DERIVED. GIVEN WITH THE SEED: THE CARDS: each row of YtmjchmamkjbgkaaGreatDoorRows.lean that lists a variable, with what it lists TIED to the program's text (the seventh form; the later family's looks); each row that meets fmt, with fmt's text TOLD by the authors' own Lean function (tested against real Go, not proved from fmt's source: count such statements apart). THE CARD IS WHAT COUNTS. Prove the row's statement (the work); the ties are given (YtmjchmamkjbgkaaGreatDoorTie.lean); close each card by the builder's one call (the guide's Derived/Test/ToyasCard.lean, 'card_holds'). Laid BY PROGRAM, IN A SANDBOX (cutbox-door.mjs). By AI agents, Wed Nov 11 2026. No macro, syntax, notation, axiom, sorry.
-/
import Derived.Test.YtmjchmamkjbgkaaGreatDoorRows
import GoSem.ClaimSeven
namespace Go.Proofs.YtmjchmamkjbgkaaGreatDoor
namespace Rows

/-- THE TIED CARD OF 'proctorlaw08.EventOf'. -/
def eventOfCard : Claim7 := { stood := { row := eventOfRow, standIns := [], harness := (true, "a4943de64399f58136562219f947f880a942bd4fc83bf49926a51cc1ed67d528"), looks := true }, kinds := [], alts := [], laidByText := true, laidKinds := [.data, .data, .data, .data, .handle, .sentinel, .sentinel, .data, .pinned], laidTests := true, laidLooks := .later }
def EventOfCardSaid : Prop := Claim7.holds Tryz.pinned (.plain (OpenSpec.ofChange eventOfSpec)) eventOfCard

/-- THE TIED CARD OF 'proctorlaw08.EventRight'. -/
def eventRightCard : Claim7 := { stood := { row := eventRightRow, standIns := [], harness := (true, "a4943de64399f58136562219f947f880a942bd4fc83bf49926a51cc1ed67d528"), looks := true }, kinds := [], alts := [], laidByText := true, laidKinds := [.data, .data, .data, .handle, .sentinel, .sentinel, .data], laidTests := true, laidLooks := .later }
def EventRightCardSaid : Prop := Claim7.holds Tryz.pinned (.plain (OpenSpec.ofChange eventRightSpec)) eventRightCard

/-- THE TIED CARD OF 'proctorlaw08.EventAll'. -/
def eventAllCard : Claim7 := { stood := { row := eventAllRow, standIns := [], harness := (true, "a4943de64399f58136562219f947f880a942bd4fc83bf49926a51cc1ed67d528"), looks := true }, kinds := [], alts := [], laidByText := true, laidKinds := [.data, .data, .data, .data, .handle, .sentinel, .sentinel, .data, .pinned], laidTests := true, laidLooks := .later }
def EventAllCardSaid : Prop := Claim7.holds Tryz.pinned (.plain (OpenSpec.ofChange eventAllSpec)) eventAllCard

/-- THE TIED CARD OF 'proctorlaw08.EventBack'. -/
def eventBackCard : Claim7 := { stood := { row := eventBackRow, standIns := [], harness := (true, "a4943de64399f58136562219f947f880a942bd4fc83bf49926a51cc1ed67d528"), looks := true }, kinds := [], alts := [], laidByText := true, laidKinds := [.data, .data, .data, .data, .handle, .sentinel, .sentinel, .data, .pinned], laidTests := true, laidLooks := .later }
def EventBackCardSaid : Prop := Claim7.holds Tryz.pinned (.plain (OpenSpec.ofChange eventBackSpec)) eventBackCard

/-- THE TIED CARD OF 'proctorlaw08.EventMany'. -/
def eventManyCard : Claim7 := { stood := { row := eventManyRow, standIns := [], harness := (true, "a4943de64399f58136562219f947f880a942bd4fc83bf49926a51cc1ed67d528"), looks := true }, kinds := [], alts := [], laidByText := true, laidKinds := [.data, .data, .data, .data, .handle, .sentinel, .sentinel, .data, .pinned], laidTests := true, laidLooks := .later }
def EventManyCardSaid : Prop := Claim7.holds Tryz.pinned (.plain (OpenSpec.ofChange eventManySpec)) eventManyCard

/-- THE SECOND FORM's CARD OF 'proctorlaw08.EventOf'. -/
def eventOfUptoCard : Claim7 := { stood := { row := eventOfUptoRow, standIns := [], harness := (true, "a4943de64399f58136562219f947f880a942bd4fc83bf49926a51cc1ed67d528"), looks := true }, kinds := [], alts := [], laidByText := true, laidKinds := [.data, .data, .data, .data, .handle, .sentinel, .sentinel, .data, .pinned], laidTests := true, laidLooks := .later }
def EventOfUptoCardSaid : Prop := Claim7.holds Tryz.pinned (.plain (OpenSpec.upto eventOfSpec)) eventOfUptoCard

/-- THE SECOND FORM's CARD OF 'proctorlaw08.EventRight'. -/
def eventRightUptoCard : Claim7 := { stood := { row := eventRightUptoRow, standIns := [], harness := (true, "a4943de64399f58136562219f947f880a942bd4fc83bf49926a51cc1ed67d528"), looks := true }, kinds := [], alts := [], laidByText := true, laidKinds := [.data, .data, .data, .handle, .sentinel, .sentinel, .data], laidTests := true, laidLooks := .later }
def EventRightUptoCardSaid : Prop := Claim7.holds Tryz.pinned (.plain (OpenSpec.upto eventRightSpec)) eventRightUptoCard

/-- THE SECOND FORM's CARD OF 'proctorlaw08.EventAll'. -/
def eventAllUptoCard : Claim7 := { stood := { row := eventAllUptoRow, standIns := [], harness := (true, "a4943de64399f58136562219f947f880a942bd4fc83bf49926a51cc1ed67d528"), looks := true }, kinds := [], alts := [], laidByText := true, laidKinds := [.data, .data, .data, .data, .handle, .sentinel, .sentinel, .data, .pinned], laidTests := true, laidLooks := .later }
def EventAllUptoCardSaid : Prop := Claim7.holds Tryz.pinned (.plain (OpenSpec.upto eventAllSpec)) eventAllUptoCard

/-- THE SECOND FORM's CARD OF 'proctorlaw08.EventBack'. -/
def eventBackUptoCard : Claim7 := { stood := { row := eventBackUptoRow, standIns := [], harness := (true, "a4943de64399f58136562219f947f880a942bd4fc83bf49926a51cc1ed67d528"), looks := true }, kinds := [], alts := [], laidByText := true, laidKinds := [.data, .data, .data, .data, .handle, .sentinel, .sentinel, .data, .pinned], laidTests := true, laidLooks := .later }
def EventBackUptoCardSaid : Prop := Claim7.holds Tryz.pinned (.plain (OpenSpec.upto eventBackSpec)) eventBackUptoCard

/-- THE SECOND FORM's CARD OF 'proctorlaw08.EventMany'. -/
def eventManyUptoCard : Claim7 := { stood := { row := eventManyUptoRow, standIns := [], harness := (true, "a4943de64399f58136562219f947f880a942bd4fc83bf49926a51cc1ed67d528"), looks := true }, kinds := [], alts := [], laidByText := true, laidKinds := [.data, .data, .data, .data, .handle, .sentinel, .sentinel, .data, .pinned], laidTests := true, laidLooks := .later }
def EventManyUptoCardSaid : Prop := Claim7.holds Tryz.pinned (.plain (OpenSpec.upto eventManySpec)) eventManyUptoCard
end Rows
end Go.Proofs.YtmjchmamkjbgkaaGreatDoor
