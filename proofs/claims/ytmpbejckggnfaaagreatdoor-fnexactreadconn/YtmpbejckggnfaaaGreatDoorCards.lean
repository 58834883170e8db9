/-
  DERIVED. GIVEN WITH THE SEED: THE CARDS: each row of YtmpbejckggnfaaaGreatDoorRows.lean that lists a variable, with what it lists TIED to the program's text (the seventh form; the later family's looks); each row that meets fmt, with fmt's text TOLD by the authors' own Lean function (tested against real Go, not proved from fmt's source: count such statements apart). THE CARD IS WHAT COUNTS. Prove the row's statement (the work); the ties are given (YtmpbejckggnfaaaGreatDoorTie.lean); close each card by the builder's one call (the guide's Derived/Test/ToyasCard.lean, 'card_holds'). Laid BY PROGRAM, IN A SANDBOX (cutbox-door.mjs). By AI agents, Wed Nov 11 2026. No macro, syntax, notation, axiom, sorry.
-/
import Derived.Test.YtmpbejckggnfaaaGreatDoorRows
import GoSem.ClaimSeven
namespace Go.Proofs.YtmpbejckggnfaaaGreatDoor
namespace Rows

/-- THE TIED CARD OF 'laws.FnTells'. -/
def fnTellsCard : Claim7 := { stood := { row := fnTellsRow, standIns := [], harness := (true, "23e4b231563c6564f202b7da429b4498e2c337f4367951117706c65f40fbf015"), looks := true }, kinds := [], alts := [], laidByText := true, laidKinds := [.handle], laidTests := true, laidLooks := .later }
def FnTellsCardSaid : Prop := Claim7.holds Tryz.pinned (.plain (OpenSpec.ofChange fnTellsSpec)) fnTellsCard

/-- THE TIED CARD OF 'laws.FnExactWriteConn'. -/
def fnExactWriteConnCard : Claim7 := { stood := { row := fnExactWriteConnRow, standIns := [], harness := (true, "23e4b231563c6564f202b7da429b4498e2c337f4367951117706c65f40fbf015"), looks := true }, kinds := [], alts := [], laidByText := true, laidKinds := [.handle], laidTests := true, laidLooks := .later }
def FnExactWriteConnCardSaid : Prop := Claim7.holds Tryz.pinned (.plain (OpenSpec.ofChange fnExactWriteConnSpec)) fnExactWriteConnCard

/-- THE TIED CARD OF 'laws.FnExactCloseConn'. -/
def fnExactCloseConnCard : Claim7 := { stood := { row := fnExactCloseConnRow, standIns := [], harness := (true, "23e4b231563c6564f202b7da429b4498e2c337f4367951117706c65f40fbf015"), looks := true }, kinds := [], alts := [], laidByText := true, laidKinds := [.handle], laidTests := true, laidLooks := .later }
def FnExactCloseConnCardSaid : Prop := Claim7.holds Tryz.pinned (.plain (OpenSpec.ofChange fnExactCloseConnSpec)) fnExactCloseConnCard

/-- THE TIED CARD OF 'laws.FnExactReadConn'. -/
def fnExactReadConnCard : Claim7 := { stood := { row := fnExactReadConnRow, standIns := [], harness := (true, "23e4b231563c6564f202b7da429b4498e2c337f4367951117706c65f40fbf015"), looks := true }, kinds := [], alts := [], laidByText := true, laidKinds := [.handle], laidTests := true, laidLooks := .later }
def FnExactReadConnCardSaid : Prop := Claim7.holds Tryz.pinned (.plain (OpenSpec.ofChange fnExactReadConnSpec)) fnExactReadConnCard

/-- THE TIED CARD OF 'laws.FnExactDialConn'. -/
def fnExactDialConnCard : Claim7 := { stood := { row := fnExactDialConnRow, standIns := [], harness := (true, "23e4b231563c6564f202b7da429b4498e2c337f4367951117706c65f40fbf015"), looks := true }, kinds := [], alts := [], laidByText := true, laidKinds := [.handle], laidTests := true, laidLooks := .later }
def FnExactDialConnCardSaid : Prop := Claim7.holds Tryz.pinned (.plain (OpenSpec.ofChange fnExactDialConnSpec)) fnExactDialConnCard

/-- THE TIED CARD OF 'laws.FnExactTellSegment'. -/
def fnExactTellSegmentCard : Claim7 := { stood := { row := fnExactTellSegmentRow, standIns := [], harness := (true, "23e4b231563c6564f202b7da429b4498e2c337f4367951117706c65f40fbf015"), looks := true }, kinds := [], alts := [], laidByText := true, laidKinds := [.handle], laidTests := true, laidLooks := .later }
def FnExactTellSegmentCardSaid : Prop := Claim7.holds Tryz.pinned (.plain (OpenSpec.ofChange fnExactTellSegmentSpec)) fnExactTellSegmentCard

/-- THE SECOND FORM's CARD OF 'laws.FnTells'. -/
def fnTellsUptoCard : Claim7 := { stood := { row := fnTellsUptoRow, standIns := [], harness := (true, "23e4b231563c6564f202b7da429b4498e2c337f4367951117706c65f40fbf015"), looks := true }, kinds := [], alts := [], laidByText := true, laidKinds := [.handle], laidTests := true, laidLooks := .later }
def FnTellsUptoCardSaid : Prop := Claim7.holds Tryz.pinned (.plain (OpenSpec.upto fnTellsSpec)) fnTellsUptoCard

/-- THE SECOND FORM's CARD OF 'laws.FnExactWriteConn'. -/
def fnExactWriteConnUptoCard : Claim7 := { stood := { row := fnExactWriteConnUptoRow, standIns := [], harness := (true, "23e4b231563c6564f202b7da429b4498e2c337f4367951117706c65f40fbf015"), looks := true }, kinds := [], alts := [], laidByText := true, laidKinds := [.handle], laidTests := true, laidLooks := .later }
def FnExactWriteConnUptoCardSaid : Prop := Claim7.holds Tryz.pinned (.plain (OpenSpec.upto fnExactWriteConnSpec)) fnExactWriteConnUptoCard

/-- THE SECOND FORM's CARD OF 'laws.FnExactCloseConn'. -/
def fnExactCloseConnUptoCard : Claim7 := { stood := { row := fnExactCloseConnUptoRow, standIns := [], harness := (true, "23e4b231563c6564f202b7da429b4498e2c337f4367951117706c65f40fbf015"), looks := true }, kinds := [], alts := [], laidByText := true, laidKinds := [.handle], laidTests := true, laidLooks := .later }
def FnExactCloseConnUptoCardSaid : Prop := Claim7.holds Tryz.pinned (.plain (OpenSpec.upto fnExactCloseConnSpec)) fnExactCloseConnUptoCard

/-- THE SECOND FORM's CARD OF 'laws.FnExactReadConn'. -/
def fnExactReadConnUptoCard : Claim7 := { stood := { row := fnExactReadConnUptoRow, standIns := [], harness := (true, "23e4b231563c6564f202b7da429b4498e2c337f4367951117706c65f40fbf015"), looks := true }, kinds := [], alts := [], laidByText := true, laidKinds := [.handle], laidTests := true, laidLooks := .later }
def FnExactReadConnUptoCardSaid : Prop := Claim7.holds Tryz.pinned (.plain (OpenSpec.upto fnExactReadConnSpec)) fnExactReadConnUptoCard

/-- THE SECOND FORM's CARD OF 'laws.FnExactDialConn'. -/
def fnExactDialConnUptoCard : Claim7 := { stood := { row := fnExactDialConnUptoRow, standIns := [], harness := (true, "23e4b231563c6564f202b7da429b4498e2c337f4367951117706c65f40fbf015"), looks := true }, kinds := [], alts := [], laidByText := true, laidKinds := [.handle], laidTests := true, laidLooks := .later }
def FnExactDialConnUptoCardSaid : Prop := Claim7.holds Tryz.pinned (.plain (OpenSpec.upto fnExactDialConnSpec)) fnExactDialConnUptoCard

/-- THE SECOND FORM's CARD OF 'laws.FnExactTellSegment'. -/
def fnExactTellSegmentUptoCard : Claim7 := { stood := { row := fnExactTellSegmentUptoRow, standIns := [], harness := (true, "23e4b231563c6564f202b7da429b4498e2c337f4367951117706c65f40fbf015"), looks := true }, kinds := [], alts := [], laidByText := true, laidKinds := [.handle], laidTests := true, laidLooks := .later }
def FnExactTellSegmentUptoCardSaid : Prop := Claim7.holds Tryz.pinned (.plain (OpenSpec.upto fnExactTellSegmentSpec)) fnExactTellSegmentUptoCard
end Rows
end Go.Proofs.YtmpbejckggnfaaaGreatDoor
