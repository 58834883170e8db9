/-
  DERIVED. GIVEN WITH THE SEED: THE CARDS: each row of YtbdibjeemgkdaaaGreatDoorRows.lean that lists a variable, with what it lists TIED to the program's text (the seventh form; the later family's looks); each row that meets fmt, with fmt's text TOLD by the authors' own Lean function (tested against real Go, not proved from fmt's source: count such statements apart). THE CARD IS WHAT COUNTS. Prove the row's statement (the work); the ties are given (YtbdibjeemgkdaaaGreatDoorTie.lean); close each card by the builder's one call (the guide's Derived/Test/ToyasCard.lean, 'card_holds'). Laid BY PROGRAM, IN A SANDBOX (cutbox-door.mjs). By AI agents, Wed Nov 11 2026. No macro, syntax, notation, axiom, sorry.
-/
import Derived.Test.YtbdibjeemgkdaaaGreatDoorRows
import GoSem.ClaimSeven
namespace Go.Proofs.YtbdibjeemgkdaaaGreatDoor
namespace Rows

/-- THE TIED CARD OF 'laws.FnExactWriteConn'. -/
def fnExactWriteConnCard : Claim7 := { stood := { row := fnExactWriteConnRow, standIns := [], harness := (true, "7de3725aa64f8ea57aa4b1aafae69d4e05343d79d896d77d9cce06be77076f59"), looks := true }, kinds := [], alts := [], laidByText := true, laidKinds := [.handle], laidTests := true, laidLooks := .later }
def FnExactWriteConnCardSaid : Prop := Claim7.holds Tryz.pinned (.plain (OpenSpec.ofChange fnExactWriteConnSpec)) fnExactWriteConnCard

/-- THE TIED CARD OF 'laws.FnExactWhereData'. -/
def fnExactWhereDataCard : Claim7 := { stood := { row := fnExactWhereDataRow, standIns := [], harness := (true, "7de3725aa64f8ea57aa4b1aafae69d4e05343d79d896d77d9cce06be77076f59"), looks := true }, kinds := [], alts := [], laidByText := true, laidKinds := [.handle], laidTests := true, laidLooks := .later }
def FnExactWhereDataCardSaid : Prop := Claim7.holds Tryz.pinned (.plain (OpenSpec.ofChange fnExactWhereDataSpec)) fnExactWhereDataCard

/-- THE TIED CARD OF 'laws.FnExactDialConn'. -/
def fnExactDialConnCard : Claim7 := { stood := { row := fnExactDialConnRow, standIns := [], harness := (true, "7de3725aa64f8ea57aa4b1aafae69d4e05343d79d896d77d9cce06be77076f59"), looks := true }, kinds := [], alts := [], laidByText := true, laidKinds := [.handle], laidTests := true, laidLooks := .later }
def FnExactDialConnCardSaid : Prop := Claim7.holds Tryz.pinned (.plain (OpenSpec.ofChange fnExactDialConnSpec)) fnExactDialConnCard

/-- THE SECOND FORM's CARD OF 'laws.FnExactWriteConn'. -/
def fnExactWriteConnUptoCard : Claim7 := { stood := { row := fnExactWriteConnUptoRow, standIns := [], harness := (true, "7de3725aa64f8ea57aa4b1aafae69d4e05343d79d896d77d9cce06be77076f59"), looks := true }, kinds := [], alts := [], laidByText := true, laidKinds := [.handle], laidTests := true, laidLooks := .later }
def FnExactWriteConnUptoCardSaid : Prop := Claim7.holds Tryz.pinned (.plain (OpenSpec.upto fnExactWriteConnSpec)) fnExactWriteConnUptoCard

/-- THE SECOND FORM's CARD OF 'laws.FnExactWhereData'. -/
def fnExactWhereDataUptoCard : Claim7 := { stood := { row := fnExactWhereDataUptoRow, standIns := [], harness := (true, "7de3725aa64f8ea57aa4b1aafae69d4e05343d79d896d77d9cce06be77076f59"), looks := true }, kinds := [], alts := [], laidByText := true, laidKinds := [.handle], laidTests := true, laidLooks := .later }
def FnExactWhereDataUptoCardSaid : Prop := Claim7.holds Tryz.pinned (.plain (OpenSpec.upto fnExactWhereDataSpec)) fnExactWhereDataUptoCard

/-- THE SECOND FORM's CARD OF 'laws.FnExactDialConn'. -/
def fnExactDialConnUptoCard : Claim7 := { stood := { row := fnExactDialConnUptoRow, standIns := [], harness := (true, "7de3725aa64f8ea57aa4b1aafae69d4e05343d79d896d77d9cce06be77076f59"), looks := true }, kinds := [], alts := [], laidByText := true, laidKinds := [.handle], laidTests := true, laidLooks := .later }
def FnExactDialConnUptoCardSaid : Prop := Claim7.holds Tryz.pinned (.plain (OpenSpec.upto fnExactDialConnSpec)) fnExactDialConnUptoCard
end Rows
end Go.Proofs.YtbdibjeemgkdaaaGreatDoor
