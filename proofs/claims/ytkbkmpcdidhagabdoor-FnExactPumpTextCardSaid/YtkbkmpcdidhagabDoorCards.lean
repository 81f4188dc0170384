/-
  DERIVED. GIVEN WITH THE SEED: THE CARDS: each row of YtkbkmpcdidhagabDoorRows.lean that lists a variable, with what it lists TIED to the program's text (the seventh form; the later family's looks); each row that meets fmt, with fmt's text TOLD by the authors' own Lean function (tested against real Go, not proved from fmt's source: count such statements apart). THE CARD IS WHAT COUNTS. Prove the row's statement (the work); the ties are given (YtkbkmpcdidhagabDoorTie.lean); close each card by the builder's one call (the guide's Derived/Test/ToyasCard.lean, 'card_holds'). Laid BY PROGRAM, IN A SANDBOX (cutbox-door.mjs). By AI agents, Wed Nov 11 2026. No macro, syntax, notation, axiom, sorry.
-/
import Derived.Test.YtkbkmpcdidhagabDoorRows
import GoSem.ClaimSeven
namespace Go.Proofs.YtkbkmpcdidhagabDoor
namespace Rows

/-- THE TIED CARD OF 'laws.FnExactPumpText'. -/
def fnExactPumpTextCard : Claim7 := { stood := { row := fnExactPumpTextRow, standIns := [], harness := (true, "32edee187797878aff9bed9488c4d3d33405a43044152781bd0dab845efbf566"), looks := true }, kinds := [], alts := [], laidByText := true, laidKinds := [.data, .data, .data], laidTests := true, laidLooks := .later }
def FnExactPumpTextCardSaid : Prop := Claim7.holds Tryd.pinned (.plain (OpenSpec.ofChange fnExactPumpTextSpec)) fnExactPumpTextCard

/-- THE TIED CARD OF 'laws.FnExactReadPump'. -/
def fnExactReadPumpCard : Claim7 := { stood := { row := fnExactReadPumpRow, standIns := [], harness := (true, "32edee187797878aff9bed9488c4d3d33405a43044152781bd0dab845efbf566"), looks := true }, kinds := [], alts := [], laidByText := true, laidKinds := [.data, .data, .data, .data, .sentinel, .sentinel, .pinned], laidTests := true, laidLooks := .later }
def FnExactReadPumpCardSaid : Prop := Claim7.holds Tryd.pinned (.plain (OpenSpec.ofChange fnExactReadPumpSpec)) fnExactReadPumpCard

/-- THE SECOND FORM's CARD OF 'laws.FnExactPumpText'. -/
def fnExactPumpTextUptoCard : Claim7 := { stood := { row := fnExactPumpTextUptoRow, standIns := [], harness := (true, "32edee187797878aff9bed9488c4d3d33405a43044152781bd0dab845efbf566"), looks := true }, kinds := [], alts := [], laidByText := true, laidKinds := [.data, .data, .data], laidTests := true, laidLooks := .later }
def FnExactPumpTextUptoCardSaid : Prop := Claim7.holds Tryd.pinned (.plain (OpenSpec.upto fnExactPumpTextSpec)) fnExactPumpTextUptoCard

/-- THE SECOND FORM's CARD OF 'laws.FnExactReadPump'. -/
def fnExactReadPumpUptoCard : Claim7 := { stood := { row := fnExactReadPumpUptoRow, standIns := [], harness := (true, "32edee187797878aff9bed9488c4d3d33405a43044152781bd0dab845efbf566"), looks := true }, kinds := [], alts := [], laidByText := true, laidKinds := [.data, .data, .data, .data, .sentinel, .sentinel, .pinned], laidTests := true, laidLooks := .later }
def FnExactReadPumpUptoCardSaid : Prop := Claim7.holds Tryd.pinned (.plain (OpenSpec.upto fnExactReadPumpSpec)) fnExactReadPumpUptoCard
end Rows
end Go.Proofs.YtkbkmpcdidhagabDoor
