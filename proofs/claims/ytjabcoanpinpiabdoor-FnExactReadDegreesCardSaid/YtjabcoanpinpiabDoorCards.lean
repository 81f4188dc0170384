/-
  DERIVED. GIVEN WITH THE SEED: THE CARDS: each row of YtjabcoanpinpiabDoorRows.lean that lists a variable, with what it lists TIED to the program's text (the seventh form; the later family's looks); each row that meets fmt, with fmt's text TOLD by the authors' own Lean function (tested against real Go, not proved from fmt's source: count such statements apart). THE CARD IS WHAT COUNTS. Prove the row's statement (the work); the ties are given (YtjabcoanpinpiabDoorTie.lean); close each card by the builder's one call (the guide's Derived/Test/ToyasCard.lean, 'card_holds'). Laid BY PROGRAM, IN A SANDBOX (cutbox-door.mjs). By AI agents, Wed Nov 11 2026. No macro, syntax, notation, axiom, sorry.
-/
import Derived.Test.YtjabcoanpinpiabDoorRows
import GoSem.ClaimSeven
namespace Go.Proofs.YtjabcoanpinpiabDoor
namespace Rows

/-- THE TIED CARD OF 'laws.FnExactDegreesText'. -/
def fnExactDegreesTextCard : Claim7 := { stood := { row := fnExactDegreesTextRow, standIns := [], harness := (true, "621f939a0d56b241bab105ab01b57091f29318f93055404380be29eb02515f3c"), looks := true }, kinds := [], alts := [], laidByText := true, laidKinds := [.data, .data, .data], laidTests := true, laidLooks := .later }
def FnExactDegreesTextCardSaid : Prop := Claim7.holds Tryd.pinned (.plain (OpenSpec.ofChange fnExactDegreesTextSpec)) fnExactDegreesTextCard

/-- THE TIED CARD OF 'laws.FnExactReadDegrees'. -/
def fnExactReadDegreesCard : Claim7 := { stood := { row := fnExactReadDegreesRow, standIns := [], harness := (true, "621f939a0d56b241bab105ab01b57091f29318f93055404380be29eb02515f3c"), looks := true }, kinds := [], alts := [], laidByText := true, laidKinds := [.data, .data, .data, .data, .sentinel, .sentinel, .pinned], laidTests := true, laidLooks := .later }
def FnExactReadDegreesCardSaid : Prop := Claim7.holds Tryd.pinned (.plain (OpenSpec.ofChange fnExactReadDegreesSpec)) fnExactReadDegreesCard

/-- THE SECOND FORM's CARD OF 'laws.FnExactDegreesText'. -/
def fnExactDegreesTextUptoCard : Claim7 := { stood := { row := fnExactDegreesTextUptoRow, standIns := [], harness := (true, "621f939a0d56b241bab105ab01b57091f29318f93055404380be29eb02515f3c"), looks := true }, kinds := [], alts := [], laidByText := true, laidKinds := [.data, .data, .data], laidTests := true, laidLooks := .later }
def FnExactDegreesTextUptoCardSaid : Prop := Claim7.holds Tryd.pinned (.plain (OpenSpec.upto fnExactDegreesTextSpec)) fnExactDegreesTextUptoCard

/-- THE SECOND FORM's CARD OF 'laws.FnExactReadDegrees'. -/
def fnExactReadDegreesUptoCard : Claim7 := { stood := { row := fnExactReadDegreesUptoRow, standIns := [], harness := (true, "621f939a0d56b241bab105ab01b57091f29318f93055404380be29eb02515f3c"), looks := true }, kinds := [], alts := [], laidByText := true, laidKinds := [.data, .data, .data, .data, .sentinel, .sentinel, .pinned], laidTests := true, laidLooks := .later }
def FnExactReadDegreesUptoCardSaid : Prop := Claim7.holds Tryd.pinned (.plain (OpenSpec.upto fnExactReadDegreesSpec)) fnExactReadDegreesUptoCard
end Rows
end Go.Proofs.YtjabcoanpinpiabDoor
