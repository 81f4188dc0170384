/-
  DERIVED. GIVEN WITH THE SEED: THE CARDS: each row of YthidaoemonjemacDoorRows.lean that lists a variable, with what it lists TIED to the program's text (the seventh form; the later family's looks); each row that meets fmt, with fmt's text TOLD by the authors' own Lean function (tested against real Go, not proved from fmt's source: count such statements apart). THE CARD IS WHAT COUNTS. Prove the row's statement (the work); the ties are given (YthidaoemonjemacDoorTie.lean); close each card by the builder's one call (the guide's Derived/Test/ToyasCard.lean, 'card_holds'). Laid BY PROGRAM, IN A SANDBOX (cutbox-door.mjs). By AI agents, Wed Nov 11 2026. No macro, syntax, notation, axiom, sorry.
-/
import Derived.Test.YthidaoemonjemacDoorRows
import GoSem.ClaimSeven
namespace Go.Proofs.YthidaoemonjemacDoor
namespace Rows

/-- THE TIED CARD OF 'laws.FnExactReadingsText'. -/
def fnExactReadingsTextCard : Claim7 := { stood := { row := fnExactReadingsTextRow, standIns := [], harness := (true, "779a48686b4ce315ff07c32106be2f7192fccf3c30c31da5425827d38d78ed96"), looks := true }, kinds := [], alts := [], laidByText := true, laidKinds := [.data, .data, .data], laidTests := true, laidLooks := .later }
def FnExactReadingsTextCardSaid : Prop := Claim7.holds Tryd.pinned (.plain (OpenSpec.ofChange fnExactReadingsTextSpec)) fnExactReadingsTextCard

/-- THE TIED CARD OF 'laws.FnExactReadReadings'. -/
def fnExactReadReadingsCard : Claim7 := { stood := { row := fnExactReadReadingsRow, standIns := [], harness := (true, "779a48686b4ce315ff07c32106be2f7192fccf3c30c31da5425827d38d78ed96"), looks := true }, kinds := [], alts := [], laidByText := true, laidKinds := [.data, .data, .data, .data, .sentinel, .sentinel, .pinned], laidTests := true, laidLooks := .later }
def FnExactReadReadingsCardSaid : Prop := Claim7.holds Tryd.pinned (.plain (OpenSpec.ofChange fnExactReadReadingsSpec)) fnExactReadReadingsCard

/-- THE SECOND FORM's CARD OF 'laws.FnExactReadingsText'. -/
def fnExactReadingsTextUptoCard : Claim7 := { stood := { row := fnExactReadingsTextUptoRow, standIns := [], harness := (true, "779a48686b4ce315ff07c32106be2f7192fccf3c30c31da5425827d38d78ed96"), looks := true }, kinds := [], alts := [], laidByText := true, laidKinds := [.data, .data, .data], laidTests := true, laidLooks := .later }
def FnExactReadingsTextUptoCardSaid : Prop := Claim7.holds Tryd.pinned (.plain (OpenSpec.upto fnExactReadingsTextSpec)) fnExactReadingsTextUptoCard

/-- THE SECOND FORM's CARD OF 'laws.FnExactReadReadings'. -/
def fnExactReadReadingsUptoCard : Claim7 := { stood := { row := fnExactReadReadingsUptoRow, standIns := [], harness := (true, "779a48686b4ce315ff07c32106be2f7192fccf3c30c31da5425827d38d78ed96"), looks := true }, kinds := [], alts := [], laidByText := true, laidKinds := [.data, .data, .data, .data, .sentinel, .sentinel, .pinned], laidTests := true, laidLooks := .later }
def FnExactReadReadingsUptoCardSaid : Prop := Claim7.holds Tryd.pinned (.plain (OpenSpec.upto fnExactReadReadingsSpec)) fnExactReadReadingsUptoCard
end Rows
end Go.Proofs.YthidaoemonjemacDoor
