/-
  DERIVED. GIVEN WITH THE SEED: THE CARDS: each row of YthidaoemonjemabDoorRows.lean that lists a variable, with what it lists TIED to the program's text (the seventh form; the later family's looks); each row that meets fmt, with fmt's text TOLD by the authors' own Lean function (tested against real Go, not proved from fmt's source: count such statements apart). THE CARD IS WHAT COUNTS. Prove the row's statement (the work); the ties are given (YthidaoemonjemabDoorTie.lean); close each card by the builder's one call (the guide's Derived/Test/ToyasCard.lean, 'card_holds'). Laid BY PROGRAM, IN A SANDBOX (cutbox-door.mjs). By AI agents, Wed Nov 11 2026. No macro, syntax, notation, axiom, sorry.
-/
import Derived.Test.YthidaoemonjemabDoorRows
import GoSem.ClaimSeven
namespace Go.Proofs.YthidaoemonjemabDoor
namespace Rows

/-- THE TIED CARD OF 'laws.FnExactBuildingText'. -/
def fnExactBuildingTextCard : Claim7 := { stood := { row := fnExactBuildingTextRow, standIns := [], harness := (true, "67562ca7df6526261570f6a37eb7040d3e120eba03b7afbeeffc56488b8bc1ad"), looks := true }, kinds := [], alts := [], laidByText := true, laidKinds := [.data, .data, .data], laidTests := true, laidLooks := .later }
def FnExactBuildingTextCardSaid : Prop := Claim7.holds Tryd.pinned (.plain (OpenSpec.ofChange fnExactBuildingTextSpec)) fnExactBuildingTextCard

/-- THE TIED CARD OF 'laws.FnExactReadBuilding'. -/
def fnExactReadBuildingCard : Claim7 := { stood := { row := fnExactReadBuildingRow, standIns := [], harness := (true, "67562ca7df6526261570f6a37eb7040d3e120eba03b7afbeeffc56488b8bc1ad"), looks := true }, kinds := [], alts := [], laidByText := true, laidKinds := [.data, .data, .data, .data, .sentinel, .sentinel, .pinned], laidTests := true, laidLooks := .later }
def FnExactReadBuildingCardSaid : Prop := Claim7.holds Tryd.pinned (.plain (OpenSpec.ofChange fnExactReadBuildingSpec)) fnExactReadBuildingCard

/-- THE TIED CARD OF 'laws.FnExactUsedBetween'. -/
def fnExactUsedBetweenCard : Claim7 := { stood := { row := fnExactUsedBetweenRow, standIns := [], harness := (true, "67562ca7df6526261570f6a37eb7040d3e120eba03b7afbeeffc56488b8bc1ad"), looks := true }, kinds := [], alts := [], laidByText := true, laidKinds := [.sentinel], laidTests := true, laidLooks := .later }
def FnExactUsedBetweenCardSaid : Prop := Claim7.holds Tryd.pinned (.plain (OpenSpec.ofChange fnExactUsedBetweenSpec)) fnExactUsedBetweenCard

/-- THE TIED CARD OF 'laws.FnExactEstimateAt'. -/
def fnExactEstimateAtCard : Claim7 := { stood := { row := fnExactEstimateAtRow, standIns := [], harness := (true, "67562ca7df6526261570f6a37eb7040d3e120eba03b7afbeeffc56488b8bc1ad"), looks := true }, kinds := [], alts := [], laidByText := true, laidKinds := [.sentinel], laidTests := true, laidLooks := .later }
def FnExactEstimateAtCardSaid : Prop := Claim7.holds Tryd.pinned (.plain (OpenSpec.ofChange fnExactEstimateAtSpec)) fnExactEstimateAtCard

/-- THE SECOND FORM's CARD OF 'laws.FnExactBuildingText'. -/
def fnExactBuildingTextUptoCard : Claim7 := { stood := { row := fnExactBuildingTextUptoRow, standIns := [], harness := (true, "67562ca7df6526261570f6a37eb7040d3e120eba03b7afbeeffc56488b8bc1ad"), looks := true }, kinds := [], alts := [], laidByText := true, laidKinds := [.data, .data, .data], laidTests := true, laidLooks := .later }
def FnExactBuildingTextUptoCardSaid : Prop := Claim7.holds Tryd.pinned (.plain (OpenSpec.upto fnExactBuildingTextSpec)) fnExactBuildingTextUptoCard

/-- THE SECOND FORM's CARD OF 'laws.FnExactReadBuilding'. -/
def fnExactReadBuildingUptoCard : Claim7 := { stood := { row := fnExactReadBuildingUptoRow, standIns := [], harness := (true, "67562ca7df6526261570f6a37eb7040d3e120eba03b7afbeeffc56488b8bc1ad"), looks := true }, kinds := [], alts := [], laidByText := true, laidKinds := [.data, .data, .data, .data, .sentinel, .sentinel, .pinned], laidTests := true, laidLooks := .later }
def FnExactReadBuildingUptoCardSaid : Prop := Claim7.holds Tryd.pinned (.plain (OpenSpec.upto fnExactReadBuildingSpec)) fnExactReadBuildingUptoCard

/-- THE SECOND FORM's CARD OF 'laws.FnExactUsedBetween'. -/
def fnExactUsedBetweenUptoCard : Claim7 := { stood := { row := fnExactUsedBetweenUptoRow, standIns := [], harness := (true, "67562ca7df6526261570f6a37eb7040d3e120eba03b7afbeeffc56488b8bc1ad"), looks := true }, kinds := [], alts := [], laidByText := true, laidKinds := [.sentinel], laidTests := true, laidLooks := .later }
def FnExactUsedBetweenUptoCardSaid : Prop := Claim7.holds Tryd.pinned (.plain (OpenSpec.upto fnExactUsedBetweenSpec)) fnExactUsedBetweenUptoCard

/-- THE SECOND FORM's CARD OF 'laws.FnExactEstimateAt'. -/
def fnExactEstimateAtUptoCard : Claim7 := { stood := { row := fnExactEstimateAtUptoRow, standIns := [], harness := (true, "67562ca7df6526261570f6a37eb7040d3e120eba03b7afbeeffc56488b8bc1ad"), looks := true }, kinds := [], alts := [], laidByText := true, laidKinds := [.sentinel], laidTests := true, laidLooks := .later }
def FnExactEstimateAtUptoCardSaid : Prop := Claim7.holds Tryd.pinned (.plain (OpenSpec.upto fnExactEstimateAtSpec)) fnExactEstimateAtUptoCard
end Rows
end Go.Proofs.YthidaoemonjemabDoor
