/-
  DERIVED. GIVEN WITH THE SEED: THE CARDS: each row of YtkbkmpcdidhagacDoorRows.lean that lists a variable, with what it lists TIED to the program's text (the seventh form; the later family's looks); each row that meets fmt, with fmt's text TOLD by the authors' own Lean function (tested against real Go, not proved from fmt's source: count such statements apart). THE CARD IS WHAT COUNTS. Prove the row's statement (the work); the ties are given (YtkbkmpcdidhagacDoorTie.lean); close each card by the builder's one call (the guide's Derived/Test/ToyasCard.lean, 'card_holds'). Laid BY PROGRAM, IN A SANDBOX (cutbox-door.mjs). By AI agents, Wed Nov 11 2026. No macro, syntax, notation, axiom, sorry.
-/
import Derived.Test.YtkbkmpcdidhagacDoorRows
import GoSem.ClaimSeven
namespace Go.Proofs.YtkbkmpcdidhagacDoor
namespace Rows

/-- THE TIED CARD OF 'laws.FnExactWaveText'. -/
def fnExactWaveTextCard : Claim7 := { stood := { row := fnExactWaveTextRow, standIns := [], harness := (true, "49ffc1d200e3616fe26f6930f950a1bfbf9e5b666b9e79c8ec1e4b6a6fcb944d"), looks := true }, kinds := [], alts := [], laidByText := true, laidKinds := [.data, .data, .data], laidTests := true, laidLooks := .later }
def FnExactWaveTextCardSaid : Prop := Claim7.holds Tryd.pinned (.plain (OpenSpec.ofChange fnExactWaveTextSpec)) fnExactWaveTextCard

/-- THE TIED CARD OF 'laws.FnExactReadWave'. -/
def fnExactReadWaveCard : Claim7 := { stood := { row := fnExactReadWaveRow, standIns := [], harness := (true, "49ffc1d200e3616fe26f6930f950a1bfbf9e5b666b9e79c8ec1e4b6a6fcb944d"), looks := true }, kinds := [], alts := [], laidByText := true, laidKinds := [.data, .data, .data, .data, .sentinel, .sentinel, .pinned], laidTests := true, laidLooks := .later }
def FnExactReadWaveCardSaid : Prop := Claim7.holds Tryd.pinned (.plain (OpenSpec.ofChange fnExactReadWaveSpec)) fnExactReadWaveCard

/-- THE SECOND FORM's CARD OF 'laws.FnExactWaveText'. -/
def fnExactWaveTextUptoCard : Claim7 := { stood := { row := fnExactWaveTextUptoRow, standIns := [], harness := (true, "49ffc1d200e3616fe26f6930f950a1bfbf9e5b666b9e79c8ec1e4b6a6fcb944d"), looks := true }, kinds := [], alts := [], laidByText := true, laidKinds := [.data, .data, .data], laidTests := true, laidLooks := .later }
def FnExactWaveTextUptoCardSaid : Prop := Claim7.holds Tryd.pinned (.plain (OpenSpec.upto fnExactWaveTextSpec)) fnExactWaveTextUptoCard

/-- THE SECOND FORM's CARD OF 'laws.FnExactReadWave'. -/
def fnExactReadWaveUptoCard : Claim7 := { stood := { row := fnExactReadWaveUptoRow, standIns := [], harness := (true, "49ffc1d200e3616fe26f6930f950a1bfbf9e5b666b9e79c8ec1e4b6a6fcb944d"), looks := true }, kinds := [], alts := [], laidByText := true, laidKinds := [.data, .data, .data, .data, .sentinel, .sentinel, .pinned], laidTests := true, laidLooks := .later }
def FnExactReadWaveUptoCardSaid : Prop := Claim7.holds Tryd.pinned (.plain (OpenSpec.upto fnExactReadWaveSpec)) fnExactReadWaveUptoCard
end Rows
end Go.Proofs.YtkbkmpcdidhagacDoor
