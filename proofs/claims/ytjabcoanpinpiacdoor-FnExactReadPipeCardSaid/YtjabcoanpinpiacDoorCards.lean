/-
  DERIVED. GIVEN WITH THE SEED: THE CARDS: each row of YtjabcoanpinpiacDoorRows.lean that lists a variable, with what it lists TIED to the program's text (the seventh form; the later family's looks); each row that meets fmt, with fmt's text TOLD by the authors' own Lean function (tested against real Go, not proved from fmt's source: count such statements apart). THE CARD IS WHAT COUNTS. Prove the row's statement (the work); the ties are given (YtjabcoanpinpiacDoorTie.lean); close each card by the builder's one call (the guide's Derived/Test/ToyasCard.lean, 'card_holds'). Laid BY PROGRAM, IN A SANDBOX (cutbox-door.mjs). By AI agents, Wed Nov 11 2026. No macro, syntax, notation, axiom, sorry.
-/
import Derived.Test.YtjabcoanpinpiacDoorRows
import GoSem.ClaimSeven
namespace Go.Proofs.YtjabcoanpinpiacDoor
namespace Rows

/-- THE TIED CARD OF 'laws.FnExactPipeText'. -/
def fnExactPipeTextCard : Claim7 := { stood := { row := fnExactPipeTextRow, standIns := [], harness := (true, "ef8a05c0bcab5baae08075965d5b14df8bf1b0c2b128c727fed58c3f5827e735"), looks := true }, kinds := [], alts := [], laidByText := true, laidKinds := [.data, .data, .data], laidTests := true, laidLooks := .later }
def FnExactPipeTextCardSaid : Prop := Claim7.holds Tryd.pinned (.plain (OpenSpec.ofChange fnExactPipeTextSpec)) fnExactPipeTextCard

/-- THE TIED CARD OF 'laws.FnExactReadPipe'. -/
def fnExactReadPipeCard : Claim7 := { stood := { row := fnExactReadPipeRow, standIns := [], harness := (true, "ef8a05c0bcab5baae08075965d5b14df8bf1b0c2b128c727fed58c3f5827e735"), looks := true }, kinds := [], alts := [], laidByText := true, laidKinds := [.data, .data, .data, .data, .sentinel, .sentinel, .pinned], laidTests := true, laidLooks := .later }
def FnExactReadPipeCardSaid : Prop := Claim7.holds Tryd.pinned (.plain (OpenSpec.ofChange fnExactReadPipeSpec)) fnExactReadPipeCard

/-- THE SECOND FORM's CARD OF 'laws.FnExactPipeText'. -/
def fnExactPipeTextUptoCard : Claim7 := { stood := { row := fnExactPipeTextUptoRow, standIns := [], harness := (true, "ef8a05c0bcab5baae08075965d5b14df8bf1b0c2b128c727fed58c3f5827e735"), looks := true }, kinds := [], alts := [], laidByText := true, laidKinds := [.data, .data, .data], laidTests := true, laidLooks := .later }
def FnExactPipeTextUptoCardSaid : Prop := Claim7.holds Tryd.pinned (.plain (OpenSpec.upto fnExactPipeTextSpec)) fnExactPipeTextUptoCard

/-- THE SECOND FORM's CARD OF 'laws.FnExactReadPipe'. -/
def fnExactReadPipeUptoCard : Claim7 := { stood := { row := fnExactReadPipeUptoRow, standIns := [], harness := (true, "ef8a05c0bcab5baae08075965d5b14df8bf1b0c2b128c727fed58c3f5827e735"), looks := true }, kinds := [], alts := [], laidByText := true, laidKinds := [.data, .data, .data, .data, .sentinel, .sentinel, .pinned], laidTests := true, laidLooks := .later }
def FnExactReadPipeUptoCardSaid : Prop := Claim7.holds Tryd.pinned (.plain (OpenSpec.upto fnExactReadPipeSpec)) fnExactReadPipeUptoCard
end Rows
end Go.Proofs.YtjabcoanpinpiacDoor
