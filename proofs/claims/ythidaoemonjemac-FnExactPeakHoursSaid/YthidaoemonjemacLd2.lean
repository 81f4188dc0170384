/-
  What makes a list of buildings valid: both sides.
-/
import Derived.Test.YthidaoemonjemacLd1
import Derived.Test.YthidaoemonjemacKr
import Derived.Test.YthidaoemonjemacBd4
import Derived.Deep.RegionHeld3
import Derived.IntWalk
namespace Go.Proofs.Ythidaoemonjemac
open Go.ChangeShapes Go.WideShapes Go.ChangeAt Go.RowKit

set_option maxRecDepth 100000
set_option linter.unusedVariables false

def keysBl (ds : List Bl) : List ByteArray := ds.map Bl.id
/-- buildings that are valid -/
def okBs (ds : List Bl) : Bool := decide (ds.length ≤ 12) && (ds.all Bl.ok && riseK (keysBl ds) ds.length)
theorem okBs_parts {ds : List Bl} (h : okBs ds = true) : ds.length ≤ 12 ∧ ds.all Bl.ok = true ∧ riseK (keysBl ds) ds.length = true := by
  unfold okBs at h
  simp only [Bool.and_eq_true, decide_eq_true_eq] at h
  exact h
theorem key_at {xs : List Bd} {k : Nat} {x : Bd} (h : xs[k]? = some x) : (keysBl (xs.map Bd.d))[k]? = some x.d.id := by
  simp [keysBl, h]

def validBuildingsR0 (ds : List Bl) : Bool := okBs ds
end Go.Proofs.Ythidaoemonjemac
