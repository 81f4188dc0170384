/-
  Chapter 5: a quotient that is rounded up; WaterFor of both sides.
-/
import Derived.Test.YtdaedgdglammhaaW3
namespace Go.Proofs.Ytdaedgdglammhaa
open Go.ChangeShapes Go.WideShapes Go.ChangeAt Go.RowKit


def flowI (l d : Int) : Int := (l * 100000 + 4186 * d - 1) / (4186 * d)
theorem flow_bd (l d : Int) (l0 : 0 ≤ l) (l1 : l ≤ 100000000) (d0 : 1 ≤ d) (d1 : d ≤ 25000) : 0 ≤ flowI l d ∧ flowI l d ≤ 10000104650000 := by
  unfold flowI
  have := div_bd (l * 100000 + 4186 * d - 1) (4186 * d) (by omega) (by omega)
  omega
def wfB (l a b : Int) : Bool := inB l 0 100000000 && inB a (-5000) 20000 && inB b (-5000) 20000
def wfV (l a b : Int) : Int := if wfB l a b && !decide (a ≤ b) && decide (flowI l (a - b) ≤ 100000) then flowI l (a - b) else 0
def wfC (l a b : Int) : Int := if wfB l a b then (if a ≤ b then 6 else if flowI l (a - b) ≤ 100000 then 0 else 3) else 2

end Go.Proofs.Ytdaedgdglammhaa
