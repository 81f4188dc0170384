/-
  firstFrom: the least number at which a function that never falls reaches a goal; what is built on it in chapter 2.
-/
import Derived.Test.YtgdafgnjaogmeabW3
import Derived.Deep.RegionHeld3
namespace Go.Proofs.Ytgdafgnjaogmeab
open Go.ChangeShapes Go.WideShapes Go.ChangeAt Go.RowKit Go.Shelf

/-- the least number from lo to hi at which f is at least goal, hi + 1 if there is none, where f never falls -/
def leastI (lo hi goal : Int) (f : Int → Int) : Int := lo + countF (fun i => decide (goal ≤ f (lo + (i : Int)))) (hi - lo + 1).toNat
theorem leastI_spec (lo hi goal : Int) (f : Int → Int) (h : lo ≤ hi + 1) (hm : ∀ x y, lo ≤ x → x ≤ y → y ≤ hi → f x ≤ f y) : Least lo hi goal f (leastI lo hi goal f) :=
  least_of_count (by omega) (fun _ _ => rfl) hm
end Go.Proofs.Ytgdafgnjaogmeab
