/-
  What a coat loses, what a pipe loses: CoatLoss, RangeLoss of both sides.
-/
import Derived.Test.YtdaedgdglammhaaP4
namespace Go.Proofs.Ytdaedgdglammhaa
open Go.ChangeShapes Go.WideShapes Go.ChangeAt Go.RowKit Go.Shelf
set_option linter.unusedSimpArgs false


/-- what a coat loses -/
def coatI (d t k : Int) : Int := clampI 1 5000 (nearI (3 * k * (d + t)) t)
theorem coat_num (d t k : Int) (d0 : 20 ≤ d) (d1 : d ≤ 1000) (t0 : 1 ≤ t) (t1 : t ≤ 300) (k0 : 1 ≤ k) (k1 : k ≤ 1000) : 0 ≤ 3 * k * (d + t) ∧ 3 * k * (d + t) ≤ 3900000 := by
  have h := mul_range (3 * k) (d + t) 3000 1300 (by omega) (by omega) (by omega) (by omega)
  omega
def coatV (d : Int) (t : Int) (k : Int) : Int := if inB d 20 1000 && inB t 1 300 && inB k 1 1000 then coatI d t k else 0
def coatC (d : Int) (t : Int) (k : Int) : Int := if inB d 20 1000 && inB t 1 300 && inB k 1 1000 then 0 else 2

end Go.Proofs.Ytdaedgdglammhaa
