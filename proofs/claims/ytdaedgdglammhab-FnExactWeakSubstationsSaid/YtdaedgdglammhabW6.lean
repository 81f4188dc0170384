/-
  SteamPressure and FlowForPower: both sides answer the least place at which a curve, or a power, reaches what is asked.
-/
import Derived.Test.YtdaedgdglammhabW4
namespace Go.Proofs.Ytdaedgdglammhab
open Go.ChangeShapes Go.WideShapes Go.ChangeAt Go.RowKit Go.Shelf


def stmI (t : Int) : Int := leastI 1000 1200000 t boilI
def stmV (t : Int) : Int := if inB t 0 18000 then stmI t else 0
def stmC (t : Int) : Int := if inB t 0 18000 then 0 else 2

def ffI (p a b : Int) : Int := leastI 0 100000 p (fun q => wattI q (a - b))
theorem watt_mono (q r d : Int) (h : q ≤ r) (hd : 0 ≤ d) : wattI q d ≤ wattI r d :=
  nearI_mono _ _ _ (by omega) (Int.mul_le_mul_of_nonneg_right (by omega) hd)

def ffpV (p : Int) (a : Int) (b : Int) : Int := if inB p 0 100000000 && inB a 0 18000 && inB b 0 a && inB (ffI p a b) 0 100000 then ffI p a b else 0
def ffpC (p : Int) (a : Int) (b : Int) : Int := if inB p 0 100000000 && inB a 0 18000 && inB b 0 a then (if inB (ffI p a b) 0 100000 then 0 else 6) else 2

theorem ff_low (p a b : Int) (h : 0 ≤ a - b) : 0 ≤ ffI p a b := (leastI_spec 0 100000 p (fun q => wattI q (a - b)) (by omega) (fun x y _ h _ => watt_mono x y _ h (by omega))).1

end Go.Proofs.Ytdaedgdglammhab
