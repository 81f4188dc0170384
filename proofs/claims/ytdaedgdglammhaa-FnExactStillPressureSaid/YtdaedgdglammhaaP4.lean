/-
  WaterIn, DelayOf, SpeedOf and LossOf of both sides.
-/
import Derived.Test.YtdaedgdglammhaaP3
import Derived.Test.YtdaedgdglammhaaLd0
namespace Go.Proofs.Ytdaedgdglammhaa
open Go.ChangeShapes Go.WideShapes Go.ChangeAt Go.RowKit Go.Shelf
set_option linter.unusedSimpArgs false


def watV (id : ByteArray) (f t L d s : Int)  : Int := if okP id f t L d s then (waterI L d) else 0
def watC (id : ByteArray) (f t L d s : Int)  : Int := if okP id f t L d s then 0 else 1

/-- how long water is in a pipe -/
def delayI (L d q : Int) : Int := (waterI L d + absI q - 1) / absI q
def dlyV (id : ByteArray) (f t L d s : Int) (q : Int) : Int := if okP id f t L d s && inB q (-100000) 100000 && (q != 0) then (delayI L d q) else 0
def dlyC (id : ByteArray) (f t L d s : Int) (q : Int) : Int := if okP id f t L d s then (if inB q (-100000) 100000 then (if (q != 0) then 0 else 6) else 2) else 1

/-- centimetres a second -/
def speedI (d q : Int) : Int := nearI (q * 1000000) (7854 * d * d)
def spdV (id : ByteArray) (f t L d s : Int) (q : Int) : Int := if okP id f t L d s && inB q (-100000) 100000 then (speedI d q) else 0
def spdC (id : ByteArray) (f t L d s : Int) (q : Int) : Int := if okP id f t L d s then (if inB q (-100000) 100000 then 0 else 2) else 1

def losV (id : ByteArray) (f t L d s : Int) (a : Int) (c : Int) : Int := if okP id f t L d s && inB a (-5000) 20000 && inB c (-5000) 20000 then (lossI s L a c) else 0
def losC (id : ByteArray) (f t L d s : Int) (a : Int) (c : Int) : Int := if okP id f t L d s then (if inB a (-5000) 20000 && inB c (-5000) 20000 then 0 else 2) else 1

end Go.Proofs.Ytdaedgdglammhaa
