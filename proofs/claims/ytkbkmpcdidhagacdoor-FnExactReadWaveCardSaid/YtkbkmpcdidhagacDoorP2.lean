/-
  ValidPipe of both sides, and the codes that stand ahead of each answer about a pipe.
-/
import Derived.Test.YtkbkmpcdidhagacDoorP1
namespace Go.Proofs.YtkbkmpcdidhagacDoor
open Go.ChangeShapes Go.WideShapes Go.ChangeAt Go.RowKit


/-- the code of a pipe and whether the other arguments are in their ranges -/
def codeP (id : ByteArray) (f t L d s : Int) (r : Bool) : Int := if okP id f t L d s then (if r then 0 else 2) else 1

/-- the code of an argument that is valid or not, and of others that are in their ranges or not -/
def argC (v r : Bool) : Int := if v then (if r then 0 else 2) else 1
end Go.Proofs.YtkbkmpcdidhagacDoor
