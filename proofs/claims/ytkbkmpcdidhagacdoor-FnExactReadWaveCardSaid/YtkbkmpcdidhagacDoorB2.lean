/-
  IsName of the program and of the model.
-/
import Derived.Test.YtkbkmpcdidhagacDoorB1
namespace Go.Proofs.YtkbkmpcdidhagacDoor
open Go.ChangeShapes Go.WideShapes Go.ChangeAt Go.RowKit

def isLow (b : UInt8) : Bool := inB (b.toNat : Int) 97 122
def isDig (b : UInt8) : Bool := inB (b.toNat : Int) 48 57
def isAln (b : UInt8) : Bool := isLow b || isDig b
/-- a name: 1 to 10 bytes, letters and digits, a letter first -/
def nameL (l : List UInt8) : Bool := decide (1 ≤ l.length ∧ l.length ≤ 10) && (isLow (l.headD 0) && l.all isAln)

end Go.Proofs.YtkbkmpcdidhagacDoor
