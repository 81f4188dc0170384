/-
  ValidPipe of both sides, and the codes that stand ahead of each answer about a pipe.
-/
import Derived.Test.YtjabcoanpinpiaaDoorP1
namespace Go.Proofs.YtjabcoanpinpiaaDoor
open Go.ChangeShapes Go.WideShapes Go.ChangeAt Go.RowKit


/-- the code of a pipe and whether the other arguments are in their ranges -/
def codeP (id : ByteArray) (f t L d s : Int) (r : Bool) : Int := if okP id f t L d s then (if r then 0 else 2) else 1

end Go.Proofs.YtjabcoanpinpiaaDoor
