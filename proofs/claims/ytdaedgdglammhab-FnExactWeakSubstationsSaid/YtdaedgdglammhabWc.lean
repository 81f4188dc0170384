/-
  The height of a curve of chapter 2, over the lines between points.
-/
import Derived.Test.YtdaedgdglammhabPa0
namespace Go.Proofs.Ytdaedgdglammhab
open Go.ChangeShapes Go.WideShapes Go.ChangeAt Go.RowKit Go.Shelf

set_option maxRecDepth 100000
set_option linter.unusedVariables false

/-- (so that this text stands at every seat) -/
theorem wc_here : True := trivial

end Go.Proofs.Ytdaedgdglammhab
