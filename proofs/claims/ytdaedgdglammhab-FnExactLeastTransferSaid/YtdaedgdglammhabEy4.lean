/-
  LeastPrimary and LeastTransfer of both sides.
-/
import Derived.Test.YtdaedgdglammhabEy2
import Derived.Test.YtdaedgdglammhabEy3
namespace Go.Proofs.Ytdaedgdglammhab
theorem y4_here : True := trivial
end Go.Proofs.Ytdaedgdglammhab
