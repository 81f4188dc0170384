/-
  ValidPipe of both sides, and the codes that stand ahead of each answer about a pipe.
-/
import Derived.Test.YtdaedgdglammhabP1
namespace Go.Proofs.Ytdaedgdglammhab
open Go.ChangeShapes Go.WideShapes Go.ChangeAt Go.RowKit


/-- the code of a pipe and whether the other arguments are in their ranges -/
def codeP (id : ByteArray) (f t L d s : Int) (r : Bool) : Int := if okP id f t L d s then (if r then 0 else 2) else 1

/-- the code of an argument that is valid or not, and of others that are in their ranges or not -/
def argC (v r : Bool) : Int := if v then (if r then 0 else 2) else 1
theorem argumentCode_any (v r : Bool) (w : World) :
    Calls Try.prog 77 #[.bool v, .bool r] w fun e w' => e = .returned (.int .i64 (argC v r)) ∧ w = w' := by
  cases v
  all_goals cases r
  all_goals go_enter Try.func77, Try.ntmps77
  all_goals go_wp2
  all_goals go_ret
  all_goals exact ⟨rfl, rfl⟩

end Go.Proofs.Ytdaedgdglammhab
