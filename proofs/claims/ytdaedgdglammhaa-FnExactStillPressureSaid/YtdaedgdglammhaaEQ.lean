/-
  eqPipe of two pipes that are the same.
-/
import Derived.Test.YtdaedgdglammhaaP9
namespace Go.Proofs.Ytdaedgdglammhaa
open Go.ChangeShapes Go.WideShapes Go.ChangeAt Go.RowKit

theorem eqPipe_same (id : ByteArray) (f t L d s : Int) (w : World) :
    Calls Try.prog 127 #[.agg #[.string id, .int .i64 f, .int .i64 t, .int .i64 L, .int .i64 d, .int .i64 s], .agg #[.string id, .int .i64 f, .int .i64 t, .int .i64 L, .int .i64 d, .int .i64 s]] w fun e w' => e = .returned (.bool true) ∧ Below w.heap.size w w' := by
  have e1 : (f != f) = false := by simp
  have e2 : (t != t) = false := by simp
  have e3 : (L != L) = false := by simp
  have e4 : (d != d) = false := by simp
  have e5 : (s != s) = false := by simp
  go_enter Try.func127, Try.ntmps127
  go_wp2
  go_ret
  exact ⟨rfl, bal (bal (Below.refl _ _) _) _⟩

end Go.Proofs.Ytdaedgdglammhaa
