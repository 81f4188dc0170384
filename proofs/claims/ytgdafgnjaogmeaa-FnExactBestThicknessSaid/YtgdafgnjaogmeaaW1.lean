/-
  sort.Search, called with a function that never goes back to false; the program's two tables and the place on one of them.
-/
import Derived.Test.YtgdafgnjaogmeaaW0
import Derived.Test.YtgdafgnjaogmeaaB1
import Derived.Laws.Tables
import Derived.Deep.WholeRow
import Derived.Deep.Cut
import Derived.Deep.LoopGhost
import Derived.RegionTactic
import Derived.Shelf.Abstract
namespace Go.Proofs.Ytgdafgnjaogmeaa
open Go.ChangeShapes Go.WideShapes Go.ChangeAt Go.RowKit Go.Shelf

/-- the cells of a line through points -/
def ptsV (l : List (Int × Int)) : Array Value := (l.flatMap fun p => [Value.int .i64 p.1, Value.int .i64 p.2]).toArray
theorem ptsV_at (l : List (Int × Int)) (i : Nat) (h : i < l.length) : (ptsV l)[i * 2]? = some (.int .i64 (l.getD i (0, 0)).1) ∧ (ptsV l)[i * 2 + 1]? = some (.int .i64 (l.getD i (0, 0)).2) := by
  unfold ptsV
  induction l generalizing i with
  | nil => exact absurd h (by simp)
  | cons p r ih =>
    cases i with
    | zero => exact ⟨rfl, rfl⟩
    | succ k =>
      have := ih k (by simpa using h)
      simp only [List.getElem?_toArray] at this ⊢
      simp only [List.flatMap_cons, show (k + 1) * 2 = k * 2 + 2 by omega, show k * 2 + 2 + 1 = k * 2 + 1 + 2 by omega, List.cons_append, List.nil_append, List.getElem?_cons_succ, List.getD_cons_succ]
      exact this
theorem wpList_nil_to {P : Program} {ops : Array Oper} {Q : Exit → Act → World → Prop} {a b : Act} {w : World} (e : a = b) (h : Q .normal b w) : wpList P ops Q [] a w := by
  subst e
  exact wpList_nil h
end Go.Proofs.Ytgdafgnjaogmeaa
