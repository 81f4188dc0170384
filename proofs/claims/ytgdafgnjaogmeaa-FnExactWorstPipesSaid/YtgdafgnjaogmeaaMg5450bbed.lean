import Derived.Test.YtgdafgnjaogmeaaW0
import Derived.Test.YtgdafgnjaogmeaaB1
import Derived.Laws.Tables
import Derived.Deep.WholeRow
import Derived.Deep.Cut
import Derived.Deep.LoopGhost
import Derived.RegionTactic
import Derived.Shelf.Abstract
/-
  sort.Search, called with a function that never goes back to false; the program's two tables and the place on one of them.
-/
namespace Go.Proofs.Ytgdafgnjaogmeaa
open Go.ChangeShapes Go.WideShapes Go.ChangeAt Go.RowKit Go.Shelf

/-- the cells of a line through points -/
def ptsV (l : List (Int × Int)) : Array Value := (l.flatMap fun p => [Value.int .i64 p.1, Value.int .i64 p.2]).toArray
theorem ptsV_at (l : List (Int × Int)) (i : Nat) (h : i < l.length) : (ptsV l)[i * 2]? = some (.int .i64 (l.getD i (0, 0)).1) ∧ (ptsV l)[i * 2 + 1]? = some (.int .i64 (l.getD i (0, 0)).2) := by
  unfold ptsV
  induction l generalizing i with
  | nil => exact absurd h (by simp)
  | cons p r ih =>
    cases i with
    | zero => exact ⟨rfl, rfl⟩
    | succ k =>
      have := ih k (by simpa using h)
      simp only [List.getElem?_toArray] at this ⊢
      simp only [List.flatMap_cons, show (k + 1) * 2 = k * 2 + 2 by omega, show k * 2 + 2 + 1 = k * 2 + 1 + 2 by omega, List.cons_append, List.nil_append, List.getElem?_cons_succ, List.getD_cons_succ]
      exact this
theorem wpList_nil_to {P : Program} {ops : Array Oper} {Q : Exit → Act → World → Prop} {a b : Act} {w : World} (e : a = b) (h : Q .normal b w) : wpList P ops Q [] a w := by
  subst e
  exact wpList_nil h
end Go.Proofs.Ytgdafgnjaogmeaa

/-
  The tables of chapter 2: both sides answer the height of one line through points.
-/
namespace Go.Proofs.Ytgdafgnjaogmeaa
open Go.ChangeShapes Go.WideShapes Go.ChangeAt Go.RowKit

theorem densPts_bd : ∀ i, i < 10 → (-536870912 ≤ (densPts.getD i (0, 0)).1 ∧ (densPts.getD i (0, 0)).1 ≤ 536870912) ∧ (-536870912 ≤ (densPts.getD i (0, 0)).2 ∧ (densPts.getD i (0, 0)).2 ≤ 536870912) := by
  intro i h
  match i, h with
  | 0, _ => decide | 1, _ => decide | 2, _ => decide | 3, _ => decide | 4, _ => decide | 5, _ => decide | 6, _ => decide | 7, _ => decide | 8, _ => decide | 9, _ => decide
theorem densPts_up : ∀ i j, i ≤ j → j < 10 → (densPts.getD i (0, 0)).1 ≤ (densPts.getD j (0, 0)).1 := by
  have h : ∀ i j : Fin 10, i.1 ≤ j.1 → (densPts.getD i.1 (0, 0)).1 ≤ (densPts.getD j.1 (0, 0)).1 := by decide
  exact fun i j a b => h ⟨i, by omega⟩ ⟨j, b⟩ a
theorem boilPts_bd : ∀ i, i < 10 → (-536870912 ≤ (boilPts.getD i (0, 0)).1 ∧ (boilPts.getD i (0, 0)).1 ≤ 536870912) ∧ (-536870912 ≤ (boilPts.getD i (0, 0)).2 ∧ (boilPts.getD i (0, 0)).2 ≤ 536870912) := by
  intro i h
  match i, h with
  | 0, _ => decide | 1, _ => decide | 2, _ => decide | 3, _ => decide | 4, _ => decide | 5, _ => decide | 6, _ => decide | 7, _ => decide | 8, _ => decide | 9, _ => decide
theorem boilPts_up : ∀ i j, i ≤ j → j < 10 → (boilPts.getD i (0, 0)).1 ≤ (boilPts.getD j (0, 0)).1 := by
  have h : ∀ i j : Fin 10, i.1 ≤ j.1 → (boilPts.getD i.1 (0, 0)).1 ≤ (boilPts.getD j.1 (0, 0)).1 := by decide
  exact fun i j a b => h ⟨i, by omega⟩ ⟨j, b⟩ a
end Go.Proofs.Ytgdafgnjaogmeaa
