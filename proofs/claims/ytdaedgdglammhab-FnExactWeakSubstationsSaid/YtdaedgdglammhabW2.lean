/-
  The tables of chapter 2: both sides answer the height of one line through points.
-/
import Derived.Test.YtdaedgdglammhabW1
import Derived.Test.YtdaedgdglammhabWc
namespace Go.Proofs.Ytdaedgdglammhab
open Go.ChangeShapes Go.WideShapes Go.ChangeAt Go.RowKit

theorem densPts_bd : ∀ i, i < 10 → (-536870912 ≤ (densPts.getD i (0, 0)).1 ∧ (densPts.getD i (0, 0)).1 ≤ 536870912) ∧ (-536870912 ≤ (densPts.getD i (0, 0)).2 ∧ (densPts.getD i (0, 0)).2 ≤ 536870912) := by
  intro i h
  match i, h with
  | 0, _ => decide | 1, _ => decide | 2, _ => decide | 3, _ => decide | 4, _ => decide | 5, _ => decide | 6, _ => decide | 7, _ => decide | 8, _ => decide | 9, _ => decide
theorem densPts_up : ∀ i j, i ≤ j → j < 10 → (densPts.getD i (0, 0)).1 ≤ (densPts.getD j (0, 0)).1 := by
  have h : ∀ i j : Fin 10, i.1 ≤ j.1 → (densPts.getD i.1 (0, 0)).1 ≤ (densPts.getD j.1 (0, 0)).1 := by decide
  exact fun i j a b => h ⟨i, by omega⟩ ⟨j, b⟩ a
theorem boilPts_bd : ∀ i, i < 10 → (-536870912 ≤ (boilPts.getD i (0, 0)).1 ∧ (boilPts.getD i (0, 0)).1 ≤ 536870912) ∧ (-536870912 ≤ (boilPts.getD i (0, 0)).2 ∧ (boilPts.getD i (0, 0)).2 ≤ 536870912) := by
  intro i h
  match i, h with
  | 0, _ => decide | 1, _ => decide | 2, _ => decide | 3, _ => decide | 4, _ => decide | 5, _ => decide | 6, _ => decide | 7, _ => decide | 8, _ => decide | 9, _ => decide
theorem boilPts_up : ∀ i j, i ≤ j → j < 10 → (boilPts.getD i (0, 0)).1 ≤ (boilPts.getD j (0, 0)).1 := by
  have h : ∀ i j : Fin 10, i.1 ≤ j.1 → (boilPts.getD i.1 (0, 0)).1 ≤ (boilPts.getD j.1 (0, 0)).1 := by decide
  exact fun i j a b => h ⟨i, by omega⟩ ⟨j, b⟩ a
end Go.Proofs.Ytdaedgdglammhab
