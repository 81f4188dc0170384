import Derived.Test.YtgdafgnjaogmeaaMa6
/-
  The places of a ranking.
-/
namespace Go.Proofs.Ytgdafgnjaogmeaa
open Go.ChangeShapes Go.WideShapes Go.ChangeAt Go.RowKit Go.Sort

set_option maxRecDepth 100000
set_option maxHeartbeats 1600000
set_option linter.unusedVariables false

theorem rankI_at (l : List Int) (j : Nat) (hj : j < l.length) : ∃ q : Nat, (rankI l)[j]? = some ((q : Nat) : Int) ∧ q < l.length := by
  obtain ⟨m, hm⟩ : ∃ m, l.length = m + 1 := ⟨l.length - 1, by omega⟩
  rw [rankI_of l m hm]
  have hn := rankF_length l m
  refine ⟨((rankF l m)[j]'(by omega)).val, ?_, by omega⟩
  simp [show j < (rankF l m).length by omega]
theorem cellsAt_set {w : World} {b o g : Nat} {vs : List Value} (h : CellsAt w (some ⟨b, o, none⟩) vs) (hne : b ≠ g) (j : Nat) (v : Value) : CellsAt (w.setCell ⟨g, j, none⟩ v) (some ⟨b, o, none⟩) vs := by
  intro h0
  obtain ⟨b', o', e, hc⟩ := h h0
  cases e
  exact ⟨b, o, rfl, fun i hi => (World.cell?_setCell_other _ _ _ _ (by intro hh; injection hh with h1; exact hne h1.symm)).trans (hc i hi)⟩

end Go.Proofs.Ytgdafgnjaogmeaa
