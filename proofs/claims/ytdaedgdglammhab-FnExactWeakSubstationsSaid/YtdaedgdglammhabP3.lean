/-
  Drops, water, losses: what both sides answer of a valid pipe; bounds of its numbers.
-/
import Derived.Test.YtdaedgdglammhabP2
import Derived.Deep.RegionHeld3
namespace Go.Proofs.Ytdaedgdglammhab
open Go.ChangeShapes Go.WideShapes Go.ChangeAt Go.RowKit Go.Shelf
set_option linter.unusedSimpArgs false


theorem Drawn.below {w w' : World} (h : Drawn w w') : Below w.heap.size w w' := by
  obtain ⟨n, rfl⟩ := h
  exact below_drewN (Below.refl _ _) _
theorem okP_bd (id : ByteArray) (f t L d s : Int) (h : okP id f t L d s = true) : nameL id.data.toList = true ∧ (0 ≤ f ∧ f ≤ 15) ∧ (0 ≤ t ∧ t ≤ 15) ∧ f ≠ t ∧ (1 ≤ L ∧ L ≤ 10000) ∧ (20 ≤ d ∧ d ≤ 1000) ∧ (0 ≤ s ∧ s ≤ 5000) := by
  unfold okP at h
  simp only [Bool.and_eq_true, inB_iff, Bool.not_eq_true', decide_eq_false_iff_not] at h
  obtain ⟨a, b, c, e, g, i, j⟩ := h
  exact ⟨a, b, c, e, g, i, j⟩

def dropOV (id : ByteArray) (f t L d s : Int) (q : Int) : Int := if okP id f t L d s && inB q (-100000) 100000 && inB (dropI L d q) (-100000000) 100000000 then (dropI L d q) else 0
def dropOC (id : ByteArray) (f t L d s : Int) (q : Int) : Int := if okP id f t L d s then (if inB q (-100000) 100000 then (if inB (dropI L d q) (-100000000) 100000000 then 0 else 6) else 2) else 1

end Go.Proofs.Ytdaedgdglammhab
