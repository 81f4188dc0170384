/-
  The height of a curve of chapter 2, over the lines between points.
-/
import Derived.Test.YthmnfobhgeamiaaPa0
namespace Go.Proofs.Ythmnfobhgeamiaa
open Go.ChangeShapes Go.WideShapes Go.ChangeAt Go.RowKit Go.Shelf

set_option maxRecDepth 100000
set_option linter.unusedVariables false

/-- (so that this text stands at every seat) -/
theorem wc_here : True := trivial

theorem at_any (l : List (Int × Int)) (x : Int) (w : World) (hl : l.length = 10) (hr : ∀ i j, i ≤ j → j < 10 → (l.getD i (0, 0)).1 ≤ (l.getD j (0, 0)).1)
    (hb : ∀ i, i < 10 → (-536870912 ≤ (l.getD i (0, 0)).1 ∧ (l.getD i (0, 0)).1 ≤ 536870912) ∧ (-536870912 ≤ (l.getD i (0, 0)).2 ∧ (l.getD i (0, 0)).2 ≤ 536870912)) :
    Calls Try.prog 45 #[.agg (ptsV l), .int .i64 x] w fun e w' => e = .returned (.int .i64 (curveL l x)) ∧ Below w.heap.size w w' := by
  have hba : Below w.heap.size w (w.alloc (.cells (ptsV l) 43)) := balW (Below.refl _ _) _
  have hP := pointsC_any w.heap.size 0 10 10 l x (w.alloc (.cells (ptsV l) 43)) hl (fun i hi => by rw [Nat.zero_add]; have := ptsV_at l i (by omega); exact ⟨by simpa using this.1, by simpa using this.2⟩) (by omega) (by omega) hr hb
  have HP := Lib.hid hP
  generalize curveL l x = R at *
  clear hP hr hb
  go_enter Try.func45, Try.ntmps45
  go_wp2_with fail
  refine HP.out.mono ?_
  rintro e w1 ⟨rfl, hb1⟩
  have hb := bnext hba hb1
  go_wp2
  go_ret
  exact ⟨rfl, hb⟩
end Go.Proofs.Ythmnfobhgeamiaa
