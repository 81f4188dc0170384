/-
  Copies of Pump as the exact laws use them.
-/
import Derived.Test.YtkbkmpcdidhagabPm2
namespace Go.Proofs.Ytkbkmpcdidhagab
open Go.ChangeShapes Go.WideShapes Go.ChangeAt Go.RowKit
set_option linter.unusedVariables false
set_option maxRecDepth 100000

theorem copyPm (x : Pm) (w : World) (h : x.okay w) :
    Calls Try.prog 15 #[.agg #[.string x.d.id, .slice x.cvA x.d.cv.length x.cvc]] w fun e w' => ∃ y : Pm, y.d = x.d ∧ e = .returned (.agg #[.string y.d.id, .slice y.cvA y.d.cv.length y.cvc]) ∧ y.okay w' ∧ Below w.heap.size w w' := by
  refine (toPm_any x w h).mono ?_
  rintro e w' ⟨y, hd, rfl, -, hok, -, -, -, hb⟩
  exact ⟨y, hd, rfl, hok, hb⟩
theorem eqPm_same (x y : Pm) (w : World) (hd : x.d = y.d) (hx : x.fine w) (hy : y.fine w) :
    Calls Try.prog 17 #[.agg #[.string x.d.id, .slice x.cvA x.d.cv.length x.cvc], .agg #[.string y.d.id, .slice y.cvA y.d.cv.length y.cvc]] w fun e w' => e = .returned (.bool true) ∧ Below w.heap.size w w' := by
  obtain ⟨d, A, c, rs⟩ := x
  obtain ⟨d', A', c', rs'⟩ := y
  dsimp only at hd
  subst hd
  have HX := Lib.hid hx
  have HY := Lib.hid hy
  have hm : (d.id.size : Int) ≤ 9223372036854775807 := by have : d.id.size ≤ maxLen := hx.1; unfold maxLen at this; omega
  clear hx hy
  have hb : Below w.heap.size w ((w.alloc (.cells #[.string d.id, .slice A d.cv.length c] 27)).alloc (.cells #[.string d.id, .slice A' d.cv.length c'] 27)) := bal (bal (Below.refl _ _) _) _
  go_enter Try.func17, Try.ntmps17
  go_wp2_with fail
  refine (eqRws_same A A' d.cv.length c c' rs rs' _ (by rw [HX.out.2.1, HY.out.2.1]) (HX.out.2.2.go hb) (HY.out.2.2.go hb)).mono ?_
  rintro e w1 ⟨rfl, hb1⟩
  go_wp2
  go_ret
  exact ⟨rfl, bnext hb hb1⟩
end Go.Proofs.Ytkbkmpcdidhagab
