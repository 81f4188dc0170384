/-
  Blend of the program and of the model: the value on a line through two points.
-/
import Derived.Test.YtdaedgdglammhabA3
namespace Go.Proofs.Ytdaedgdglammhab
open Go.ChangeShapes Go.WideShapes Go.ChangeAt Go.RowKit

/-- the value at x of the line through two points, at the nearer end beyond them -/
def lineI (x0 y0 x1 y1 x : Int) : Int :=
  if x ≤ x0 ∨ x1 ≤ x0 then y0 else if x1 ≤ x then y1 else y0 + nearI ((y1 - y0) * (x - x0)) (x1 - x0)

theorem nearI_bd (a b : Int) (K : Int) (h0 : -K ≤ a) (h1 : a ≤ K) (hb : b ≠ 0) : -K - 1 ≤ nearI a b ∧ nearI a b ≤ K + 1 := by
  have h := tdiv_bd a b K h0 h1
  rw [nearI_eq a b hb]
  split
  · omega
  · split <;> omega
theorem mul_bd (p q P Q : Int) (hp0 : -P ≤ p) (hp1 : p ≤ P) (hq0 : 0 ≤ q) (hq1 : q ≤ Q) : -(P * Q) ≤ p * q ∧ p * q ≤ P * Q := by
  have hP : 0 ≤ P := by omega
  have h1 : P * q ≤ P * Q := Int.mul_le_mul_of_nonneg_left hq1 hP
  have h2 : p * q ≤ P * q := Int.mul_le_mul_of_nonneg_right hp1 hq0
  have h3 : -P * q ≤ p * q := Int.mul_le_mul_of_nonneg_right hp0 hq0
  rw [Int.neg_mul] at h3
  omega
theorem nearI_zero (b : Int) (hb : b ≠ 0) : nearI 0 b = 0 := by
  rw [nearI_eq 0 b hb, Int.zero_tmod, Int.zero_tdiv]
  have : absI 0 = 0 := rfl
  rw [this, if_pos]
  rw [absI_nat]; omega
theorem nearI_mul (c b : Int) (hb : 0 < b) : nearI (c * b) b = c := by
  rw [nearI_eq _ b (by omega), Int.mul_tmod_left, Int.mul_tdiv_cancel _ (by omega)]
  have : absI 0 = 0 := rfl
  rw [this, if_pos]
  rw [absI_nat]; omega

/-- Blend: 0 where a point is out of its limits -/
def blendI (x0 y0 x1 y1 x : Int) : Int :=
  if inB x0 (-1000000) 1000000 && (inB y0 (-1000000) 1000000 && (inB x1 (-1000000) 1000000 && inB y1 (-1000000) 1000000)) then lineI x0 y0 x1 y1 x else 0

end Go.Proofs.Ytdaedgdglammhab
