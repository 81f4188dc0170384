import Derived.Test.YtgdafgnjaogmeaaA2
/-
  DivRound and Blend of the program and of the model.
-/
namespace Go.Proofs.Ytgdafgnjaogmeaa
open Go.ChangeShapes Go.WideShapes Go.ChangeAt Go.RowKit

/-- DivRound: the nearest quotient, 0 where a number is out of its limits or b is 0 -/
def divRoundI (a b : Int) : Int := if b = 0 ∨ ¬ (-1000000000000 ≤ a ∧ a ≤ 1000000000000) ∨ ¬ (-1000000000000 ≤ b ∧ b ≤ 1000000000000) then 0 else nearI a b

theorem two_cells (w : World) (a b : Int) (t : TypeId) : ∀ j, j < [a, b].length → (w.alloc (.cells #[.int .i64 a, .int .i64 b] t)).cell? ⟨w.heap.size, 0 + j, none⟩ = some (.int .i64 ([a, b].getD j 0)) := by
  intro j hj
  match j, hj with
  | 0, _ => simp
  | 1, _ => simp
theorem four_cells (w : World) (a b c d : Int) (t : TypeId) : ∀ j, j < [a, b, c, d].length → (w.alloc (.cells #[.int .i64 a, .int .i64 b, .int .i64 c, .int .i64 d] t)).cell? ⟨w.heap.size, 0 + j, none⟩ = some (.int .i64 ([a, b, c, d].getD j 0)) := by
  intro j hj
  match j, hj with
  | 0, _ => simp
  | 1, _ => simp
  | 2, _ => simp
  | 3, _ => simp

theorem within_two (lo hi a b : Int) (w : World) (t : TypeId) (h : lo ≤ hi) :
    Calls Try.prog 56 #[.int .i64 lo, .int .i64 hi, .slice (some ⟨w.heap.size, 0, none⟩) 2 2] (w.alloc (.cells #[.int .i64 a, .int .i64 b] t))
      fun e w' => e = .returned (.bool (inB a lo hi && inB b lo hi)) ∧ w.alloc (.cells #[.int .i64 a, .int .i64 b] t) = w' := by
  have e := within64_any lo hi w.heap.size 0 2 [a, b] (w.alloc (.cells #[.int .i64 a, .int .i64 b] t)) (by simp) (two_cells w a b t)
  rw [allIn_cons _ _ _ _ h, allIn_cons _ _ _ _ h, allIn_nil, Bool.and_true] at e
  exact e
theorem within_four (lo hi a b c d : Int) (w : World) (t : TypeId) (h : lo ≤ hi) :
    Calls Try.prog 56 #[.int .i64 lo, .int .i64 hi, .slice (some ⟨w.heap.size, 0, none⟩) 4 4] (w.alloc (.cells #[.int .i64 a, .int .i64 b, .int .i64 c, .int .i64 d] t))
      fun e w' => e = .returned (.bool (inB a lo hi && (inB b lo hi && (inB c lo hi && inB d lo hi)))) ∧ w.alloc (.cells #[.int .i64 a, .int .i64 b, .int .i64 c, .int .i64 d] t) = w' := by
  have e := within64_any lo hi w.heap.size 0 4 [a, b, c, d] (w.alloc (.cells #[.int .i64 a, .int .i64 b, .int .i64 c, .int .i64 d] t)) (by simp) (four_cells w a b c d t)
  rw [allIn_cons _ _ _ _ h, allIn_cons _ _ _ _ h, allIn_cons _ _ _ _ h, allIn_cons _ _ _ _ h, allIn_nil, Bool.and_true] at e
  exact e

/-- nearest, whatever b -/
def nearZ (a b : Int) : Int := if b = 0 then 0 else nearI a b
theorem nearestZ_any (a b : Int) (w : World) (ha0 : -2305843009213693952 ≤ a) (ha1 : a ≤ 2305843009213693952) (hb0 : -2305843009213693952 ≤ b) (hb1 : b ≤ 2305843009213693952) :
    Calls Try.prog 60 #[.int .i64 a, .int .i64 b] w fun e w' => e = .returned (.int .i64 (nearZ a b)) ∧ Drawn w w' := by
  unfold nearZ
  split
  · next h => subst h; exact nearest_zero a w
  · next h => exact nearest_any a b w ha0 ha1 hb0 hb1 h

end Go.Proofs.Ytgdafgnjaogmeaa

/-
  Blend of the program and of the model: the value on a line through two points.
-/
namespace Go.Proofs.Ytgdafgnjaogmeaa
open Go.ChangeShapes Go.WideShapes Go.ChangeAt Go.RowKit

/-- the value at x of the line through two points, at the nearer end beyond them -/
def lineI (x0 y0 x1 y1 x : Int) : Int :=
  if x ≤ x0 ∨ x1 ≤ x0 then y0 else if x1 ≤ x then y1 else y0 + nearI ((y1 - y0) * (x - x0)) (x1 - x0)

theorem nearI_bd (a b : Int) (K : Int) (h0 : -K ≤ a) (h1 : a ≤ K) (hb : b ≠ 0) : -K - 1 ≤ nearI a b ∧ nearI a b ≤ K + 1 := by
  have h := tdiv_bd a b K h0 h1
  rw [nearI_eq a b hb]
  split
  · omega
  · split <;> omega
theorem mul_bd (p q P Q : Int) (hp0 : -P ≤ p) (hp1 : p ≤ P) (hq0 : 0 ≤ q) (hq1 : q ≤ Q) : -(P * Q) ≤ p * q ∧ p * q ≤ P * Q := by
  have hP : 0 ≤ P := by omega
  have h1 : P * q ≤ P * Q := Int.mul_le_mul_of_nonneg_left hq1 hP
  have h2 : p * q ≤ P * q := Int.mul_le_mul_of_nonneg_right hp1 hq0
  have h3 : -P * q ≤ p * q := Int.mul_le_mul_of_nonneg_right hp0 hq0
  rw [Int.neg_mul] at h3
  omega
theorem nearI_zero (b : Int) (hb : b ≠ 0) : nearI 0 b = 0 := by
  rw [nearI_eq 0 b hb, Int.zero_tmod, Int.zero_tdiv]
  have : absI 0 = 0 := rfl
  rw [this, if_pos]
  rw [absI_nat]; omega
theorem nearI_mul (c b : Int) (hb : 0 < b) : nearI (c * b) b = c := by
  rw [nearI_eq _ b (by omega), Int.mul_tmod_left, Int.mul_tdiv_cancel _ (by omega)]
  have : absI 0 = 0 := rfl
  rw [this, if_pos]
  rw [absI_nat]; omega

/-- Blend: 0 where a point is out of its limits -/
def blendI (x0 y0 x1 y1 x : Int) : Int :=
  if inB x0 (-1000000) 1000000 && (inB y0 (-1000000) 1000000 && (inB x1 (-1000000) 1000000 && inB y1 (-1000000) 1000000)) then lineI x0 y0 x1 y1 x else 0

end Go.Proofs.Ytgdafgnjaogmeaa
