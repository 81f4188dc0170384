/-
  DivRound and Blend of the program and of the model.
-/
import Derived.Test.YthmnfobhgeamiaaA2
namespace Go.Proofs.Ythmnfobhgeamiaa
open Go.ChangeShapes Go.WideShapes Go.ChangeAt Go.RowKit

/-- DivRound: the nearest quotient, 0 where a number is out of its limits or b is 0 -/
def divRoundI (a b : Int) : Int := if b = 0 ∨ ¬ (-1000000000000 ≤ a ∧ a ≤ 1000000000000) ∨ ¬ (-1000000000000 ≤ b ∧ b ≤ 1000000000000) then 0 else nearI a b

theorem two_cells (w : World) (a b : Int) (t : TypeId) : ∀ j, j < [a, b].length → (w.alloc (.cells #[.int .i64 a, .int .i64 b] t)).cell? ⟨w.heap.size, 0 + j, none⟩ = some (.int .i64 ([a, b].getD j 0)) := by
  intro j hj
  match j, hj with
  | 0, _ => simp
  | 1, _ => simp
theorem four_cells (w : World) (a b c d : Int) (t : TypeId) : ∀ j, j < [a, b, c, d].length → (w.alloc (.cells #[.int .i64 a, .int .i64 b, .int .i64 c, .int .i64 d] t)).cell? ⟨w.heap.size, 0 + j, none⟩ = some (.int .i64 ([a, b, c, d].getD j 0)) := by
  intro j hj
  match j, hj with
  | 0, _ => simp
  | 1, _ => simp
  | 2, _ => simp
  | 3, _ => simp

theorem within_two (lo hi a b : Int) (w : World) (t : TypeId) (h : lo ≤ hi) :
    Calls Try.prog 48 #[.int .i64 lo, .int .i64 hi, .slice (some ⟨w.heap.size, 0, none⟩) 2 2] (w.alloc (.cells #[.int .i64 a, .int .i64 b] t))
      fun e w' => e = .returned (.bool (inB a lo hi && inB b lo hi)) ∧ w.alloc (.cells #[.int .i64 a, .int .i64 b] t) = w' := by
  have e := within64_any lo hi w.heap.size 0 2 [a, b] (w.alloc (.cells #[.int .i64 a, .int .i64 b] t)) (by simp) (two_cells w a b t)
  rw [allIn_cons _ _ _ _ h, allIn_cons _ _ _ _ h, allIn_nil, Bool.and_true] at e
  exact e
theorem within_four (lo hi a b c d : Int) (w : World) (t : TypeId) (h : lo ≤ hi) :
    Calls Try.prog 48 #[.int .i64 lo, .int .i64 hi, .slice (some ⟨w.heap.size, 0, none⟩) 4 4] (w.alloc (.cells #[.int .i64 a, .int .i64 b, .int .i64 c, .int .i64 d] t))
      fun e w' => e = .returned (.bool (inB a lo hi && (inB b lo hi && (inB c lo hi && inB d lo hi)))) ∧ w.alloc (.cells #[.int .i64 a, .int .i64 b, .int .i64 c, .int .i64 d] t) = w' := by
  have e := within64_any lo hi w.heap.size 0 4 [a, b, c, d] (w.alloc (.cells #[.int .i64 a, .int .i64 b, .int .i64 c, .int .i64 d] t)) (by simp) (four_cells w a b c d t)
  rw [allIn_cons _ _ _ _ h, allIn_cons _ _ _ _ h, allIn_cons _ _ _ _ h, allIn_cons _ _ _ _ h, allIn_nil, Bool.and_true] at e
  exact e

/-- nearest, whatever b -/
def nearZ (a b : Int) : Int := if b = 0 then 0 else nearI a b
theorem nearestZ_any (a b : Int) (w : World) (ha0 : -2305843009213693952 ≤ a) (ha1 : a ≤ 2305843009213693952) (hb0 : -2305843009213693952 ≤ b) (hb1 : b ≤ 2305843009213693952) :
    Calls Try.prog 60 #[.int .i64 a, .int .i64 b] w fun e w' => e = .returned (.int .i64 (nearZ a b)) ∧ Drawn w w' := by
  unfold nearZ
  split
  · next h => subst h; exact nearest_zero a w
  · next h => exact nearest_any a b w ha0 ha1 hb0 hb1 h

end Go.Proofs.Ythmnfobhgeamiaa
