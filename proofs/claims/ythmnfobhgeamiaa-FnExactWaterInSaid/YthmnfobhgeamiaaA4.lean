/-
  Blend of the program and of the model: the value on a line through two points.
-/
import Derived.Test.YthmnfobhgeamiaaA3
namespace Go.Proofs.Ythmnfobhgeamiaa
open Go.ChangeShapes Go.WideShapes Go.ChangeAt Go.RowKit

/-- the value at x of the line through two points, at the nearer end beyond them -/
def lineI (x0 y0 x1 y1 x : Int) : Int :=
  if x ≤ x0 ∨ x1 ≤ x0 then y0 else if x1 ≤ x then y1 else y0 + nearI ((y1 - y0) * (x - x0)) (x1 - x0)

theorem nearI_bd (a b : Int) (K : Int) (h0 : -K ≤ a) (h1 : a ≤ K) (hb : b ≠ 0) : -K - 1 ≤ nearI a b ∧ nearI a b ≤ K + 1 := by
  have h := tdiv_bd a b K h0 h1
  rw [nearI_eq a b hb]
  split
  · omega
  · split <;> omega
theorem mul_bd (p q P Q : Int) (hp0 : -P ≤ p) (hp1 : p ≤ P) (hq0 : 0 ≤ q) (hq1 : q ≤ Q) : -(P * Q) ≤ p * q ∧ p * q ≤ P * Q := by
  have hP : 0 ≤ P := by omega
  have h1 : P * q ≤ P * Q := Int.mul_le_mul_of_nonneg_left hq1 hP
  have h2 : p * q ≤ P * q := Int.mul_le_mul_of_nonneg_right hp1 hq0
  have h3 : -P * q ≤ p * q := Int.mul_le_mul_of_nonneg_right hp0 hq0
  rw [Int.neg_mul] at h3
  omega
theorem nearI_zero (b : Int) (hb : b ≠ 0) : nearI 0 b = 0 := by
  rw [nearI_eq 0 b hb, Int.zero_tmod, Int.zero_tdiv]
  have : absI 0 = 0 := rfl
  rw [this, if_pos]
  rw [absI_nat]; omega
theorem nearI_mul (c b : Int) (hb : 0 < b) : nearI (c * b) b = c := by
  rw [nearI_eq _ b (by omega), Int.mul_tmod_left, Int.mul_tdiv_cancel _ (by omega)]
  have : absI 0 = 0 := rfl
  rw [this, if_pos]
  rw [absI_nat]; omega

theorem line_any (x0 y0 x1 y1 x : Int) (w : World) (hx0 : -536870912 ≤ x0 ∧ x0 ≤ 536870912) (hy0 : -536870912 ≤ y0 ∧ y0 ≤ 536870912) (hx1 : -536870912 ≤ x1 ∧ x1 ≤ 536870912) (hy1 : -536870912 ≤ y1 ∧ y1 ≤ 536870912) :
    Calls Try.prog 88 #[.int .i64 x0, .int .i64 y0, .int .i64 x1, .int .i64 y1, .int .i64 x] w fun e w' => e = .returned (.int .i64 (lineI x0 y0 x1 y1 x)) ∧ w = w' := by
  have H : Hid (lineI x0 y0 x1 y1 x = _) := Lib.hid (by unfold lineI; rfl)
  by_cases h1 : x ≤ x0
  · rw [if_pos (.inl h1)] at H
    go_enter Try.func88, Try.ntmps88
    go_wp2
    go_ret
    exact ⟨by rw [H.out]; rfl, rfl⟩
  · by_cases h2 : x1 ≤ x0
    · rw [if_pos (.inr h2)] at H
      go_enter Try.func88, Try.ntmps88
      go_wp2
      go_ret
      exact ⟨by rw [H.out]; rfl, rfl⟩
    · rw [if_neg (by omega)] at H
      by_cases h3 : x1 ≤ x
      · rw [if_pos h3] at H
        go_enter Try.func88, Try.ntmps88
        go_wp2
        go_ret
        exact ⟨by rw [H.out]; rfl, rfl⟩
      · rw [if_neg h3] at H
        have hp := mul_bd (y1 - y0) (x - x0) 1073741824 1073741824 (by omega) (by omega) (by omega) (by omega)
        have hn := nearI_bd ((y1 - y0) * (x - x0)) (x1 - x0) 1152921504606846976 (by omega) (by omega) (by omega)
        go_enter Try.func88, Try.ntmps88
        go_wp2_with (go_at_call 58; refine (l01Div_any _ _ _ (by omega) (by omega) (by omega) (by omega) (by omega)).mono ?_; rintro e w' ⟨rfl, rfl⟩)
        go_ret
        exact ⟨by rw [H.out]; rfl, rfl⟩

theorem blend_any (x0 y0 x1 y1 x : Int) (w : World) (hx0 : -536870912 ≤ x0 ∧ x0 ≤ 536870912) (hy0 : -536870912 ≤ y0 ∧ y0 ≤ 536870912) (hx1 : -536870912 ≤ x1 ∧ x1 ≤ 536870912) (hy1 : -536870912 ≤ y1 ∧ y1 ≤ 536870912) :
    Calls Try.prog 91 #[.int .i64 x0, .int .i64 y0, .int .i64 x1, .int .i64 y1, .int .i64 x] w fun e w' => e = .returned (.int .i64 (lineI x0 y0 x1 y1 x)) ∧ Drawn w w' := by
  by_cases h2 : x1 ≤ x0
  · have H : Hid (lineI x0 y0 x1 y1 x = y0) := Lib.hid (by unfold lineI; rw [if_pos (.inr h2)])
    go_enter Try.func91, Try.ntmps91
    go_wp2
    go_ret
    exact ⟨by rw [H.out]; rfl, Drawn.rfl' _⟩
  · have hcl : x0 ≤ clampI x0 x1 x ∧ clampI x0 x1 x ≤ x1 := by unfold clampI; omega
    have H : Hid (lineI x0 y0 x1 y1 x = y0 + nearI ((y1 - y0) * (clampI x0 x1 x - x0)) (x1 - x0)) := Lib.hid (by
      unfold lineI
      by_cases h1 : x ≤ x0
      · rw [if_pos (.inl h1), show clampI x0 x1 x = x0 by unfold clampI; omega, Int.sub_self, Int.mul_zero, nearI_zero _ (by omega), Int.add_zero]
      · rw [if_neg (by omega)]
        by_cases h3 : x1 ≤ x
        · rw [if_pos h3, show clampI x0 x1 x = x1 by unfold clampI; omega, nearI_mul _ _ (by omega)]; omega
        · rw [if_neg h3, show clampI x0 x1 x = x by unfold clampI; omega])
    have hp := mul_bd (y1 - y0) (clampI x0 x1 x - x0) 1073741824 1073741824 (by omega) (by omega) (by omega) (by omega)
    have hn := nearI_bd ((y1 - y0) * (clampI x0 x1 x - x0)) (x1 - x0) 1152921504606846976 (by omega) (by omega) (by omega)
    go_enter Try.func91, Try.ntmps91
    go_wp2_with (first | (go_at_call 98; refine (clamp_any _ _ _ _).mono ?_; rintro e w' ⟨rfl, rfl⟩) | (go_at_call 60; refine (nearest_any _ _ _ (by omega) (by omega) (by omega) (by omega) (by omega)).mono ?_; rintro e w' ⟨rfl, ⟨n, rfl⟩⟩))
    go_ret
    exact ⟨by rw [H.out]; rfl, ⟨_, rfl⟩⟩

/-- Blend: 0 where a point is out of its limits -/
def blendI (x0 y0 x1 y1 x : Int) : Int :=
  if inB x0 (-1000000) 1000000 && (inB y0 (-1000000) 1000000 && (inB x1 (-1000000) 1000000 && inB y1 (-1000000) 1000000)) then lineI x0 y0 x1 y1 x else 0

end Go.Proofs.Ythmnfobhgeamiaa
