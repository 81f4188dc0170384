/-
  EndTemperature of both sides.
-/
import Derived.Test.YtmopnkkpcgiafabGreatDoorP3
namespace Go.Proofs.YtmopnkkpcgiafabGreatDoor
open Go.ChangeShapes Go.WideShapes Go.ChangeAt Go.RowKit Go.Shelf
set_option linter.unusedSimpArgs false


/-- how far water changes on its way -/
def chI (s L q a c : Int) : Int := nearI (lossI s L a c * 100000) (absI q * 4186)
/-- the temperature at the end of a pipe with a flow that is not 0 -/
def endI (s L q a c : Int) : Int := if c ≤ a then max c (a - chI s L q a c) else min c (a - chI s L q a c)
theorem loss_sign (s L a c : Int) (s0 : 0 ≤ s) (l0 : 0 ≤ L) : (c ≤ a → 0 ≤ lossI s L a c) ∧ (a ≤ c → lossI s L a c ≤ 0) := by
  have h : ∀ x y, y ≤ x → 0 ≤ lossI s L x y := fun x y k => nearI_nonneg _ _ (by omega) (Int.mul_nonneg (Int.mul_nonneg s0 l0) (by omega))
  refine ⟨h a c, fun k => ?_⟩
  have := h c a k
  rw [loss_neg s L a c] at this
  omega
theorem ch_sign (s L q a c : Int) (s0 : 0 ≤ s) (l0 : 0 ≤ L) (hq : 1 ≤ absI q) : (c ≤ a → 0 ≤ chI s L q a c) ∧ (a ≤ c → chI s L q a c ≤ 0) := by
  have h := loss_sign s L a c s0 l0
  exact ⟨fun k => nearI_nonneg _ _ (by omega) (by have := h.1 k; omega), fun k => nearI_nonpos _ _ (by omega) (by have := h.2 k; omega)⟩
theorem ch_lim (s L q a c : Int) (s0 : 0 ≤ s) (s1 : s ≤ 5000) (l0 : 0 ≤ L) (l1 : L ≤ 10000) (a0 : -5000 ≤ a) (a1 : a ≤ 20000) (b0 : -5000 ≤ c) (b1 : c ≤ 20000) (hq : 1 ≤ absI q) :
    -125000000000000000 ≤ chI s L q a c ∧ chI s L q a c ≤ 125000000000000000 := by
  have h := loss_bd s L a c s0 s1 l0 l1 a0 a1 b0 b1
  exact nearI_lim _ _ 125000000000000000 (by omega) (by omega) (by omega)
/-- between the two temperatures -/
theorem end_clamp (s L q a c lo hi : Int) (s0 : 0 ≤ s) (l0 : 0 ≤ L) (hq : 1 ≤ absI q) (h1 : lo = min a c) (h2 : hi = max a c) : clampI lo hi (a - chI s L q a c) = endI s L q a c := by
  have h := ch_sign s L q a c s0 l0 hq
  unfold endI clampI
  by_cases k : c ≤ a
  · have := h.1 k
    rw [if_pos k, h1, h2]
    omega
  · have := h.2 (by omega)
    rw [if_neg k, h1, h2]
    omega

def endOV (id : ByteArray) (f t L d s : Int) (q : Int) (a : Int) (c : Int) : Int := if okP id f t L d s && inB q (-100000) 100000 && inB a (-5000) 20000 && inB c (-5000) 20000 then (if (q != 0) then endI s L q a c else c) else 0
def endOC (id : ByteArray) (f t L d s : Int) (q : Int) (a : Int) (c : Int) : Int := if okP id f t L d s then (if inB q (-100000) 100000 && inB a (-5000) 20000 && inB c (-5000) 20000 then 0 else 2) else 1

end Go.Proofs.YtmopnkkpcgiafabGreatDoor
