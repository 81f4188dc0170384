/-
  What the program answers of a pipe that the model draws: every code is 0 where numbers lie in their ranges.
-/
import Derived.Test.YtmopnkkpcgiafabGreatDoorQ2
import Derived.Test.YtmopnkkpcgiafabGreatDoorP4
import Derived.Test.YtmopnkkpcgiafabGreatDoorP6
import Derived.Test.YtmopnkkpcgiafabGreatDoorW3
namespace Go.Proofs.YtmopnkkpcgiafabGreatDoor
open Go.ChangeShapes Go.WideShapes Go.ChangeAt Go.RowKit

set_option linter.unusedVariables false
set_option linter.unusedSimpArgs false
/-- the numbers of a pipe that is drawn -/
def InDraw (L d s : Int) : Prop := (20 ≤ L ∧ L ≤ 919) ∧ (60 ≤ d ∧ d ≤ 440) ∧ (100 ≤ s ∧ s ≤ 699)
theorem ok_main {L d s : Int} (h : InDraw L d s) : okP mainB 0 1 L d s = true := by
  obtain ⟨hL, hd, hs⟩ := h
  have e0 : nameL mainB.data.toList = true := by decide
  have e1 : inB 0 0 15 = true := by decide
  have e2 : inB 1 0 15 = true := by decide
  have e3 : inB L 1 10000 = true := inB_true (by omega)
  have e4 : inB d 20 1000 = true := inB_true (by omega)
  have e5 : inB s 0 5000 = true := inB_true (by omega)
  unfold okP
  simp [e0, e1, e2, e3, e4, e5]

/-- a delay is the least time in which a flow brings all water -/
theorem delay_fact {W q T : Int} (hT : (W + q - 1) / q = T) (hW : 0 ≤ W) (hW1 : W ≤ 78540000000000) (hq : 1 ≤ q) (hq1 : q ≤ 100000) :
    0 ≤ T ∧ T ≤ 78540000100000 ∧ W ≤ T * q ∧ T * q ≤ 78540000100000 ∧ (T - 1) * q < W ∧ -100000 ≤ (T - 1) * q := by
  have h1 := Int.mul_ediv_add_emod (W + q - 1) q
  have h2 := Int.emod_nonneg (W + q - 1) (by omega : q ≠ 0)
  have h3 := Int.emod_lt_of_pos (W + q - 1) (by omega : 0 < q)
  have h4 : 0 ≤ (W + q - 1) / q := Int.ediv_nonneg (by omega) (by omega)
  have h5 : (W + q - 1) / q ≤ W + q - 1 := Int.ediv_le_self _ (by omega)
  rw [hT] at h1 h4 h5
  rw [Int.mul_comm q T] at h1
  have e : (T - 1) * q = T * q - q := by rw [Int.sub_mul, Int.one_mul]
  rw [e]
  omega
theorem delay_neg (L d q : Int) : delayI L d (-q) = delayI L d q := by
  unfold delayI; rw [absI_neg]
theorem end_bd (s L q a c : Int) (s0 : 0 ≤ s) (l0 : 0 ≤ L) (hq : 1 ≤ absI q) (h : c ≤ a) : c ≤ endI s L q a c ∧ endI s L q a c ≤ a := by
  have := (ch_sign s L q a c s0 l0 hq).1 h
  unfold endI
  rw [if_pos h]
  omega
theorem end_same (s L q c : Int) (s0 : 0 ≤ s) (l0 : 0 ≤ L) (hq : 1 ≤ absI q) : endI s L q c c = c := by
  have := end_bd s L q c c s0 l0 hq (Int.le_refl _)
  omega
theorem end_fast (s L q a c : Int) (s0 : 0 ≤ s) (l0 : 0 ≤ L) (hq : 1 ≤ q) (h : c ≤ a) : endI s L q a c ≤ endI s L (2 * q) a c := by
  have h0 := (loss_sign s L a c s0 l0).1 h
  have h1 := nearI_anti (lossI s L a c * 100000) (absI q * 4186) (absI (2 * q) * 4186) (by omega) (by rw [absI_of q (by omega)]; omega) (by rw [absI_of q (by omega), absI_of (2 * q) (by omega)]; omega)
  unfold endI chI
  rw [if_pos h, if_pos h]
  omega
theorem speed_nn (d q : Int) (hd : 0 < d) (hq : 0 ≤ q) : 0 ≤ speedI d q :=
  nearI_nonneg _ _ (Int.mul_pos (Int.mul_pos (by omega) hd) hd) (by omega)
theorem watt_nn (q x : Int) (hq : 0 ≤ q) (hx : 0 ≤ x) : 0 ≤ wattI q x :=
  nearI_nonneg _ _ (by omega) (Int.mul_nonneg (by omega) hx)
theorem PipeAt.drawn {w w' : World} {b : Nat} {id : ByteArray} {f t L d s : Int} (h : PipeAt w b id f t L d s) (k : Drawn w w') : PipeAt w' b id f t L d s := h.next k.below

end Go.Proofs.YtmopnkkpcgiafabGreatDoor
