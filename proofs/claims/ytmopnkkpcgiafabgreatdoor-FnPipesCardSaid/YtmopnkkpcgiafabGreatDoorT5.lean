/-
  The text of a valid pipe is read back.
-/
import Derived.Test.YtmopnkkpcgiafabGreatDoorT4
import Derived.Test.YtmopnkkpcgiafabGreatDoorR4
namespace Go.Proofs.YtmopnkkpcgiafabGreatDoor
open Go.ChangeShapes Go.WideShapes Go.ChangeAt Go.RowKit

theorem index_first (b : UInt8) (q : List UInt8) : ∀ p : List UInt8, (∀ c ∈ p, c ≠ b) → Lib.index (p ++ b :: q) [b] = (p.length : Int) := by
  intro p
  induction p with
  | nil => intro _; rw [List.nil_append, index_cons, if_pos rfl]; rfl
  | cons x p ih =>
    intro h
    have ih' := ih fun c hc => h c (by simp [hc])
    rw [List.cons_append, index_cons, if_neg (h x (by simp)), ih', if_neg (by omega)]
    simp
theorem name_noBlank {l : List UInt8} (h : nameL l = true) : ∀ c ∈ l, c ≠ 32 := by
  unfold nameL at h
  rw [Bool.and_eq_true, Bool.and_eq_true] at h
  intro c hc e
  have := List.all_eq_true.1 h.2.2 c hc
  rw [e] at this
  exact absurd this (by decide)
theorem pipeB_list (id : ByteArray) (f t L d s : Int) : (pipeB id f t L d s).data.toList = id.data.toList ++ 32 :: listL [f, t, L, d, s] := by
  unfold pipeB
  simp [mkB]
theorem read_pipe {id : ByteArray} {f t L d s : Int} (h : okP id f t L d s = true) :
    readP (pipeB id f t L d s).data.toList = some [f, t, L, d, s] ∧ cutId (pipeB id f t L d s).data.toList = id := by
  have hn := (okP_bd id f t L d s h).1
  have hi := index_first 32 (listL [f, t, L, d, s]) id.data.toList (name_noBlank hn)
  rw [pipeB_list]
  have hc : cutId (id.data.toList ++ 32 :: listL [f, t, L, d, s]) = id := by
    unfold cutId
    rw [hi, Int.toNat_natCast, List.take_left']
    · rfl
    · rfl
  refine ⟨?_, hc⟩
  unfold readP
  rw [if_pos (by rw [hi]; omega), hc, hi, Int.toNat_natCast]
  have hd : List.drop (id.data.toList.length + 1) (id.data.toList ++ 32 :: listL [f, t, L, d, s]) = listL [f, t, L, d, s] := by
    rw [show id.data.toList ++ 32 :: listL [f, t, L, d, s] = (id.data.toList ++ [32]) ++ listL [f, t, L, d, s] by simp]
    exact List.drop_left' (by simp)
  rw [hd, read_list _ (fits_five h) (by simp)]
  refine madeP_some ?_
  unfold fiveOk
  show (decide (_ = 5) && okP id f t L d s) = true
  rw [h]
  rfl

end Go.Proofs.YtmopnkkpcgiafabGreatDoor
