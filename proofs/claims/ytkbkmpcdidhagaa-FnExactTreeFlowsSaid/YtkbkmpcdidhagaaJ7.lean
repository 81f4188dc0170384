/-
  Two ways to number the parts of a network say the same of any two nodes: the mathematics.
-/
import Derived.Test.YtkbkmpcdidhagaaJ0
namespace Go.Proofs.Ytkbkmpcdidhagaa
open Go.ChangeShapes Go.WideShapes Go.ChangeAt Go.RowKit

/-- two lists tell the same places apart -/
def Alikes (S P : List Int) : Prop := S.length = P.length ∧ ∀ i j, i < P.length → j < P.length → (S.getD i 0 = S.getD j 0 ↔ P.getD i 0 = P.getD j 0)
theorem Alikes.rfl' (P : List Int) : Alikes P P := ⟨rfl, fun _ _ _ _ => Iff.rfl⟩
theorem merge_iff (u v x y : Int) : ((if x = v then u else x) = (if y = v then u else y)) ↔ (x = y ∨ ((x = u ∨ x = v) ∧ (y = u ∨ y = v))) := by
  by_cases h1 : x = v
  · by_cases h2 : y = v
    · rw [if_pos h1, if_pos h2]; omega
    · rw [if_pos h1, if_neg h2]; omega
  · by_cases h2 : y = v
    · rw [if_neg h1, if_pos h2]; omega
    · rw [if_neg h1, if_neg h2]; omega
theorem getD_map (l : List Int) (f : Int → Int) (i : Nat) (h : i < l.length) : (l.map f).getD i 0 = f (l.getD i 0) := by simp [List.getD, h]
theorem Alikes.step {S P : List Int} (h : Alikes S P) (f t : Nat) (hf : f < P.length) (ht : t < P.length) :
    Alikes (S.map fun x => if x = S.getD t 0 then S.getD f 0 else x) (joinL P f t) := by
  unfold joinL getI
  simp only [Int.toNat_natCast]
  refine ⟨by rw [List.length_map, List.length_map, h.1], fun i j hi hj => ?_⟩
  rw [List.length_map] at hi hj
  rw [getD_map _ _ _ (by rw [h.1]; exact hi), getD_map _ _ _ (by rw [h.1]; exact hj), getD_map _ _ _ hi, getD_map _ _ _ hj, merge_iff, merge_iff]
  have a := h.2 i j hi hj
  have b1 := h.2 i f hi hf
  have b2 := h.2 i t hi ht
  have c1 := h.2 j f hj hf
  have c2 := h.2 j t hj ht
  generalize P.getD i 0 = pi at *
  generalize P.getD j 0 = pj at *
  generalize P.getD f 0 = pf at *
  generalize P.getD t 0 = pt at *
  rw [a, b1, b2, c1, c2]
  constructor
  · rintro (h1 | ⟨h1, h2⟩)
    · exact .inl h1
    · right
      constructor <;> omega
  · rintro (h1 | ⟨h1, h2⟩)
    · exact .inl h1
    · right
      constructor <;> omega
theorem joinL_same (P : List Int) (a b : Int) (h : getI P a = getI P b) : joinL P a b = P := by
  unfold joinL
  rw [h]
  have e1 : max (getI P b) (getI P b) = getI P b := by omega
  have e2 : min (getI P b) (getI P b) = getI P b := by omega
  rw [e1, e2]
  have : (fun x => if x = getI P b then getI P b else x) = (id : Int → Int) := by
    funext x
    by_cases hx : x = getI P b
    · rw [if_pos hx, hx]; rfl
    · rw [if_neg hx]; rfl
  rw [this, List.map_id]
end Go.Proofs.Ytkbkmpcdidhagaa
