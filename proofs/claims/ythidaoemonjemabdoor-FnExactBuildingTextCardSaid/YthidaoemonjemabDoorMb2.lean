/-
  ReadingsText of both sides: the functions themselves.
-/
import Derived.Test.YthidaoemonjemabDoorMb1
namespace Go.Proofs.YthidaoemonjemabDoor
open Go.ChangeShapes Go.WideShapes Go.ChangeAt Go.RowKit

set_option maxRecDepth 100000
set_option maxHeartbeats 1600000
set_option linter.unusedVariables false

theorem joinS_snoc (l : List (List UInt8)) (y s : List UInt8) (h : 0 < l.length) : Lib.join (l ++ [y]) s = Lib.join l s ++ s ++ y := by
  cases l with
  | nil => simp at h
  | cons a r =>
    rw [List.cons_append, Lib.join_cons, Lib.join_cons]
    simp [Lib.joinTail]
theorem mkB_back (b : ByteArray) : mkB b.data.toList = b := by
  apply ByteArray.ext
  simp [mkB]
theorem rgsT_join (xs : List Rg) (k : Nat) (hk : k ≤ xs.length) : mkB (Lib.join (((xs.map rgT).take k).map (·.data.toList)) [32]) = rgsT xs k := by
  induction k with
  | zero => rfl
  | succ k ih =>
    have ih := ih (by omega)
    have hx : (xs.map rgT)[k]'(by rw [List.length_map]; omega) = rgT (rgAt xs k) := by
      rw [List.getElem_map, rgAt_get (List.getElem?_eq_getElem (show k < xs.length by omega))]
    rw [List.take_succ_eq_append_getElem (by rw [List.length_map]; omega), hx, List.map_append, List.map_cons, List.map_nil]
    unfold rgsT
    split
    · rename_i h0
      subst h0
      rw [List.take_zero, List.map_nil, List.nil_append, Lib.join_one, mkB_back]
      apply ByteArray.ext
      simp [rgsT]
    · rename_i h0
      rw [joinS_snoc _ _ _ (by rw [List.length_map, List.length_take, List.length_map]; omega), mkB_append, mkB_append, ih, mkB_back]
      rfl
theorem joinSep_any (g n c : Nat) (xs : List ByteArray) (w : World) (hx : xs.length = n) (h0 : 0 < n) (hc : CellsAt w (some ⟨g, 0, none⟩) (xs.map Value.string)) (hcap : n ≤ c) (hN : n ≤ 140737488355328)
    (hlen : (Lib.join (xs.map (·.data.toList)) [32]).length ≤ 140737488355328) :
    Calls Tryd.prog 28 #[.slice (some ⟨g, 0, none⟩) n c, .string ⟨#[32]⟩] w fun e w' => e = .returned (.string (mkB (Lib.join (xs.map (·.data.toList)) [32]))) ∧ Below w.heap.size w w' := by
  subst hx
  have hl := CellsAt.lies hc (by rw [List.length_map]; exact h0)
  obtain ⟨b, o, e, h1⟩ := hc (by rw [List.length_map]; exact h0)
  injection e with e
  injection e with e1 e2
  subst e1; subst e2
  exact Tryd.strings_Join g 0 c xs ⟨#[32]⟩ w (fun j x hj => by
    have hjl := (List.getElem?_eq_some_iff.1 hj).1
    rw [h1 j (by rw [List.length_map]; exact hjl)]
    simp [hj]) hl hN hcap hlen
def rgtV (xs : List Rg) : List Value := (xs.map rgT).map Value.string
theorem rgtV_at (xs : List Rg) (j : Nat) (h : j < xs.length) : (rgtV xs).getD j default = .string (rgT (rgAt xs j)) := by
  unfold rgtV
  rw [rgAt_get (List.getElem?_eq_getElem h)]
  simp [List.getD, h]
end Go.Proofs.YthidaoemonjemabDoor
