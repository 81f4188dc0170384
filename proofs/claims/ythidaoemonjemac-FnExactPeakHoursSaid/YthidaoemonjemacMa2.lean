/-
  Readings that are odd: both sides.
-/
import Derived.Test.YthidaoemonjemacMa1
namespace Go.Proofs.Ythidaoemonjemac
open Go.ChangeShapes Go.WideShapes Go.ChangeAt Go.RowKit

set_option maxRecDepth 100000
set_option maxHeartbeats 1600000
set_option linter.unusedVariables false

def isOdd (xs : List Rg) (most : Int) (i : Nat) : Bool := decide (most < pwI xs i) || decide ((rgAt xs (i + 1)).c = (rgAt xs i).c)
def oddTo (xs : List Rg) (most : Int) (k : Nat) : List Int := ((List.range k).filter (isOdd xs most)).map fun (i : Nat) => (i : Int) + 1
theorem oddTo_yes (xs : List Rg) (most : Int) (k : Nat) (h : isOdd xs most k = true) : oddTo xs most (k + 1) = oddTo xs most k ++ [(k : Int) + 1] := by
  unfold oddTo; rw [List.range_succ, List.filter_append, List.map_append]; simp [h]
theorem oddTo_no (xs : List Rg) (most : Int) (k : Nat) (h : isOdd xs most k = false) : oddTo xs most (k + 1) = oddTo xs most k := by
  unfold oddTo; rw [List.range_succ, List.filter_append, List.map_append]; simp [h]
theorem oddTo_length (xs : List Rg) (most : Int) (k : Nat) : (oddTo xs most k).length ≤ k := by
  unfold oddTo; rw [List.length_map]; exact Nat.le_trans (List.length_filter_le _ _) (by simp)
def oddReadingsX (xs : List Rg) (most : Int) : List Int := if okRs xs = true ∧ 0 ≤ most then oddTo xs most (xs.length - 1) else []
def oddReadingsC (xs : List Rg) (most : Int) : Int := if okRs xs = true then (if 0 ≤ most then 0 else 2) else 1
theorem oddReadingsX_short (xs : List Rg) (most : Int) : (oddReadingsX xs most).length ≤ 1048576 := by
  unfold oddReadingsX
  split
  · next h => have := (okRs_parts h.1).1; have := oddTo_length xs most (xs.length - 1); omega
  · simp
theorem odd_ok {xs : List Rg} {most : Int} (h : okRs xs = true) (h0 : 0 ≤ most) : oddReadingsX xs most = oddTo xs most (xs.length - 1) ∧ oddReadingsC xs most = 0 := by
  unfold oddReadingsX oddReadingsC; rw [if_pos ⟨h, h0⟩, if_pos h, if_pos h0]; exact ⟨rfl, rfl⟩
theorem odd_neg {xs : List Rg} {most : Int} (h : okRs xs = true) (h0 : ¬ 0 ≤ most) : oddReadingsX xs most = [] ∧ oddReadingsC xs most = 2 := by
  unfold oddReadingsX oddReadingsC; rw [if_neg (fun k => h0 k.2), if_pos h, if_neg h0]; exact ⟨rfl, rfl⟩
theorem odd_no {xs : List Rg} {most : Int} (h : okRs xs = false) : oddReadingsX xs most = [] ∧ oddReadingsC xs most = 1 := by
  unfold oddReadingsX oddReadingsC; rw [if_neg (by rw [h]; simp), if_neg (by rw [h]; simp)]; exact ⟨rfl, rfl⟩
theorem powCell {xs : List Rg} {w : World} {P : Option Addr} (h : CellsAt w P (intsV (powI xs))) (h0 : 1 < xs.length) : ∃ b o, P = some ⟨b, o, none⟩ ∧ ∀ k, k + 1 < xs.length → w.cell? ⟨b, o + k, none⟩ = some (.int .i64 (pwI xs k)) := by
  obtain ⟨b, o, rfl, hc⟩ := h (by rw [intsV_length, powI_length]; omega)
  refine ⟨b, o, rfl, fun k hk => ?_⟩
  have hk' : k < (powI xs).length := by rw [powI_length]; omega
  rw [hc k (by rw [intsV_length]; exact hk'), intsV_at _ _ hk']
  have := powI_at xs k (by omega)
  rw [List.getElem?_eq_getElem hk'] at this
  injection this with this
  rw [this]

end Go.Proofs.Ythidaoemonjemac
