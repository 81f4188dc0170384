/-
  ReadingsText of both sides.
-/
import Derived.Test.YthidaoemonjemabDoorMa1
import Derived.Test.YthidaoemonjemabDoorD4
import Derived.Test.YthidaoemonjemabDoorTw
namespace Go.Proofs.YthidaoemonjemabDoor
open Go.ChangeShapes Go.WideShapes Go.ChangeAt Go.RowKit

set_option maxRecDepth 100000
set_option maxHeartbeats 1600000
set_option linter.unusedVariables false

/-- a reading as a text -/
def rgT (x : Rg) : ByteArray := mkB (Lib.itoa x.h) ++ ⟨#[58]⟩ ++ mkB (Lib.itoa x.c)
/-- the text of the first k readings -/
def rgsT (xs : List Rg) : Nat → ByteArray
  | 0 => ⟨#[]⟩
  | k + 1 => if k = 0 then rgsT xs k ++ rgT (rgAt xs k) else rgsT xs k ++ ⟨#[32]⟩ ++ rgT (rgAt xs k)
def readingsTextR0 (xs : List Rg) : ByteArray := if okRs xs = true then rgsT xs xs.length else ⟨#[]⟩
theorem rgT_bd {x : Rg} (h0 : 0 ≤ x.h ∧ x.h ≤ 100000) (h1 : 0 ≤ x.c ∧ x.c ≤ 1000000000) : (rgT x).size ≤ 43 := by
  have a := itoa_bd x.h (by unfold inV; exact inB_iff.2 (by omega))
  have b := itoa_bd x.c (by unfold inV; exact inB_iff.2 (by omega))
  unfold rgT
  rw [ByteArray.size_append, ByteArray.size_append]
  have e1 : (mkB (Lib.itoa x.h)).size = (Lib.itoa x.h).length := rfl
  have e2 : (mkB (Lib.itoa x.c)).size = (Lib.itoa x.c).length := rfl
  have e3 : (⟨#[58]⟩ : ByteArray).size = 1 := rfl
  omega
theorem rgsT_bd {xs : List Rg} (h : okRs xs = true) (k : Nat) (hk : k ≤ xs.length) : (rgsT xs k).size ≤ 44 * k := by
  induction k with
  | zero => exact Nat.le_refl _
  | succ k ih =>
    have ih := ih (by omega)
    have a := okRs_one h k (by omega)
    have b := rgT_bd (x := rgAt xs k) (by omega) (by omega)
    have e3 : (⟨#[32]⟩ : ByteArray).size = 1 := rfl
    unfold rgsT
    split
    · rw [ByteArray.size_append]; omega
    · rw [ByteArray.size_append, ByteArray.size_append]; omega
end Go.Proofs.YthidaoemonjemabDoor
