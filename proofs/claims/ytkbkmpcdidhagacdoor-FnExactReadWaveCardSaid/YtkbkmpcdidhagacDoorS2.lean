/-
  SplitWords of the program and of the model: the parts between blanks.
-/
import Derived.Test.YtkbkmpcdidhagacDoorS1
import Derived.Test.YtkbkmpcdidhagacDoorShelf
import Derived.Lib.FieldsP
namespace Go.Proofs.YtkbkmpcdidhagacDoor
open Go.ChangeShapes Go.WideShapes Go.ChangeAt Go.RowKit

def neEmpty (p : List UInt8) : Bool := !p.isEmpty
def wordsL (l : List UInt8) : List (List UInt8) := (splitGo 32 [] l).filter neEmpty
theorem mkB_isEmpty (p : List UInt8) : (mkB p).toList.isEmpty = p.isEmpty := by rw [ByteArray.toList_eq]; rfl
theorem filter_take_succ (l : List (List UInt8)) (k : Nat) (h : k < l.length) : (l.take (k + 1)).filter neEmpty = (l.take k).filter neEmpty ++ (if neEmpty l[k] then [l[k]] else []) := by
  rw [List.take_succ_eq_append_getElem h, List.filter_append]
  congr 1
  by_cases c : neEmpty l[k] = true <;> simp [c]
theorem strsV_length (l : List (List UInt8)) : (strsV l).length = l.length := by simp [strsV]
theorem strsV_at (l : List (List UInt8)) (k : Nat) (h : k < l.length) : (strsV l)[k]? = some (Value.string (mkB l[k])) := by simp [strsV, h]

end Go.Proofs.YtkbkmpcdidhagacDoor
