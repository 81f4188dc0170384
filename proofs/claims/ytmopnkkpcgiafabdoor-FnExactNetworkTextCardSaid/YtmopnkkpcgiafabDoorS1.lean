/-
  The model's l01Split: a text divided at each byte.
-/
import Derived.Test.YtmopnkkpcgiafabDoorG1
import Derived.Lib.Strings
namespace Go.Proofs.YtmopnkkpcgiafabDoor
open Go.ChangeShapes Go.WideShapes Go.ChangeAt Go.RowKit

theorem extract_mkB (s : ByteArray) (a b : Nat) : s.extract a b = mkB ((s.data.toList.drop a).take (b - a)) := by
  rw [← Lib.extract_data, mkB_list]
/-- l divided at each b, cur being the piece begun -/
def splitGo (b : UInt8) : List UInt8 → List UInt8 → List (List UInt8)
  | cur, [] => [cur]
  | cur, c :: r => if c = b then cur :: splitGo b [] r else splitGo b (cur ++ [c]) r
theorem splitGo_at (b : UInt8) (cur l : List UInt8) (k : Nat) (h : k < l.length) :
    splitGo b cur (l.drop k) = if l[k] = b then cur :: splitGo b [] (l.drop (k + 1)) else splitGo b (cur ++ [l[k]]) (l.drop (k + 1)) := by
  rw [List.drop_eq_getElem_cons h, splitGo]
theorem splitGo_length (b : UInt8) (l : List UInt8) : ∀ cur, (splitGo b cur l).length ≤ l.length + 1 := by
  induction l with
  | nil => intro cur; simp [splitGo]
  | cons c r ih =>
    intro cur
    rw [splitGo]
    split
    · have := ih []; simp; omega
    · have := ih (cur ++ [c]); simp; omega
theorem piece_snoc (l : List UInt8) (a k : Nat) (hak : a ≤ k) (h : k < l.length) : (l.drop a).take (k + 1 - a) = (l.drop a).take (k - a) ++ [l[k]] := by
  have e : k + 1 - a = (k - a) + 1 := by omega
  have hl : k - a < (l.drop a).length := by simp; omega
  rw [e, List.take_succ_eq_append_getElem hl]
  congr 2
  simp
  congr 1
  omega

theorem infoStr : (Tryd.prog.info? 9).map (fun i => (i.zero, i.size, i.bytes)) = some (some (.string ⟨#[]⟩), 1, 16) := by kernel_rfl

def strsV (l : List (List UInt8)) : List Value := l.map fun p => Value.string (mkB p)

theorem strsV_snoc (l : List (List UInt8)) (p : List UInt8) : strsV (l ++ [p]) = strsV l ++ [Value.string (mkB p)] := by simp [strsV]

end Go.Proofs.YtmopnkkpcgiafabDoor
