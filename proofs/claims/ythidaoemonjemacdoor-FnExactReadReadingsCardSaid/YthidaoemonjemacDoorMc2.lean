/-
  ReadReadings: a list and a truth.
-/
import Derived.Test.YthidaoemonjemacDoorMc1
namespace Go.Proofs.YthidaoemonjemacDoor
open Go.ChangeShapes Go.WideShapes Go.ChangeAt Go.RowKit
set_option maxRecDepth 100000
set_option linter.unusedVariables false

def RetRgB (X : List Rg) (C : Bool) (w : World) (e : Ending) (w' : World) : Prop :=
  ∃ A c, e = .returned (.tuple #[.slice A X.length c, .bool C]) ∧ w'.ownsRow w.heap.size 35 2 (.slice A X.length c) X.length (rowsF Rg.cs X) ∧ Below w.heap.size w w'
def readReadingsX (s : ByteArray) : List Rg := (readR s).getD []
def readReadingsC (s : ByteArray) : Bool := (readR s).isSome
theorem retRgB_of {s : ByteArray} {w w' : World} {e : Ending} (h : RetRO (readR s) w e w') : RetRgB (readReadingsX s) (readReadingsC s) w e w' := by
  unfold readReadingsX readReadingsC
  rcases h with ⟨l, e1, A, c, e2, e3, e4⟩ | ⟨e1, e2, e3⟩
  · rw [e1]
    exact ⟨A, c, e2, e3, e4⟩
  · rw [e1]
    exact ⟨none, 0, e2, World.ownsRow_nil _ _ _ _, e3⟩
theorem readReadingsX_short (s : ByteArray) : (readReadingsX s).length ≤ 1048576 := by
  unfold readReadingsX readR
  split
  · exact Nat.zero_le _
  · split
    · rename_i h
      have := (okRs_parts h.2).1
      show (List.map mdP (splitGo 32 [] s.data.toList)).length ≤ _
      omega
    · exact Nat.zero_le _
theorem specReadReadings_ic (s : ByteArray) (w : World) (hs : s.size ≤ 1048576) : Calls Tryd.prog 10 #[.string s] w (RetRgB (readReadingsX s) (readReadingsC s) w) :=
  (specReadReadings_any s w hs).mono fun _ _ h => retRgB_of h
theorem implReadReadings_ic (s : ByteArray) (w : World) (hs : s.size ≤ 1048576) (hm : MaxVar w) (hv : ErrVars w) (ht : PowTab w) : Calls Tryd.prog 11 #[.string s] w (RetRgB (readReadingsX s) (readReadingsC s) w) :=
  (implReadReadings_any s w hs hm hv ht).mono fun _ _ h => retRgB_of (by rw [← read_same]; exact h)

end Go.Proofs.YthidaoemonjemacDoor
