/-
  The law FnBasics: its own helpers.
-/
import Derived.Test.YtgdafgnjaogmeabM2
import Derived.Test.YtgdafgnjaogmeabA1
namespace Go.Proofs.Ytgdafgnjaogmeab
open Go.ChangeShapes Go.WideShapes Go.ChangeAt Go.RowKit

theorem SliceIn.drawn {k : IntKind} {w w' : World} {A : Option Addr} {n : Nat} {zs : List Int} (h : SliceIn k w A n zs) (hd : Drawn w w') : SliceIn k w' A n zs := by
  obtain ⟨j, rfl⟩ := hd
  exact ⟨h.1, h.2.1, h.2.2.1, h.2.2.2⟩
theorem SliceIn.next {k : IntKind} {w w' : World} {A : Option Addr} {n : Nat} {zs : List Int} (h : SliceIn k w A n zs) (hb : Below w.heap.size w w') : SliceIn k w' A n zs :=
  ⟨h.1, h.2.1, h.2.2.1.next hb, h.2.2.2⟩
end Go.Proofs.Ytgdafgnjaogmeab
