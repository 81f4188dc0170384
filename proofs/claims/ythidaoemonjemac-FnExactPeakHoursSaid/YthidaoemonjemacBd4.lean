/-
  Copies of Building as the exact laws use them.
-/
import Derived.Test.YthidaoemonjemacBd3
namespace Go.Proofs.Ythidaoemonjemac
open Go.ChangeShapes Go.WideShapes Go.ChangeAt Go.RowKit
set_option linter.unusedVariables false

/-- a slice of them that can be read, all of it of a length -/
def BdsOk (w : World) (A : Option Addr) (n : Nat) (xs : List Bd) : Prop := BdsIn w A n xs ∧ n ≤ 1048576 ∧ ∀ x ∈ xs, x.d.pr.length ≤ 1048576
theorem BdsOk.go {w w' : World} {A : Option Addr} {n : Nat} {xs : List Bd} (h : BdsOk w A n xs) (hb : Below w.heap.size w w') : BdsOk w' A n xs := ⟨h.1.go hb, h.2⟩
theorem BdsOk.short {w : World} {A : Option Addr} {n : Nat} {xs : List Bd} (h : BdsOk w A n xs) : xs.length ≤ 1048576 := by rw [h.1.1]; exact h.2.1
theorem BdsOk.cells {w : World} {A : Option Addr} {n : Nat} {xs : List Bd} (h : BdsOk w A n xs) : CellsAt w A (rowsBd xs) := h.1.2.2.1
theorem pcells_ofBd {w : World} {base : Nat} {E : TypeId} {A : Option Addr} {n c : Nat} {vs : List Value} (h : w.ownsRow base E 6 (.slice A n c) n vs) : CellsAt w A vs := by
  intro hp
  rcases h.2 with ⟨hv, hn⟩ | ⟨g, cap, cur, hv, _, hg, _⟩
  · have := h.1; omega
  · injection hv with hA
    subst hA
    exact ⟨g, 0, rfl, fun j hj => by rw [Nat.zero_add]; exact h.cellAt j (by have := h.1; omega)⟩
end Go.Proofs.Ythidaoemonjemac
