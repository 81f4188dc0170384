import Derived.Test.YtgdafgnjaogmeaaBd0
import Derived.Test.YtgdafgnjaogmeaaGs
import Derived.Deep.RegionHeld3
/-
  The laws' own helpers over Building: how great one is, a copy, whether two are the same.
-/
namespace Go.Proofs.Ytgdafgnjaogmeaa
open Go.ChangeShapes Go.WideShapes Go.ChangeAt Go.RowKit
set_option maxRecDepth 100000
set_option linter.unusedVariables false

theorem bdrwBd {w w' : World} (h : Drawn w w') : Below w.heap.size w w' := by
  obtain ⟨k, rfl⟩ := h
  exact below_drewN (Below.refl _ _) k
def zeroBd : Bd := ⟨⟨.empty, 0, 0, 0, 0, []⟩, none, 0⟩
/-- cells that may be written -/
def BdF (w : World) (b : Nat) : Prop := w.frozen? ⟨b, 0, none⟩ = false ∧ w.frozen? ⟨b, 1, none⟩ = false ∧ w.frozen? ⟨b, 2, none⟩ = false ∧ w.frozen? ⟨b, 3, none⟩ = false ∧ w.frozen? ⟨b, 4, none⟩ = false ∧ w.frozen? ⟨b, 5, none⟩ = false
theorem BdF.keep {w w' : World} {b : Nat} (h : BdF w b) (k : w'.heap[b]? = w.heap[b]?) : BdF w' b := by
  have e : ∀ j, w'.frozen? ⟨b, j, none⟩ = w.frozen? ⟨b, j, none⟩ := fun j => World.frozen?_of_block k
  unfold BdF
  rw [e 0, e 1, e 2, e 3, e 4, e 5]
  exact h
theorem BdF.new (w : World) (cs : Array Value) (E : TypeId) : BdF (w.alloc (.cells cs E)) w.heap.size :=
  ⟨frozen_new9 _ _ _ _, frozen_new9 _ _ _ _, frozen_new9 _ _ _ _, frozen_new9 _ _ _ _, frozen_new9 _ _ _ _, frozen_new9 _ _ _ _⟩

/-- how much is left: none, or no more than there was, and the list is short -/
def SzBd (x : Bd) (m : Int) (w : World) (e : Ending) (w' : World) : Prop := ∃ r : Int, e = .returned (.int .i64 r) ∧ (r = -1 ∨ (0 ≤ r ∧ r ≤ m ∧ x.d.pr.length ≤ 1048576)) ∧ Below w.heap.size w w'
/-- a copy, its list new -/
def RetBd (x : Bd) (w : World) (e : Ending) (w' : World) : Prop :=
  ∃ y : Bd, y.d = x.d ∧ e = .returned (.agg #[.string y.d.id, .int .i64 y.d.nd, .int .i64 y.d.ba, .int .i64 y.d.sl, .int .i64 y.d.li, .slice y.prA y.d.pr.length y.prc]) ∧ w'.ownsRow w.heap.size 2 1 (.slice y.prA y.d.pr.length y.prc) y.d.pr.length (intsV y.d.pr) ∧ Below w.heap.size w w'
/-- one that can be read, all of it of a length -/
def Bd.okay (w : World) (x : Bd) : Prop := x.fine w ∧ x.d.pr.length ≤ 1048576
theorem Bd.okay.go {w w' : World} {x : Bd} (h : x.okay w) (hb : Below w.heap.size w w') : x.okay w' := ⟨h.1.go hb, h.2⟩
end Go.Proofs.Ytgdafgnjaogmeaa
