/-
  A block of two cells, of one cell, that may be written. No program in sight.
-/
import Derived.Test.YtdaedgdglammhabGs
import Derived.Test.YtdaedgdglammhabP9
namespace Go.Proofs.Ytdaedgdglammhab
open Go.ChangeShapes Go.WideShapes Go.ChangeAt Go.RowKit

/-- a block whose first two cells are so, and may be written -/
def Two (w : World) (b : Nat) (v0 v1 : Value) : Prop :=
  w.cell? ⟨b, 0, none⟩ = some v0 ∧ w.cell? ⟨b, 1, none⟩ = some v1 ∧ w.frozen? ⟨b, 0, none⟩ = false ∧ w.frozen? ⟨b, 1, none⟩ = false
theorem Two.lies {w : World} {b : Nat} {v0 v1 : Value} (h : Two w b v0 v1) : b < w.heap.size := World.block_lt_of_cell? _ _ h.1
theorem Two.keep {w w' : World} {b : Nat} {v0 v1 : Value} (h : Two w b v0 v1) (k : w'.heap[b]? = w.heap[b]?) : Two w' b v0 v1 := by
  have e : ∀ j, w'.cell? ⟨b, j, none⟩ = w.cell? ⟨b, j, none⟩ := fun j => World.cell?_of_block k
  have f : ∀ j, w'.frozen? ⟨b, j, none⟩ = w.frozen? ⟨b, j, none⟩ := fun j => World.frozen?_of_block k
  unfold Two
  rw [e, e, f, f]
  exact h
theorem Two.next {w w' : World} {b : Nat} {v0 v1 : Value} (h : Two w b v0 v1) (hb : Below w.heap.size w w') : Two w' b v0 v1 := h.keep (hb.block _ h.lies)
theorem Two.grown {w w' : World} {b : Nat} {v0 v1 : Value} {row : Option Nat} (h : Two w b v0 v1) (g : w.grownBy w' row) (hne : some b ≠ row) : Two w' b v0 v1 := h.keep (g.block _ h.lies hne)
theorem Two.new (w : World) (v0 v1 : Value) (T : TypeId) : Two (w.alloc (.cells #[v0, v1] T)) w.heap.size v0 v1 := by
  refine ⟨by simp, by simp, frozen_new9 _ _ _ _, frozen_new9 _ _ _ _⟩
theorem Two.set0 {w : World} {b : Nat} {v0 v1 : Value} (h : Two w b v0 v1) (v : Value) : Two (w.setCell ⟨b, 0, none⟩ v) b v v1 := by
  obtain ⟨h0, h1, f0, f1⟩ := h
  exact ⟨World.cell?_setCell_same _ _ _ h0, (World.cell?_setCell_other _ _ _ _ (by simp)).trans h1, (by rw [World.frozen?_setCell]; exact f0), (by rw [World.frozen?_setCell]; exact f1)⟩
theorem Two.set1 {w : World} {b : Nat} {v0 v1 : Value} (h : Two w b v0 v1) (v : Value) : Two (w.setCell ⟨b, 1, none⟩ v) b v0 v := by
  obtain ⟨h0, h1, f0, f1⟩ := h
  exact ⟨(World.cell?_setCell_other _ _ _ _ (by simp)).trans h0, World.cell?_setCell_same _ _ _ h1, (by rw [World.frozen?_setCell]; exact f0), (by rw [World.frozen?_setCell]; exact f1)⟩
theorem Two.setOther {w : World} {b : Nat} {v0 v1 : Value} (h : Two w b v0 v1) (p : Addr) (u : Value) (hne : b ≠ p.block) : Two (w.setCell p u) b v0 v1 :=
  h.keep (Below.heap_setCell w p u b hne)
/-- a block whose first cell is so, and may be written -/
def One (w : World) (b : Nat) (v0 : Value) : Prop := w.cell? ⟨b, 0, none⟩ = some v0 ∧ w.frozen? ⟨b, 0, none⟩ = false
theorem One.lies {w : World} {b : Nat} {v0 : Value} (h : One w b v0) : b < w.heap.size := World.block_lt_of_cell? _ _ h.1
theorem One.keep {w w' : World} {b : Nat} {v0 : Value} (h : One w b v0) (k : w'.heap[b]? = w.heap[b]?) : One w' b v0 := by
  have e : ∀ j, w'.cell? ⟨b, j, none⟩ = w.cell? ⟨b, j, none⟩ := fun j => World.cell?_of_block k
  have f : ∀ j, w'.frozen? ⟨b, j, none⟩ = w.frozen? ⟨b, j, none⟩ := fun j => World.frozen?_of_block k
  unfold One
  rw [e, f]
  exact h
theorem One.next {w w' : World} {b : Nat} {v0 : Value} (h : One w b v0) (hb : Below w.heap.size w w') : One w' b v0 := h.keep (hb.block _ h.lies)
theorem One.grown {w w' : World} {b : Nat} {v0 : Value} {row : Option Nat} (h : One w b v0) (g : w.grownBy w' row) (hne : some b ≠ row) : One w' b v0 := h.keep (g.block _ h.lies hne)
theorem One.new (w : World) (v0 : Value) (T : TypeId) : One (w.alloc (.cells #[v0] T)) w.heap.size v0 := ⟨by simp, frozen_new9 _ _ _ _⟩
theorem One.set0 {w : World} {b : Nat} {v0 : Value} (h : One w b v0) (v : Value) : One (w.setCell ⟨b, 0, none⟩ v) b v :=
  ⟨World.cell?_setCell_same _ _ _ h.1, (by rw [World.frozen?_setCell]; exact h.2)⟩
theorem One.setOther {w : World} {b : Nat} {v0 : Value} (h : One w b v0) (p : Addr) (u : Value) (hne : b ≠ p.block) : One (w.setCell p u) b v0 :=
  h.keep (Below.heap_setCell w p u b hne)
end Go.Proofs.Ytdaedgdglammhab
