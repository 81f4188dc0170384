/-
  A pipe in memory that is written, and read as a result.
-/
import Derived.Test.YtdaedgdglammhabP2
import Derived.Deep.MidRow
import Derived.Laws.ResultCell
namespace Go.Proofs.Ytdaedgdglammhab
open Go.ChangeShapes Go.WideShapes Go.ChangeAt Go.RowKit

theorem frozen_new9 (w : World) (cs : Array Value) (E : TypeId) (o : Nat) : (w.alloc (.cells cs E)).frozen? ⟨w.heap.size, o, none⟩ = false := by
  have hk : (w.alloc (.cells cs E)).heap[w.heap.size]? = some (.cells cs E) := by
    show (w.heap.push (.cells cs E))[w.heap.size]? = _
    exact Array.getElem?_push_size
  unfold World.frozen?
  dsimp only
  rw [hk]
  simp
theorem PipeAt.keep {w w' : World} {b : Nat} {id : ByteArray} {f t L d s : Int} (h : PipeAt w b id f t L d s) (k : w'.heap[b]? = w.heap[b]?) : PipeAt w' b id f t L d s := by
  have e : ∀ j, w'.cell? ⟨b, j, none⟩ = w.cell? ⟨b, j, none⟩ := fun j => World.cell?_of_block k
  unfold PipeAt
  rw [e 0, e 1, e 2, e 3, e 4, e 5]
  exact h
/-- a pipe's cells may be written -/
def Free6 (w : World) (b : Nat) : Prop :=
  w.frozen? ⟨b, 0, none⟩ = false ∧ w.frozen? ⟨b, 1, none⟩ = false ∧ w.frozen? ⟨b, 2, none⟩ = false ∧ w.frozen? ⟨b, 3, none⟩ = false ∧ w.frozen? ⟨b, 4, none⟩ = false ∧ w.frozen? ⟨b, 5, none⟩ = false
theorem Free6.keep {w w' : World} {b : Nat} (h : Free6 w b) (k : w'.heap[b]? = w.heap[b]?) : Free6 w' b := by
  have e : ∀ j, w'.frozen? ⟨b, j, none⟩ = w.frozen? ⟨b, j, none⟩ := fun j => World.frozen?_of_block k
  unfold Free6
  rw [e 0, e 1, e 2, e 3, e 4, e 5]
  exact h
theorem Free6.new (w : World) (cs : Array Value) (E : TypeId) : Free6 (w.alloc (.cells cs E)) w.heap.size :=
  ⟨frozen_new9 _ _ _ _, frozen_new9 _ _ _ _, frozen_new9 _ _ _ _, frozen_new9 _ _ _ _, frozen_new9 _ _ _ _, frozen_new9 _ _ _ _⟩
theorem Free6.set {w : World} {b : Nat} (h : Free6 w b) (a : Addr) (v : Value) : Free6 (w.setCell a v) b := by
  obtain ⟨h0, h1, h2, h3, h4, h5⟩ := h
  exact ⟨by simpa using h0, by simpa using h1, by simpa using h2, by simpa using h3, by simpa using h4, by simpa using h5⟩
theorem PipeAt.set4 {w : World} {b : Nat} {id : ByteArray} {f t L d s : Int} (h : PipeAt w b id f t L d s) (x : Int) : PipeAt (w.setCell ⟨b, 4, none⟩ (.int .i64 x)) b id f t L x s := by
  obtain ⟨h0, h1, h2, h3, h4, h5⟩ := h
  exact ⟨(World.cell?_setCell_other _ _ _ _ (by simp)).trans h0, (World.cell?_setCell_other _ _ _ _ (by simp)).trans h1, (World.cell?_setCell_other _ _ _ _ (by simp)).trans h2, (World.cell?_setCell_other _ _ _ _ (by simp)).trans h3, World.cell?_setCell_same _ _ _ h4, (World.cell?_setCell_other _ _ _ _ (by simp)).trans h5⟩
theorem PipeAt.set0 {w : World} {b : Nat} {id : ByteArray} {f t L d s : Int} (h : PipeAt w b id f t L d s) (z : ByteArray) : PipeAt (w.setCell ⟨b, 0, none⟩ (.string z)) b z f t L d s := by
  obtain ⟨h0, h1, h2, h3, h4, h5⟩ := h
  exact ⟨World.cell?_setCell_same _ _ _ h0, (World.cell?_setCell_other _ _ _ _ (by simp)).trans h1, (World.cell?_setCell_other _ _ _ _ (by simp)).trans h2, (World.cell?_setCell_other _ _ _ _ (by simp)).trans h3, (World.cell?_setCell_other _ _ _ _ (by simp)).trans h4, (World.cell?_setCell_other _ _ _ _ (by simp)).trans h5⟩
theorem PipeAt.set1 {w : World} {b : Nat} {id : ByteArray} {f t L d s : Int} (h : PipeAt w b id f t L d s) (z : Int) : PipeAt (w.setCell ⟨b, 1, none⟩ (.int .i64 z)) b id z t L d s := by
  obtain ⟨h0, h1, h2, h3, h4, h5⟩ := h
  exact ⟨(World.cell?_setCell_other _ _ _ _ (by simp)).trans h0, World.cell?_setCell_same _ _ _ h1, (World.cell?_setCell_other _ _ _ _ (by simp)).trans h2, (World.cell?_setCell_other _ _ _ _ (by simp)).trans h3, (World.cell?_setCell_other _ _ _ _ (by simp)).trans h4, (World.cell?_setCell_other _ _ _ _ (by simp)).trans h5⟩
theorem PipeAt.set2 {w : World} {b : Nat} {id : ByteArray} {f t L d s : Int} (h : PipeAt w b id f t L d s) (z : Int) : PipeAt (w.setCell ⟨b, 2, none⟩ (.int .i64 z)) b id f z L d s := by
  obtain ⟨h0, h1, h2, h3, h4, h5⟩ := h
  exact ⟨(World.cell?_setCell_other _ _ _ _ (by simp)).trans h0, (World.cell?_setCell_other _ _ _ _ (by simp)).trans h1, World.cell?_setCell_same _ _ _ h2, (World.cell?_setCell_other _ _ _ _ (by simp)).trans h3, (World.cell?_setCell_other _ _ _ _ (by simp)).trans h4, (World.cell?_setCell_other _ _ _ _ (by simp)).trans h5⟩
theorem PipeAt.set3 {w : World} {b : Nat} {id : ByteArray} {f t L d s : Int} (h : PipeAt w b id f t L d s) (z : Int) : PipeAt (w.setCell ⟨b, 3, none⟩ (.int .i64 z)) b id f t z d s := by
  obtain ⟨h0, h1, h2, h3, h4, h5⟩ := h
  exact ⟨(World.cell?_setCell_other _ _ _ _ (by simp)).trans h0, (World.cell?_setCell_other _ _ _ _ (by simp)).trans h1, (World.cell?_setCell_other _ _ _ _ (by simp)).trans h2, World.cell?_setCell_same _ _ _ h3, (World.cell?_setCell_other _ _ _ _ (by simp)).trans h4, (World.cell?_setCell_other _ _ _ _ (by simp)).trans h5⟩
theorem PipeAt.set5 {w : World} {b : Nat} {id : ByteArray} {f t L d s : Int} (h : PipeAt w b id f t L d s) (z : Int) : PipeAt (w.setCell ⟨b, 5, none⟩ (.int .i64 z)) b id f t L d z := by
  obtain ⟨h0, h1, h2, h3, h4, h5⟩ := h
  exact ⟨(World.cell?_setCell_other _ _ _ _ (by simp)).trans h0, (World.cell?_setCell_other _ _ _ _ (by simp)).trans h1, (World.cell?_setCell_other _ _ _ _ (by simp)).trans h2, (World.cell?_setCell_other _ _ _ _ (by simp)).trans h3, (World.cell?_setCell_other _ _ _ _ (by simp)).trans h4, World.cell?_setCell_same _ _ _ h5⟩
theorem grown_mid {a b c : World} {row : Option Nat} (h : a.grownBy b row) (k : Below a.heap.size b c) : a.grownBy c row :=
  ⟨k.os.trans h.os, k.tape.trans h.tape, k.output.trans h.output, Nat.le_trans h.size k.size, fun i hi hne => (k.block i hi).trans (h.block i hi hne)⟩

end Go.Proofs.Ytdaedgdglammhab
