/-
  Points in memory.
-/
import Derived.Test.YtkbkmpcdidhagabFl
import Derived.Test.YtkbkmpcdidhagabGs
namespace Go.Proofs.Ytkbkmpcdidhagab
open Go.ChangeShapes Go.WideShapes Go.ChangeAt Go.RowKit
set_option linter.unusedVariables false

/-- a point's cells -/
def ptCs (p : Int × Int) : List Value := [.int .i64 p.1, .int .i64 p.2]
theorem ptCsL : ∀ p : Int × Int, (ptCs p).length = 2 := fun _ => rfl
def PtO (w : World) (b o : Nat) (p : Int × Int) : Prop := w.cell? ⟨b, o, none⟩ = some (.int .i64 p.1) ∧ w.cell? ⟨b, o + 1, none⟩ = some (.int .i64 p.2)
theorem PtO.lies {w : World} {b o : Nat} {p : Int × Int} (h : PtO w b o p) : b < w.heap.size := World.block_lt_of_cell? _ _ h.1
theorem PtO.next {w w' : World} {b o : Nat} {p : Int × Int} (h : PtO w b o p) (hb : Below w.heap.size w w') : PtO w' b o p :=
  ⟨(hb.cell (p := ⟨b, o, none⟩) h.lies).trans h.1, (hb.cell (p := ⟨b, o + 1, none⟩) h.lies).trans h.2⟩
theorem PtO.new (w : World) (p : Int × Int) (T : TypeId) : PtO (w.alloc (.cells #[.int .i64 p.1, .int .i64 p.2] T)) w.heap.size 0 p := by unfold PtO; simp
theorem PtO.at {w : World} {A : Option Addr} {ps : List (Int × Int)} (h : CellsAt w A (rowsF ptCs ps)) (h0 : 0 < ps.length) : ∃ b off, A = some ⟨b, off, none⟩ ∧ ∀ k p, ps[k]? = some p → PtO w b (off + k * 2) p := by
  obtain ⟨b, off, e, hc⟩ := rowsF_cells ptCsL (by omega) h h0
  exact ⟨b, off, e, fun k p hk => ⟨hc k p hk 0 (by omega), hc k p hk 1 (by omega)⟩⟩
def PtsIn (w : World) (A : Option Addr) (n : Nat) (ps : List (Int × Int)) : Prop := ps.length = n ∧ CellsAt w A (rowsF ptCs ps)
def PtsOk (w : World) (A : Option Addr) (n : Nat) (ps : List (Int × Int)) : Prop := PtsIn w A n ps ∧ n ≤ 1048576
theorem PtsOk.go {w w' : World} {A : Option Addr} {n : Nat} {ps : List (Int × Int)} (h : PtsOk w A n ps) (hb : Below w.heap.size w w') : PtsOk w' A n ps := ⟨⟨h.1.1, h.1.2.next hb⟩, h.2⟩
theorem PtsOk.cells {w : World} {A : Option Addr} {n : Nat} {ps : List (Int × Int)} (h : PtsOk w A n ps) : CellsAt w A (rowsF ptCs ps) := h.1.2
def ptAt (ps : List (Int × Int)) (i : Nat) : Int × Int := ps.getD i (0, 0)
theorem ptAt_get {ps : List (Int × Int)} {i : Nat} {x : Int × Int} (h : ps[i]? = some x) : ptAt ps i = x := by unfold ptAt; rw [List.getD, h]; rfl
theorem ptAt_some (ps : List (Int × Int)) (i : Nat) (h : i < ps.length) : ps[i]? = some (ptAt ps i) := by
  rw [ptAt_get (List.getElem?_eq_getElem h)]; exact List.getElem?_eq_getElem h

end Go.Proofs.Ytkbkmpcdidhagab
