/-
  Step: its fields, its cells in memory, lists of them. No program in sight but the word of a slice's cells.
-/
import Derived.Test.YtkbkmpcdidhagacDoorFl
import Derived.Deep.MidRow
import Derived.Laws.ResultCell
namespace Go.Proofs.YtkbkmpcdidhagacDoor
open Go.ChangeShapes Go.WideShapes Go.ChangeAt Go.RowKit
set_option linter.unusedVariables false
set_option linter.unusedSimpArgs false

/-- what a Step says -/
structure Sp where
  t : Int
  d : Int
deriving DecidableEq
instance : Inhabited Sp := ⟨⟨0, 0⟩⟩
def Sp.cs (x : Sp) : List Value := [.int .i64 x.t, .int .i64 x.d]
theorem Sp.cs_length (x : Sp) : x.cs.length = 2 := rfl
theorem Sp.csL : ∀ x : Sp, x.cs.length = 2 := fun _ => rfl
/-- one in memory, from cell o of block b on -/
def SpO (w : World) (b o : Nat) (x : Sp) : Prop :=
  w.cell? ⟨b, o, none⟩ = some (.int .i64 x.t) ∧ w.cell? ⟨b, o + 1, none⟩ = some (.int .i64 x.d)
theorem SpO.lies {w : World} {b o : Nat} {x : Sp} (h : SpO w b o x) : b < w.heap.size := World.block_lt_of_cell? _ _ h.1
theorem SpO.keep {w w' : World} {b o : Nat} {x : Sp} (h : SpO w b o x) (k : w'.heap[b]? = w.heap[b]?) : SpO w' b o x := by
  have e : ∀ j, w'.cell? ⟨b, j, none⟩ = w.cell? ⟨b, j, none⟩ := fun j => World.cell?_of_block k
  unfold SpO
  rw [e, e]
  exact h
theorem SpO.next {w w' : World} {b o : Nat} {x : Sp} (h : SpO w b o x) (hb : Below w.heap.size w w') : SpO w' b o x := h.keep (hb.block _ h.lies)
theorem SpO.alloc {w : World} {b o : Nat} {x : Sp} (h : SpO w b o x) (O : Obj) : SpO (w.alloc O) b o x := h.next (bal (Below.refl _ _) O)
theorem SpO.new (w : World) (x : Sp) (T : TypeId) : SpO (w.alloc (.cells #[.int .i64 x.t, .int .i64 x.d] T)) w.heap.size 0 x := by
  unfold SpO
  simp
theorem SpO.range {w : World} {b o : Nat} {x : Sp} (h : SpO w b o x) : w.rangeAt b o x.cs := fun j v hj => by
  obtain ⟨h0, h1⟩ := h
  match j, hj with
  | 0, hj => cases hj; exact h0
  | 1, hj => cases hj; exact h1
theorem SpO.of_cells {w : World} {b o : Nat} {x : Sp} (h : ∀ j, j < 2 → w.cell? ⟨b, o + j, none⟩ = x.cs[j]?) : SpO w b o x :=
  ⟨h 0 (by omega), h 1 (by omega)⟩
/-- one of a slice's -/
theorem SpO.at {w : World} {A : Option Addr} {xs : List Sp} (h : CellsAt w A (rowsF Sp.cs xs)) (h0 : 0 < xs.length) : ∃ b off, A = some ⟨b, off, none⟩ ∧ ∀ k x, xs[k]? = some x → SpO w b (off + k * 2) x := by
  obtain ⟨b, off, e, hc⟩ := rowsF_cells Sp.csL (by omega) h h0
  exact ⟨b, off, e, fun k x hk => SpO.of_cells (hc k x hk)⟩
/-- its texts are of a length -/
def Sp.fine (x : Sp) : Prop := True
/-- a slice of them that is an argument -/
def SpsIn (w : World) (A : Option Addr) (n : Nat) (xs : List Sp) : Prop :=
  xs.length = n ∧ n ≤ maxLen ∧ CellsAt w A (rowsF Sp.cs xs) ∧ ∀ x ∈ xs, x.fine
theorem SpsIn.nil (w : World) : SpsIn w none 0 [] := ⟨rfl, Nat.zero_le _, CellsAt.nil _ _, fun _ h => by cases h⟩
theorem SpsIn.go {w w' : World} {A : Option Addr} {n : Nat} {xs : List Sp} (h : SpsIn w A n xs) (hb : Below w.heap.size w w') : SpsIn w' A n xs := ⟨h.1, h.2.1, h.2.2.1.next hb, h.2.2.2⟩
/-- a slice of them that can be read, of a length -/
def SpsOk (w : World) (A : Option Addr) (n : Nat) (xs : List Sp) : Prop := SpsIn w A n xs ∧ n ≤ 1048576
theorem SpsOk.go {w w' : World} {A : Option Addr} {n : Nat} {xs : List Sp} (h : SpsOk w A n xs) (hb : Below w.heap.size w w') : SpsOk w' A n xs := ⟨h.1.go hb, h.2⟩
theorem SpsOk.short {w : World} {A : Option Addr} {n : Nat} {xs : List Sp} (h : SpsOk w A n xs) : xs.length ≤ 1048576 := by rw [h.1.1]; exact h.2
theorem SpsOk.cells {w : World} {A : Option Addr} {n : Nat} {xs : List Sp} (h : SpsOk w A n xs) : CellsAt w A (rowsF Sp.cs xs) := h.1.2.2.1
theorem SpO.set0 {w : World} {b : Nat} {x : Sp} (h : SpO w b 0 x) (z : Int) : SpO (w.setCell ⟨b, 0, none⟩ (.int .i64 z)) b 0 { x with t := z } := by
  obtain ⟨h0, h1⟩ := h
  exact ⟨World.cell?_setCell_same _ _ _ h0, (World.cell?_setCell_other _ _ _ _ (by simp)).trans h1⟩
theorem SpO.set1 {w : World} {b : Nat} {x : Sp} (h : SpO w b 0 x) (z : Int) : SpO (w.setCell ⟨b, 1, none⟩ (.int .i64 z)) b 0 { x with d := z } := by
  obtain ⟨h0, h1⟩ := h
  exact ⟨(World.cell?_setCell_other _ _ _ _ (by simp)).trans h0, World.cell?_setCell_same _ _ _ h1⟩
theorem SpO.setOther {w : World} {b o : Nat} {x : Sp} (h : SpO w b o x) (b' o' : Nat) (u : Value) (hne : b ≠ b') : SpO (w.setCell ⟨b', o', none⟩ u) b o x :=
  h.keep (Below.heap_setCell w ⟨b', o', none⟩ u b hne)
/-- a Step read as a result out of memory -/
theorem results_Sp {fn : Func} {p : Tmp} (h : fn.results = #[.cell p 35]) (tmps : Array Value) (w : World) (g : Nat) (x : Sp) (hp : tmps.getD p undef = .pointer (some ⟨g, 0, none⟩)) (hw : SpO w g 0 x) :
    (results fn tmps).run Tryd.prog w = .ok (.agg #[.int .i64 x.t, .int .i64 x.d]) w := by
  have hp' : tmps[p]?.getD undef = .pointer (some ⟨g, 0, none⟩) := by simpa using hp
  have hl := run_loadVar_mid (P := Tryd.prog) w g 0 35 _ _ hw.range Tryd.underlying35 rfl (by kernel_rfl)
  simp [results, h, hp', asAddr, hl]
  rfl
theorem results_Sp2 {fn : Func} {p u : Tmp} (h : fn.results = #[.cell p 35, .tmp u]) (tmps : Array Value) (w : World) (g : Nat) (x : Sp) (hp : tmps.getD p undef = .pointer (some ⟨g, 0, none⟩)) (hw : SpO w g 0 x) :
    (results fn tmps).run Tryd.prog w = .ok (.tuple #[.agg #[.int .i64 x.t, .int .i64 x.d], tmps.getD u undef]) w := by
  have hp' : tmps[p]?.getD undef = .pointer (some ⟨g, 0, none⟩) := by simpa using hp
  have hl := run_loadVar_mid (P := Tryd.prog) w g 0 35 _ _ hw.range Tryd.underlying35 rfl (by kernel_rfl)
  rw [results_cell_tmp h]
  simp [hp', asAddr, hl, Result.andThen]
  rfl
end Go.Proofs.YtkbkmpcdidhagacDoor
