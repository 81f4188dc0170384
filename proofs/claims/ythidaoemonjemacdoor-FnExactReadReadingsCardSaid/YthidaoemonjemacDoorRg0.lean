/-
  Reading: its fields, its cells in memory, lists of them. No program in sight but the word of a slice's cells.
-/
import Derived.Test.YthidaoemonjemacDoorFl
import Derived.Deep.MidRow
import Derived.Laws.ResultCell
namespace Go.Proofs.YthidaoemonjemacDoor
open Go.ChangeShapes Go.WideShapes Go.ChangeAt Go.RowKit
set_option linter.unusedVariables false
set_option linter.unusedSimpArgs false

/-- what a Reading says -/
structure Rg where
  h : Int
  c : Int
deriving DecidableEq
instance : Inhabited Rg := ⟨⟨0, 0⟩⟩
def Rg.cs (x : Rg) : List Value := [.int .i64 x.h, .int .i64 x.c]
theorem Rg.cs_length (x : Rg) : x.cs.length = 2 := rfl
theorem Rg.csL : ∀ x : Rg, x.cs.length = 2 := fun _ => rfl
/-- one in memory, from cell o of block b on -/
def RgO (w : World) (b o : Nat) (x : Rg) : Prop :=
  w.cell? ⟨b, o, none⟩ = some (.int .i64 x.h) ∧ w.cell? ⟨b, o + 1, none⟩ = some (.int .i64 x.c)
theorem RgO.lies {w : World} {b o : Nat} {x : Rg} (h : RgO w b o x) : b < w.heap.size := World.block_lt_of_cell? _ _ h.1
theorem RgO.keep {w w' : World} {b o : Nat} {x : Rg} (h : RgO w b o x) (k : w'.heap[b]? = w.heap[b]?) : RgO w' b o x := by
  have e : ∀ j, w'.cell? ⟨b, j, none⟩ = w.cell? ⟨b, j, none⟩ := fun j => World.cell?_of_block k
  unfold RgO
  rw [e, e]
  exact h
theorem RgO.next {w w' : World} {b o : Nat} {x : Rg} (h : RgO w b o x) (hb : Below w.heap.size w w') : RgO w' b o x := h.keep (hb.block _ h.lies)
theorem RgO.alloc {w : World} {b o : Nat} {x : Rg} (h : RgO w b o x) (O : Obj) : RgO (w.alloc O) b o x := h.next (bal (Below.refl _ _) O)
theorem RgO.new (w : World) (x : Rg) (T : TypeId) : RgO (w.alloc (.cells #[.int .i64 x.h, .int .i64 x.c] T)) w.heap.size 0 x := by
  unfold RgO
  simp
theorem RgO.range {w : World} {b o : Nat} {x : Rg} (h : RgO w b o x) : w.rangeAt b o x.cs := fun j v hj => by
  obtain ⟨h0, h1⟩ := h
  match j, hj with
  | 0, hj => cases hj; exact h0
  | 1, hj => cases hj; exact h1
theorem RgO.of_cells {w : World} {b o : Nat} {x : Rg} (h : ∀ j, j < 2 → w.cell? ⟨b, o + j, none⟩ = x.cs[j]?) : RgO w b o x :=
  ⟨h 0 (by omega), h 1 (by omega)⟩
/-- one of a slice's -/
theorem RgO.at {w : World} {A : Option Addr} {xs : List Rg} (h : CellsAt w A (rowsF Rg.cs xs)) (h0 : 0 < xs.length) : ∃ b off, A = some ⟨b, off, none⟩ ∧ ∀ k x, xs[k]? = some x → RgO w b (off + k * 2) x := by
  obtain ⟨b, off, e, hc⟩ := rowsF_cells Rg.csL (by omega) h h0
  exact ⟨b, off, e, fun k x hk => RgO.of_cells (hc k x hk)⟩
/-- its texts are of a length -/
def Rg.fine (x : Rg) : Prop := True
/-- a slice of them that is an argument -/
def RgsIn (w : World) (A : Option Addr) (n : Nat) (xs : List Rg) : Prop :=
  xs.length = n ∧ n ≤ maxLen ∧ CellsAt w A (rowsF Rg.cs xs) ∧ ∀ x ∈ xs, x.fine
theorem RgsIn.nil (w : World) : RgsIn w none 0 [] := ⟨rfl, Nat.zero_le _, CellsAt.nil _ _, fun _ h => by cases h⟩
theorem RgsIn.go {w w' : World} {A : Option Addr} {n : Nat} {xs : List Rg} (h : RgsIn w A n xs) (hb : Below w.heap.size w w') : RgsIn w' A n xs := ⟨h.1, h.2.1, h.2.2.1.next hb, h.2.2.2⟩
/-- a slice of them that can be read, of a length -/
def RgsOk (w : World) (A : Option Addr) (n : Nat) (xs : List Rg) : Prop := RgsIn w A n xs ∧ n ≤ 1048576
theorem RgsOk.go {w w' : World} {A : Option Addr} {n : Nat} {xs : List Rg} (h : RgsOk w A n xs) (hb : Below w.heap.size w w') : RgsOk w' A n xs := ⟨h.1.go hb, h.2⟩
theorem RgsOk.short {w : World} {A : Option Addr} {n : Nat} {xs : List Rg} (h : RgsOk w A n xs) : xs.length ≤ 1048576 := by rw [h.1.1]; exact h.2
theorem RgsOk.cells {w : World} {A : Option Addr} {n : Nat} {xs : List Rg} (h : RgsOk w A n xs) : CellsAt w A (rowsF Rg.cs xs) := h.1.2.2.1
theorem RgO.set0 {w : World} {b : Nat} {x : Rg} (h : RgO w b 0 x) (z : Int) : RgO (w.setCell ⟨b, 0, none⟩ (.int .i64 z)) b 0 { x with h := z } := by
  obtain ⟨h0, h1⟩ := h
  exact ⟨World.cell?_setCell_same _ _ _ h0, (World.cell?_setCell_other _ _ _ _ (by simp)).trans h1⟩
theorem RgO.set1 {w : World} {b : Nat} {x : Rg} (h : RgO w b 0 x) (z : Int) : RgO (w.setCell ⟨b, 1, none⟩ (.int .i64 z)) b 0 { x with c := z } := by
  obtain ⟨h0, h1⟩ := h
  exact ⟨(World.cell?_setCell_other _ _ _ _ (by simp)).trans h0, World.cell?_setCell_same _ _ _ h1⟩
theorem RgO.setOther {w : World} {b o : Nat} {x : Rg} (h : RgO w b o x) (b' o' : Nat) (u : Value) (hne : b ≠ b') : RgO (w.setCell ⟨b', o', none⟩ u) b o x :=
  h.keep (Below.heap_setCell w ⟨b', o', none⟩ u b hne)
/-- a Reading read as a result out of memory -/
theorem results_Rg {fn : Func} {p : Tmp} (h : fn.results = #[.cell p 35]) (tmps : Array Value) (w : World) (g : Nat) (x : Rg) (hp : tmps.getD p undef = .pointer (some ⟨g, 0, none⟩)) (hw : RgO w g 0 x) :
    (results fn tmps).run Tryd.prog w = .ok (.agg #[.int .i64 x.h, .int .i64 x.c]) w := by
  have hp' : tmps[p]?.getD undef = .pointer (some ⟨g, 0, none⟩) := by simpa using hp
  have hl := run_loadVar_mid (P := Tryd.prog) w g 0 35 _ _ hw.range Tryd.underlying35 rfl (by kernel_rfl)
  simp [results, h, hp', asAddr, hl]
  rfl
theorem results_Rg2 {fn : Func} {p u : Tmp} (h : fn.results = #[.cell p 35, .tmp u]) (tmps : Array Value) (w : World) (g : Nat) (x : Rg) (hp : tmps.getD p undef = .pointer (some ⟨g, 0, none⟩)) (hw : RgO w g 0 x) :
    (results fn tmps).run Tryd.prog w = .ok (.tuple #[.agg #[.int .i64 x.h, .int .i64 x.c], tmps.getD u undef]) w := by
  have hp' : tmps[p]?.getD undef = .pointer (some ⟨g, 0, none⟩) := by simpa using hp
  have hl := run_loadVar_mid (P := Tryd.prog) w g 0 35 _ _ hw.range Tryd.underlying35 rfl (by kernel_rfl)
  rw [results_cell_tmp h]
  simp [hp', asAddr, hl, Result.andThen]
  rfl
end Go.Proofs.YthidaoemonjemacDoor
