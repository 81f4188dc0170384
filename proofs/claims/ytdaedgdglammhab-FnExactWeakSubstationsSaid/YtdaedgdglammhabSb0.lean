/-
  Substation: its fields, its cells in memory, lists of them. No program in sight but the word of a slice's cells.
-/
import Derived.Test.YtdaedgdglammhabFl
import Derived.Deep.MidRow
import Derived.Laws.ResultCell
namespace Go.Proofs.Ytdaedgdglammhab
open Go.ChangeShapes Go.WideShapes Go.ChangeAt Go.RowKit
set_option linter.unusedVariables false
set_option linter.unusedSimpArgs false

/-- what a Substation says -/
structure Sb where
  id : ByteArray
  nd : Int
  tr : Int
  su : Int
  re : Int
deriving DecidableEq
instance : Inhabited Sb := ⟨⟨.empty, 0, 0, 0, 0⟩⟩
def Sb.cs (x : Sb) : List Value := [.string x.id, .int .i64 x.nd, .int .i64 x.tr, .int .i64 x.su, .int .i64 x.re]
theorem Sb.cs_length (x : Sb) : x.cs.length = 5 := rfl
theorem Sb.csL : ∀ x : Sb, x.cs.length = 5 := fun _ => rfl
/-- one in memory, from cell o of block b on -/
def SbO (w : World) (b o : Nat) (x : Sb) : Prop :=
  w.cell? ⟨b, o, none⟩ = some (.string x.id) ∧ w.cell? ⟨b, o + 1, none⟩ = some (.int .i64 x.nd) ∧ w.cell? ⟨b, o + 2, none⟩ = some (.int .i64 x.tr) ∧ w.cell? ⟨b, o + 3, none⟩ = some (.int .i64 x.su) ∧ w.cell? ⟨b, o + 4, none⟩ = some (.int .i64 x.re)
theorem SbO.lies {w : World} {b o : Nat} {x : Sb} (h : SbO w b o x) : b < w.heap.size := World.block_lt_of_cell? _ _ h.1
theorem SbO.keep {w w' : World} {b o : Nat} {x : Sb} (h : SbO w b o x) (k : w'.heap[b]? = w.heap[b]?) : SbO w' b o x := by
  have e : ∀ j, w'.cell? ⟨b, j, none⟩ = w.cell? ⟨b, j, none⟩ := fun j => World.cell?_of_block k
  unfold SbO
  rw [e, e, e, e, e]
  exact h
theorem SbO.next {w w' : World} {b o : Nat} {x : Sb} (h : SbO w b o x) (hb : Below w.heap.size w w') : SbO w' b o x := h.keep (hb.block _ h.lies)
theorem SbO.alloc {w : World} {b o : Nat} {x : Sb} (h : SbO w b o x) (O : Obj) : SbO (w.alloc O) b o x := h.next (bal (Below.refl _ _) O)
theorem SbO.new (w : World) (x : Sb) (T : TypeId) : SbO (w.alloc (.cells #[.string x.id, .int .i64 x.nd, .int .i64 x.tr, .int .i64 x.su, .int .i64 x.re] T)) w.heap.size 0 x := by
  unfold SbO
  simp
theorem SbO.range {w : World} {b o : Nat} {x : Sb} (h : SbO w b o x) : w.rangeAt b o x.cs := fun j v hj => by
  obtain ⟨h0, h1, h2, h3, h4⟩ := h
  match j, hj with
  | 0, hj => cases hj; exact h0
  | 1, hj => cases hj; exact h1
  | 2, hj => cases hj; exact h2
  | 3, hj => cases hj; exact h3
  | 4, hj => cases hj; exact h4
theorem SbO.of_cells {w : World} {b o : Nat} {x : Sb} (h : ∀ j, j < 5 → w.cell? ⟨b, o + j, none⟩ = x.cs[j]?) : SbO w b o x :=
  ⟨h 0 (by omega), h 1 (by omega), h 2 (by omega), h 3 (by omega), h 4 (by omega)⟩
/-- one of a slice's -/
theorem SbO.at {w : World} {A : Option Addr} {xs : List Sb} (h : CellsAt w A (rowsF Sb.cs xs)) (h0 : 0 < xs.length) : ∃ b off, A = some ⟨b, off, none⟩ ∧ ∀ k x, xs[k]? = some x → SbO w b (off + k * 5) x := by
  obtain ⟨b, off, e, hc⟩ := rowsF_cells Sb.csL (by omega) h h0
  exact ⟨b, off, e, fun k x hk => SbO.of_cells (hc k x hk)⟩
/-- its texts are of a length -/
def Sb.fine (x : Sb) : Prop := x.id.size ≤ maxLen
/-- a slice of them that is an argument -/
def SbsIn (w : World) (A : Option Addr) (n : Nat) (xs : List Sb) : Prop :=
  xs.length = n ∧ n ≤ maxLen ∧ CellsAt w A (rowsF Sb.cs xs) ∧ ∀ x ∈ xs, x.fine
theorem SbsIn.nil (w : World) : SbsIn w none 0 [] := ⟨rfl, Nat.zero_le _, CellsAt.nil _ _, fun _ h => by cases h⟩
theorem SbsIn.go {w w' : World} {A : Option Addr} {n : Nat} {xs : List Sb} (h : SbsIn w A n xs) (hb : Below w.heap.size w w') : SbsIn w' A n xs := ⟨h.1, h.2.1, h.2.2.1.next hb, h.2.2.2⟩
/-- a slice of them that can be read, of a length -/
def SbsOk (w : World) (A : Option Addr) (n : Nat) (xs : List Sb) : Prop := SbsIn w A n xs ∧ n ≤ 1048576
theorem SbsOk.go {w w' : World} {A : Option Addr} {n : Nat} {xs : List Sb} (h : SbsOk w A n xs) (hb : Below w.heap.size w w') : SbsOk w' A n xs := ⟨h.1.go hb, h.2⟩
theorem SbsOk.short {w : World} {A : Option Addr} {n : Nat} {xs : List Sb} (h : SbsOk w A n xs) : xs.length ≤ 1048576 := by rw [h.1.1]; exact h.2
theorem SbsOk.cells {w : World} {A : Option Addr} {n : Nat} {xs : List Sb} (h : SbsOk w A n xs) : CellsAt w A (rowsF Sb.cs xs) := h.1.2.2.1
theorem SbO.set0 {w : World} {b : Nat} {x : Sb} (h : SbO w b 0 x) (z : ByteArray) : SbO (w.setCell ⟨b, 0, none⟩ (.string z)) b 0 { x with id := z } := by
  obtain ⟨h0, h1, h2, h3, h4⟩ := h
  exact ⟨World.cell?_setCell_same _ _ _ h0, (World.cell?_setCell_other _ _ _ _ (by simp)).trans h1, (World.cell?_setCell_other _ _ _ _ (by simp)).trans h2, (World.cell?_setCell_other _ _ _ _ (by simp)).trans h3, (World.cell?_setCell_other _ _ _ _ (by simp)).trans h4⟩
theorem SbO.set1 {w : World} {b : Nat} {x : Sb} (h : SbO w b 0 x) (z : Int) : SbO (w.setCell ⟨b, 1, none⟩ (.int .i64 z)) b 0 { x with nd := z } := by
  obtain ⟨h0, h1, h2, h3, h4⟩ := h
  exact ⟨(World.cell?_setCell_other _ _ _ _ (by simp)).trans h0, World.cell?_setCell_same _ _ _ h1, (World.cell?_setCell_other _ _ _ _ (by simp)).trans h2, (World.cell?_setCell_other _ _ _ _ (by simp)).trans h3, (World.cell?_setCell_other _ _ _ _ (by simp)).trans h4⟩
theorem SbO.set2 {w : World} {b : Nat} {x : Sb} (h : SbO w b 0 x) (z : Int) : SbO (w.setCell ⟨b, 2, none⟩ (.int .i64 z)) b 0 { x with tr := z } := by
  obtain ⟨h0, h1, h2, h3, h4⟩ := h
  exact ⟨(World.cell?_setCell_other _ _ _ _ (by simp)).trans h0, (World.cell?_setCell_other _ _ _ _ (by simp)).trans h1, World.cell?_setCell_same _ _ _ h2, (World.cell?_setCell_other _ _ _ _ (by simp)).trans h3, (World.cell?_setCell_other _ _ _ _ (by simp)).trans h4⟩
theorem SbO.set3 {w : World} {b : Nat} {x : Sb} (h : SbO w b 0 x) (z : Int) : SbO (w.setCell ⟨b, 3, none⟩ (.int .i64 z)) b 0 { x with su := z } := by
  obtain ⟨h0, h1, h2, h3, h4⟩ := h
  exact ⟨(World.cell?_setCell_other _ _ _ _ (by simp)).trans h0, (World.cell?_setCell_other _ _ _ _ (by simp)).trans h1, (World.cell?_setCell_other _ _ _ _ (by simp)).trans h2, World.cell?_setCell_same _ _ _ h3, (World.cell?_setCell_other _ _ _ _ (by simp)).trans h4⟩
theorem SbO.set4 {w : World} {b : Nat} {x : Sb} (h : SbO w b 0 x) (z : Int) : SbO (w.setCell ⟨b, 4, none⟩ (.int .i64 z)) b 0 { x with re := z } := by
  obtain ⟨h0, h1, h2, h3, h4⟩ := h
  exact ⟨(World.cell?_setCell_other _ _ _ _ (by simp)).trans h0, (World.cell?_setCell_other _ _ _ _ (by simp)).trans h1, (World.cell?_setCell_other _ _ _ _ (by simp)).trans h2, (World.cell?_setCell_other _ _ _ _ (by simp)).trans h3, World.cell?_setCell_same _ _ _ h4⟩
theorem SbO.setOther {w : World} {b o : Nat} {x : Sb} (h : SbO w b o x) (b' o' : Nat) (u : Value) (hne : b ≠ b') : SbO (w.setCell ⟨b', o', none⟩ u) b o x :=
  h.keep (Below.heap_setCell w ⟨b', o', none⟩ u b hne)
/-- a Substation read as a result out of memory -/
theorem results_Sb {fn : Func} {p : Tmp} (h : fn.results = #[.cell p 34]) (tmps : Array Value) (w : World) (g : Nat) (x : Sb) (hp : tmps.getD p undef = .pointer (some ⟨g, 0, none⟩)) (hw : SbO w g 0 x) :
    (results fn tmps).run Try.prog w = .ok (.agg #[.string x.id, .int .i64 x.nd, .int .i64 x.tr, .int .i64 x.su, .int .i64 x.re]) w := by
  have hp' : tmps[p]?.getD undef = .pointer (some ⟨g, 0, none⟩) := by simpa using hp
  have hl := run_loadVar_mid (P := Try.prog) w g 0 34 _ _ hw.range Try.underlying34 rfl (by kernel_rfl)
  simp [results, h, hp', asAddr, hl]
  rfl
theorem results_Sb2 {fn : Func} {p u : Tmp} (h : fn.results = #[.cell p 34, .tmp u]) (tmps : Array Value) (w : World) (g : Nat) (x : Sb) (hp : tmps.getD p undef = .pointer (some ⟨g, 0, none⟩)) (hw : SbO w g 0 x) :
    (results fn tmps).run Try.prog w = .ok (.tuple #[.agg #[.string x.id, .int .i64 x.nd, .int .i64 x.tr, .int .i64 x.su, .int .i64 x.re], tmps.getD u undef]) w := by
  have hp' : tmps[p]?.getD undef = .pointer (some ⟨g, 0, none⟩) := by simpa using hp
  have hl := run_loadVar_mid (P := Try.prog) w g 0 34 _ _ hw.range Try.underlying34 rfl (by kernel_rfl)
  rw [results_cell_tmp h]
  simp [hp', asAddr, hl, Result.andThen]
  rfl
end Go.Proofs.Ytdaedgdglammhab
