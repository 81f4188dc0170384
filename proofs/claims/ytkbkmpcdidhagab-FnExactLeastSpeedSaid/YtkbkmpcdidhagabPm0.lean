/-
  A Pump: its fields, its cells in memory; lists of lists of numbers.
-/
import Derived.Test.YtkbkmpcdidhagabM2
import Derived.Test.YtkbkmpcdidhagabGs
import Derived.Deep.MidRow
import Derived.Laws.ResultCell
namespace Go.Proofs.Ytkbkmpcdidhagab
open Go.ChangeShapes Go.WideShapes Go.ChangeAt Go.RowKit
set_option linter.unusedVariables false
set_option linter.unusedSimpArgs false

/-- a list of numbers at its place -/
structure Rw where
  A : Option Addr
  c : Nat
  z : List Int
def Rw.v (r : Rw) : Value := .slice r.A r.z.length r.c
def rwsV (rs : List Rw) : List Value := rs.map Rw.v
theorem rwsV_length (rs : List Rw) : (rwsV rs).length = rs.length := by unfold rwsV; simp
theorem rwsV_at {rs : List Rw} {k : Nat} {r : Rw} (h : rs[k]? = some r) : (rwsV rs)[k]? = some r.v := by unfold rwsV; rw [List.getElem?_map, h]; rfl
def Rw.fine (w : World) (r : Rw) : Prop := SliceIn .i64 w r.A r.z.length r.z
theorem SliceIn.ahead {k : IntKind} {w w' : World} {A : Option Addr} {n : Nat} {zs : List Int} (h : SliceIn k w A n zs) (hb : Below w.heap.size w w') : SliceIn k w' A n zs := ⟨h.1, h.2.1, h.2.2.1.next hb, h.2.2.2⟩
theorem Rw.fine.go {w w' : World} {r : Rw} (h : r.fine w) (hb : Below w.heap.size w w') : r.fine w' := SliceIn.ahead h hb
/-- a slice of lists that can be read -/
def RwsIn (w : World) (A : Option Addr) (n : Nat) (rs : List Rw) : Prop :=
  rs.length = n ∧ n ≤ maxLen ∧ CellsAt w A (rwsV rs) ∧ ∀ r ∈ rs, r.fine w
theorem RwsIn.nil (w : World) : RwsIn w none 0 [] := ⟨rfl, Nat.zero_le _, CellsAt.nil _ _, fun _ h => by cases h⟩
theorem RwsIn.go {w w' : World} {A : Option Addr} {n : Nat} {rs : List Rw} (h : RwsIn w A n rs) (hb : Below w.heap.size w w') : RwsIn w' A n rs := ⟨h.1, h.2.1, h.2.2.1.next hb, fun r hr => (h.2.2.2 r hr).go hb⟩
theorem RwsIn.at {w : World} {A : Option Addr} {n : Nat} {rs : List Rw} (h : RwsIn w A n rs) (h0 : 0 < n) : ∃ b off, A = some ⟨b, off, none⟩ ∧ ∀ k r, rs[k]? = some r → w.cell? ⟨b, off + k, none⟩ = some (.slice r.A r.z.length r.c) := by
  obtain ⟨b, off, e, hc⟩ := h.2.2.1 (by rw [rwsV_length, h.1]; exact h0)
  refine ⟨b, off, e, fun k r hk => ?_⟩
  rw [hc k (by rw [rwsV_length]; exact (List.getElem?_eq_some_iff.1 hk).1), rwsV_at hk]; rfl

/-- what a Pump says -/
structure PmD where
  id : ByteArray
  cv : List (List Int)
/-- a Pump with the places of its lists -/
structure Pm where
  d : PmD
  cvA : Option Addr
  cvc : Nat
  rs : List Rw
/-- one in memory, from cell o of block b on -/
def PmO (w : World) (b o : Nat) (x : Pm) : Prop := w.cell? ⟨b, o, none⟩ = some (.string x.d.id) ∧ w.cell? ⟨b, o + 1, none⟩ = some (.slice x.cvA x.d.cv.length x.cvc)
theorem PmO.lies {w : World} {b o : Nat} {x : Pm} (h : PmO w b o x) : b < w.heap.size := World.block_lt_of_cell? _ _ h.1
theorem PmO.keep {w w' : World} {b o : Nat} {x : Pm} (h : PmO w b o x) (k : w'.heap[b]? = w.heap[b]?) : PmO w' b o x := by
  have e : ∀ j, w'.cell? ⟨b, j, none⟩ = w.cell? ⟨b, j, none⟩ := fun j => World.cell?_of_block k
  unfold PmO
  rw [e, e]
  exact h
theorem PmO.next {w w' : World} {b o : Nat} {x : Pm} (h : PmO w b o x) (hb : Below w.heap.size w w') : PmO w' b o x := h.keep (hb.block _ h.lies)
theorem PmO.alloc {w : World} {b o : Nat} {x : Pm} (h : PmO w b o x) (O : Obj) : PmO (w.alloc O) b o x := h.next (bal (Below.refl _ _) O)
theorem PmO.new (w : World) (x : Pm) (T : TypeId) : PmO (w.alloc (.cells #[.string x.d.id, .slice x.cvA x.d.cv.length x.cvc] T)) w.heap.size 0 x := by
  unfold PmO
  simp
theorem PmO.range {w : World} {b o : Nat} {x : Pm} (h : PmO w b o x) : w.rangeAt b o [.string x.d.id, .slice x.cvA x.d.cv.length x.cvc] := fun j v hj => by
  obtain ⟨h0, h1⟩ := h
  match j, hj with
  | 0, hj => cases hj; exact h0
  | 1, hj => cases hj; exact h1
theorem PmO.set0 {w : World} {b : Nat} {x : Pm} (h : PmO w b 0 x) (z : ByteArray) : PmO (w.setCell ⟨b, 0, none⟩ (.string z)) b 0 { x with d := { x.d with id := z } } := by
  obtain ⟨h0, h1⟩ := h
  exact ⟨World.cell?_setCell_same _ _ _ h0, (World.cell?_setCell_other _ _ _ _ (by simp)).trans h1⟩
theorem PmO.set1 {w : World} {b : Nat} {x : Pm} (h : PmO w b 0 x) (zA : Option Addr) (zc : Nat) (z : List (List Int)) (rs : List Rw) : PmO (w.setCell ⟨b, 1, none⟩ (.slice zA z.length zc)) b 0 ⟨{ x.d with cv := z }, zA, zc, rs⟩ := by
  obtain ⟨h0, h1⟩ := h
  exact ⟨(World.cell?_setCell_other _ _ _ _ (by simp)).trans h0, World.cell?_setCell_same _ _ _ h1⟩
theorem PmO.setOther {w : World} {b o : Nat} {x : Pm} (h : PmO w b o x) (b' o' : Nat) (u : Value) (hne : b ≠ b') : PmO (w.setCell ⟨b', o', none⟩ u) b o x :=
  h.keep (Below.heap_setCell w ⟨b', o', none⟩ u b hne)
/-- a Pump read as a result out of memory -/
theorem results_Pm {fn : Func} {p : Tmp} (h : fn.results = #[.cell p 27]) (tmps : Array Value) (w : World) (g : Nat) (x : Pm) (hp : tmps.getD p undef = .pointer (some ⟨g, 0, none⟩)) (hw : PmO w g 0 x) :
    (results fn tmps).run Try.prog w = .ok (.agg #[.string x.d.id, .slice x.cvA x.d.cv.length x.cvc]) w := by
  have hp' : tmps[p]?.getD undef = .pointer (some ⟨g, 0, none⟩) := by simpa using hp
  have hl := run_loadVar_mid (P := Try.prog) w g 0 27 _ _ hw.range Try.underlying27 rfl (by kernel_rfl)
  simp [results, h, hp', asAddr, hl]
theorem results_Pm2 {fn : Func} {p u : Tmp} (h : fn.results = #[.cell p 27, .tmp u]) (tmps : Array Value) (w : World) (g : Nat) (x : Pm) (hp : tmps.getD p undef = .pointer (some ⟨g, 0, none⟩)) (hw : PmO w g 0 x) :
    (results fn tmps).run Try.prog w = .ok (.tuple #[.agg #[.string x.d.id, .slice x.cvA x.d.cv.length x.cvc], tmps.getD u undef]) w := by
  have hp' : tmps[p]?.getD undef = .pointer (some ⟨g, 0, none⟩) := by simpa using hp
  have hl := run_loadVar_mid (P := Try.prog) w g 0 27 _ _ hw.range Try.underlying27 rfl (by kernel_rfl)
  rw [results_cell_tmp h]
  simp [hp', asAddr, hl, Result.andThen]
/-- its lists can be read, its name is of a length -/
def Pm.fine (w : World) (x : Pm) : Prop := x.d.id.size ≤ maxLen ∧ x.rs.map Rw.z = x.d.cv ∧ RwsIn w x.cvA x.d.cv.length x.rs
theorem Pm.fine.go {w w' : World} {x : Pm} (h : x.fine w) (hb : Below w.heap.size w w') : x.fine w' := ⟨h.1, h.2.1, h.2.2.go hb⟩
/-- lists of a length -/
def shortZ (Z : List (List Int)) : Prop := Z.length ≤ 1048576 ∧ ∀ z ∈ Z, z.length ≤ 1048576
def Pm.okay (w : World) (x : Pm) : Prop := x.fine w ∧ shortZ x.d.cv
theorem Pm.okay.go {w w' : World} {x : Pm} (h : x.okay w) (hb : Below w.heap.size w w') : x.okay w' := ⟨h.1.go hb, h.2⟩
end Go.Proofs.Ytkbkmpcdidhagab
