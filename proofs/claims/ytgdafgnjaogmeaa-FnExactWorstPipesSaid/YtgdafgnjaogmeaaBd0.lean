import Derived.Test.YtgdafgnjaogmeaaM2
import Derived.Test.YtgdafgnjaogmeaaP9
import Derived.Test.YtgdafgnjaogmeaaH0
import Derived.Deep.MidRow
import Derived.Laws.ResultCell
/-
  Building: its fields, its cells in memory, lists of them. No program in sight but the word of a slice's cells.
-/
namespace Go.Proofs.Ytgdafgnjaogmeaa
open Go.ChangeShapes Go.WideShapes Go.ChangeAt Go.RowKit

/-- what a Building says -/
structure Bl where
  id : ByteArray
  nd : Int
  ba : Int
  sl : Int
  li : Int
  pr : List Int
/-- a Building with the places of its lists -/
structure Bd where
  d : Bl
  prA : Option Addr
  prc : Nat
def Bd.cs (x : Bd) : List Value := [.string x.d.id, .int .i64 x.d.nd, .int .i64 x.d.ba, .int .i64 x.d.sl, .int .i64 x.d.li, .slice x.prA x.d.pr.length x.prc]
/-- cells, 6 each -/
def rowsBd (xs : List Bd) : List Value := xs.flatMap Bd.cs
theorem Bd.cs_length (x : Bd) : x.cs.length = 6 := rfl
theorem rowsBd_nil : rowsBd [] = [] := rfl
theorem rowsBd_cons (x : Bd) (xs : List Bd) : rowsBd (x :: xs) = x.cs ++ rowsBd xs := rfl
theorem rowsBd_length (xs : List Bd) : (rowsBd xs).length = xs.length * 6 := by
  induction xs with
  | nil => rfl
  | cons p r ih => rw [rowsBd_cons, List.length_append, ih, Bd.cs_length, List.length_cons]; omega
theorem rowsBd_append (xs ys : List Bd) : rowsBd (xs ++ ys) = rowsBd xs ++ rowsBd ys := by unfold rowsBd; rw [List.flatMap_append]
theorem rowsBd_one (x : Bd) : rowsBd [x] = x.cs := by rw [rowsBd_cons]; show x.cs ++ [] = _; rw [List.append_nil]
theorem rowsBd_at (xs : List Bd) : ∀ (k : Nat) (x : Bd), xs[k]? = some x → ∀ j, j < 6 → (rowsBd xs)[k * 6 + j]? = x.cs[j]? := by
  induction xs with
  | nil => intro k p h; simp at h
  | cons a r ih =>
    intro k p h j hj
    rw [rowsBd_cons]
    cases k with
    | zero =>
      obtain rfl : a = p := by simpa using h
      rw [List.getElem?_append_left (by rw [Bd.cs_length]; omega)]
      congr 1; omega
    | succ k =>
      rw [List.getElem?_append_right (by rw [Bd.cs_length]; omega), Bd.cs_length, show (k + 1) * 6 + j - 6 = k * 6 + j by omega]
      exact ih k p (by simpa using h) j hj
theorem rowsBd_of (xs : List Bd) (f : Nat → Option Value) (h : ∀ k x, xs[k]? = some x → ∀ j, j < 6 → f (k * 6 + j) = x.cs[j]?) : ∀ q, q < xs.length * 6 → f q = (rowsBd xs)[q]? := by
  intro q hq
  have hk : q / 6 < xs.length := by omega
  have e := List.getElem?_eq_getElem hk
  have h1 := h (q / 6) _ e (q % 6) (by omega)
  have h2 := rowsBd_at xs (q / 6) _ e (q % 6) (by omega)
  rw [show q / 6 * 6 + q % 6 = q by omega] at h1 h2
  rw [h1, h2]
/-- one in memory, from cell o of block b on -/
def BdO (w : World) (b o : Nat) (x : Bd) : Prop :=
  w.cell? ⟨b, o, none⟩ = some (.string x.d.id) ∧ w.cell? ⟨b, o + 1, none⟩ = some (.int .i64 x.d.nd) ∧ w.cell? ⟨b, o + 2, none⟩ = some (.int .i64 x.d.ba) ∧ w.cell? ⟨b, o + 3, none⟩ = some (.int .i64 x.d.sl) ∧ w.cell? ⟨b, o + 4, none⟩ = some (.int .i64 x.d.li) ∧ w.cell? ⟨b, o + 5, none⟩ = some (.slice x.prA x.d.pr.length x.prc)
theorem BdO.lies {w : World} {b o : Nat} {x : Bd} (h : BdO w b o x) : b < w.heap.size := World.block_lt_of_cell? _ _ h.1
theorem BdO.keep {w w' : World} {b o : Nat} {x : Bd} (h : BdO w b o x) (k : w'.heap[b]? = w.heap[b]?) : BdO w' b o x := by
  have e : ∀ j, w'.cell? ⟨b, j, none⟩ = w.cell? ⟨b, j, none⟩ := fun j => World.cell?_of_block k
  unfold BdO
  rw [e, e, e, e, e, e]
  exact h
theorem BdO.next {w w' : World} {b o : Nat} {x : Bd} (h : BdO w b o x) (hb : Below w.heap.size w w') : BdO w' b o x := h.keep (hb.block _ h.lies)
theorem BdO.alloc {w : World} {b o : Nat} {x : Bd} (h : BdO w b o x) (O : Obj) : BdO (w.alloc O) b o x := h.next (bal (Below.refl _ _) O)
theorem BdO.new (w : World) (x : Bd) (T : TypeId) : BdO (w.alloc (.cells #[.string x.d.id, .int .i64 x.d.nd, .int .i64 x.d.ba, .int .i64 x.d.sl, .int .i64 x.d.li, .slice x.prA x.d.pr.length x.prc] T)) w.heap.size 0 x := by
  unfold BdO
  simp
theorem BdO.range {w : World} {b o : Nat} {x : Bd} (h : BdO w b o x) : w.rangeAt b o x.cs := fun j v hj => by
  obtain ⟨h0, h1, h2, h3, h4, h5⟩ := h
  match j, hj with
  | 0, hj => cases hj; exact h0
  | 1, hj => cases hj; exact h1
  | 2, hj => cases hj; exact h2
  | 3, hj => cases hj; exact h3
  | 4, hj => cases hj; exact h4
  | 5, hj => cases hj; exact h5
theorem BdO.of_cells {w : World} {b o : Nat} {x : Bd} (h : ∀ j, j < 6 → w.cell? ⟨b, o + j, none⟩ = x.cs[j]?) : BdO w b o x :=
  ⟨h 0 (by omega), h 1 (by omega), h 2 (by omega), h 3 (by omega), h 4 (by omega), h 5 (by omega)⟩
/-- one of a slice's -/
theorem BdO.at {w : World} {A : Option Addr} {xs : List Bd} (h : CellsAt w A (rowsBd xs)) (h0 : 0 < xs.length) : ∃ b off, A = some ⟨b, off, none⟩ ∧ ∀ k x, xs[k]? = some x → BdO w b (off + k * 6) x := by
  obtain ⟨b, off, rfl, hc⟩ := h (by rw [rowsBd_length]; omega)
  refine ⟨b, off, rfl, fun k p hk => BdO.of_cells fun j hj => ?_⟩
  have hl : k < xs.length := (List.getElem?_eq_some_iff.1 hk).1
  have := hc (k * 6 + j) (by rw [rowsBd_length]; omega)
  rw [rowsBd_at xs k p hk j hj, ← Nat.add_assoc] at this
  exact this
/-- its lists can be read, its texts are of a length -/
def Bd.fine (w : World) (x : Bd) : Prop := x.d.id.size ≤ maxLen ∧ SliceIn .i64 w x.prA x.d.pr.length x.d.pr
theorem SliceIn.go {k : IntKind} {w w' : World} {A : Option Addr} {n : Nat} {zs : List Int} (h : SliceIn k w A n zs) (hb : Below w.heap.size w w') : SliceIn k w' A n zs := ⟨h.1, h.2.1, h.2.2.1.next hb, h.2.2.2⟩
theorem Bd.fine.go {w w' : World} {x : Bd} (h : x.fine w) (hb : Below w.heap.size w w') : x.fine w' := by
  obtain ⟨k0, k1⟩ := h
  exact ⟨k0, k1.go hb⟩
/-- a slice of them that is an argument -/
def BdsIn (w : World) (A : Option Addr) (n : Nat) (xs : List Bd) : Prop :=
  xs.length = n ∧ n ≤ maxLen ∧ CellsAt w A (rowsBd xs) ∧ ∀ x ∈ xs, x.fine w
theorem BdsIn.nil (w : World) : BdsIn w none 0 [] := ⟨rfl, Nat.zero_le _, CellsAt.nil _ _, fun _ h => by cases h⟩
theorem BdsIn.go {w w' : World} {A : Option Addr} {n : Nat} {xs : List Bd} (h : BdsIn w A n xs) (hb : Below w.heap.size w w') : BdsIn w' A n xs := ⟨h.1, h.2.1, h.2.2.1.next hb, fun x hx => (h.2.2.2 x hx).go hb⟩
theorem BdO.set0 {w : World} {b : Nat} {x : Bd} (h : BdO w b 0 x) (z : ByteArray) : BdO (w.setCell ⟨b, 0, none⟩ (.string z)) b 0 { x with d := { x.d with id := z } } := by
  obtain ⟨h0, h1, h2, h3, h4, h5⟩ := h
  exact ⟨World.cell?_setCell_same _ _ _ h0, (World.cell?_setCell_other _ _ _ _ (by simp)).trans h1, (World.cell?_setCell_other _ _ _ _ (by simp)).trans h2, (World.cell?_setCell_other _ _ _ _ (by simp)).trans h3, (World.cell?_setCell_other _ _ _ _ (by simp)).trans h4, (World.cell?_setCell_other _ _ _ _ (by simp)).trans h5⟩
theorem BdO.set1 {w : World} {b : Nat} {x : Bd} (h : BdO w b 0 x) (z : Int) : BdO (w.setCell ⟨b, 1, none⟩ (.int .i64 z)) b 0 { x with d := { x.d with nd := z } } := by
  obtain ⟨h0, h1, h2, h3, h4, h5⟩ := h
  exact ⟨(World.cell?_setCell_other _ _ _ _ (by simp)).trans h0, World.cell?_setCell_same _ _ _ h1, (World.cell?_setCell_other _ _ _ _ (by simp)).trans h2, (World.cell?_setCell_other _ _ _ _ (by simp)).trans h3, (World.cell?_setCell_other _ _ _ _ (by simp)).trans h4, (World.cell?_setCell_other _ _ _ _ (by simp)).trans h5⟩
theorem BdO.set2 {w : World} {b : Nat} {x : Bd} (h : BdO w b 0 x) (z : Int) : BdO (w.setCell ⟨b, 2, none⟩ (.int .i64 z)) b 0 { x with d := { x.d with ba := z } } := by
  obtain ⟨h0, h1, h2, h3, h4, h5⟩ := h
  exact ⟨(World.cell?_setCell_other _ _ _ _ (by simp)).trans h0, (World.cell?_setCell_other _ _ _ _ (by simp)).trans h1, World.cell?_setCell_same _ _ _ h2, (World.cell?_setCell_other _ _ _ _ (by simp)).trans h3, (World.cell?_setCell_other _ _ _ _ (by simp)).trans h4, (World.cell?_setCell_other _ _ _ _ (by simp)).trans h5⟩
theorem BdO.set3 {w : World} {b : Nat} {x : Bd} (h : BdO w b 0 x) (z : Int) : BdO (w.setCell ⟨b, 3, none⟩ (.int .i64 z)) b 0 { x with d := { x.d with sl := z } } := by
  obtain ⟨h0, h1, h2, h3, h4, h5⟩ := h
  exact ⟨(World.cell?_setCell_other _ _ _ _ (by simp)).trans h0, (World.cell?_setCell_other _ _ _ _ (by simp)).trans h1, (World.cell?_setCell_other _ _ _ _ (by simp)).trans h2, World.cell?_setCell_same _ _ _ h3, (World.cell?_setCell_other _ _ _ _ (by simp)).trans h4, (World.cell?_setCell_other _ _ _ _ (by simp)).trans h5⟩
theorem BdO.set4 {w : World} {b : Nat} {x : Bd} (h : BdO w b 0 x) (z : Int) : BdO (w.setCell ⟨b, 4, none⟩ (.int .i64 z)) b 0 { x with d := { x.d with li := z } } := by
  obtain ⟨h0, h1, h2, h3, h4, h5⟩ := h
  exact ⟨(World.cell?_setCell_other _ _ _ _ (by simp)).trans h0, (World.cell?_setCell_other _ _ _ _ (by simp)).trans h1, (World.cell?_setCell_other _ _ _ _ (by simp)).trans h2, (World.cell?_setCell_other _ _ _ _ (by simp)).trans h3, World.cell?_setCell_same _ _ _ h4, (World.cell?_setCell_other _ _ _ _ (by simp)).trans h5⟩
theorem BdO.set5 {w : World} {b : Nat} {x : Bd} (h : BdO w b 0 x) (zA : Option Addr) (zc : Nat) (z : List Int) : BdO (w.setCell ⟨b, 5, none⟩ (.slice zA z.length zc)) b 0 { x with d := { x.d with pr := z }, prA := zA, prc := zc } := by
  obtain ⟨h0, h1, h2, h3, h4, h5⟩ := h
  exact ⟨(World.cell?_setCell_other _ _ _ _ (by simp)).trans h0, (World.cell?_setCell_other _ _ _ _ (by simp)).trans h1, (World.cell?_setCell_other _ _ _ _ (by simp)).trans h2, (World.cell?_setCell_other _ _ _ _ (by simp)).trans h3, (World.cell?_setCell_other _ _ _ _ (by simp)).trans h4, World.cell?_setCell_same _ _ _ h5⟩
theorem BdO.setOther {w : World} {b o : Nat} {x : Bd} (h : BdO w b o x) (b' o' : Nat) (u : Value) (hne : b ≠ b') : BdO (w.setCell ⟨b', o', none⟩ u) b o x :=
  h.keep (Below.heap_setCell w ⟨b', o', none⟩ u b hne)
end Go.Proofs.Ytgdafgnjaogmeaa
