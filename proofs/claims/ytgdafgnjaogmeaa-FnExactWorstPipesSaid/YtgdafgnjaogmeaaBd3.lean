import Derived.Test.YtgdafgnjaogmeaaBd2
/-
  The laws' own helpers over lists of Building: how great one is, a copy, whether two are the same; marks.
-/
namespace Go.Proofs.Ytgdafgnjaogmeaa
open Go.ChangeShapes Go.WideShapes Go.ChangeAt Go.RowKit
set_option maxRecDepth 100000
set_option linter.unusedVariables false

/-- how much is left: none, or all lists are short -/
def SzBds (n : Nat) (xs : List Bd) (m : Int) (w : World) (e : Ending) (w' : World) : Prop := ∃ r : Int, e = .returned (.int .i64 r) ∧ (r = -1 ∨ (0 ≤ r ∧ r ≤ m ∧ n ≤ 1048576 ∧ ∀ x ∈ xs, x.d.pr.length ≤ 1048576)) ∧ Below w.heap.size w w'
/-- the block of the list of one -/
def Bd.blk (y : Bd) : Option Nat := Value.ownBlock (.slice y.prA y.d.pr.length y.prc)
/-- each has a list of its own between two bounds, one behind the other -/
def OwnBds (w : World) (lo hi : Nat) (ys : List Bd) : Prop :=
  (∀ y ∈ ys, w.ownsRow lo 2 1 (.slice y.prA y.d.pr.length y.prc) y.d.pr.length (intsV y.d.pr) ∧ ∀ b, y.blk = some b → b < hi) ∧ ys.Pairwise (fun y z => ∀ a b, y.blk = some a → z.blk = some b → a < b)
theorem OwnBds.nil (w : World) (lo hi : Nat) : OwnBds w lo hi [] := ⟨fun _ h => (by cases h), List.Pairwise.nil⟩
theorem OwnBds.go {w w' : World} {lo hi : Nat} {ys : List Bd} (h : OwnBds w lo hi ys) (hb : Below w.heap.size w w') : OwnBds w' lo hi ys :=
  ⟨fun y hy => ⟨owns_below (h.1 y hy).1 hb (Nat.le_refl _), (h.1 y hy).2⟩, h.2⟩
theorem OwnBds.set {w : World} {lo hi : Nat} {ys : List Bd} (h : OwnBds w lo hi ys) {a : Addr} (ha : a.block < lo) (u : Value) : OwnBds (w.setCell a u) lo hi ys :=
  ⟨fun y hy => ⟨owns_set_low (h.1 y hy).1 ha u, (h.1 y hy).2⟩, h.2⟩
theorem OwnBds.more {w : World} {lo hi hi' : Nat} {ys : List Bd} (h : OwnBds w lo hi ys) (hh : hi ≤ hi') : OwnBds w lo hi' ys :=
  ⟨fun y hy => ⟨(h.1 y hy).1, fun b hb => Nat.lt_of_lt_of_le ((h.1 y hy).2 b hb) hh⟩, h.2⟩
theorem OwnBds.snoc {w : World} {lo hi : Nat} {ys : List Bd} {y : Bd} {base hi' : Nat} (h : OwnBds w lo hi ys) (hy : w.ownsRow base 2 1 (.slice y.prA y.d.pr.length y.prc) y.d.pr.length (intsV y.d.pr)) (hlo : lo ≤ base) (hhi : hi ≤ base) (hh : w.heap.size ≤ hi') (hh2 : hi ≤ hi') : OwnBds w lo hi' (ys ++ [y]) := by
  refine ⟨fun z hz => ?_, ?_⟩
  · rcases List.mem_append.1 hz with hz | hz
    · exact ⟨(h.1 z hz).1, fun b hb => Nat.lt_of_lt_of_le ((h.1 z hz).2 b hb) hh2⟩
    · obtain rfl : z = y := by simpa using hz
      exact ⟨owns_base hy hlo, fun b hb => Nat.lt_of_lt_of_le (hy.lt b hb).2 hh⟩
  · refine List.pairwise_append.2 ⟨h.2, List.pairwise_singleton _ _, fun a ha z hz p q hp hq => ?_⟩
    obtain rfl : z = y := by simpa using hz
    have h1 := (h.1 a ha).2 p hp
    have h2 := (hy.lt q hq).1
    omega
theorem OwnBds.fine {w : World} {lo hi : Nat} {ys : List Bd} {xs : List Bd} {w0 : World} (h : OwnBds w lo hi ys) (hd : ys.map Bd.d = xs.map Bd.d) (hx : ∀ x ∈ xs, x.fine w0) : ∀ y ∈ ys, y.fine w := by
  intro y hy
  have hm : y.d ∈ xs.map Bd.d := by rw [← hd]; exact List.mem_map.2 ⟨y, hy, rfl⟩
  obtain ⟨x, hx1, hx2⟩ := List.mem_map.1 hm
  obtain ⟨f1, f2⟩ := hx x hx1
  refine ⟨by rw [← hx2]; exact f1, by rfl, owns_max (h.1 y hy).1, owns_cells (h.1 y hy).1, ?_⟩
  rw [← hx2]
  exact f2.2.2.2

/-- the first ones are written, the rest is as it was -/
def fillBd (ys : List Bd) (us : List Value) : List Value := rowsBd ys ++ us.drop (ys.length * 6)
theorem fillBd_nil (us : List Value) : fillBd [] us = us := by unfold fillBd; simp [rowsBd_nil]
theorem fillBd_all (ys : List Bd) (us : List Value) (h : us.length = ys.length * 6) : fillBd ys us = rowsBd ys := by
  unfold fillBd; rw [List.drop_of_length_le (by omega), List.append_nil]
theorem setKBd (L R : List Value) (k : Nat) (h : L.length = k) (x0 x1 x2 x3 x4 x5 c0 c1 c2 c3 c4 c5 : Value) :
    (((((((L ++ x0 :: x1 :: x2 :: x3 :: x4 :: x5 :: R).set (k) c0).set (k + 1) c1).set (k + 2) c2).set (k + 3) c3).set (k + 4) c4).set (k + 5) c5) = L ++ [c0, c1, c2, c3, c4, c5] ++ R := by
  subst h
  simp [List.set_append_right]
theorem dropKBd (us : List Value) (k : Nat) (h : k + 6 ≤ us.length) : ∃ x0 x1 x2 x3 x4 x5, us.drop k = x0 :: x1 :: x2 :: x3 :: x4 :: x5 :: us.drop (k + 6) := by
  refine ⟨us[k], us[k + 1], us[k + 2], us[k + 3], us[k + 4], us[k + 5], ?_⟩
  rw [List.drop_eq_getElem_cons (by omega), List.drop_eq_getElem_cons (by omega), List.drop_eq_getElem_cons (by omega), List.drop_eq_getElem_cons (by omega), List.drop_eq_getElem_cons (by omega), List.drop_eq_getElem_cons (by omega)]
theorem fillBd_set (ys : List Bd) (us : List Value) (x : Bd) (h : ys.length * 6 + 6 ≤ us.length) :
    (((((((fillBd ys us).set (ys.length * 6) (.string x.d.id)).set (ys.length * 6 + 1) (.int .i64 x.d.nd)).set (ys.length * 6 + 2) (.int .i64 x.d.ba)).set (ys.length * 6 + 3) (.int .i64 x.d.sl)).set (ys.length * 6 + 4) (.int .i64 x.d.li)).set (ys.length * 6 + 5) (.slice x.prA x.d.pr.length x.prc)) = fillBd (ys ++ [x]) us := by
  obtain ⟨x0, x1, x2, x3, x4, x5, e⟩ := dropKBd us (ys.length * 6) h
  unfold fillBd
  rw [e, setKBd _ _ _ (rowsBd_length ys), rowsBd_append, rowsBd_one, List.length_append, List.length_singleton, show (ys.length + 1) * 6 = ys.length * 6 + 6 by omega]
  rfl
theorem fillBd_at (ys : List Bd) (us : List Value) (h : ys.length * 6 + 6 ≤ us.length) : ∀ j, j < 6 → ∃ x, (fillBd ys us)[ys.length * 6 + j]? = some x := fun j hj =>
  ⟨_, List.getElem?_eq_getElem (by unfold fillBd; rw [List.length_append, rowsBd_length, List.length_drop]; omega)⟩

end Go.Proofs.Ytgdafgnjaogmeaa
