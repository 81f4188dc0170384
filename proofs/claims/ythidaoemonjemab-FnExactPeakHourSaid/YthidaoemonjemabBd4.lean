/-
  Copies of Building as the exact laws use them.
-/
import Derived.Test.YthidaoemonjemabBd3
namespace Go.Proofs.Ythidaoemonjemab
open Go.ChangeShapes Go.WideShapes Go.ChangeAt Go.RowKit
set_option linter.unusedVariables false

/-- a slice of them that can be read, all of it of a length -/
def BdsOk (w : World) (A : Option Addr) (n : Nat) (xs : List Bd) : Prop := BdsIn w A n xs ∧ n ≤ 1048576 ∧ ∀ x ∈ xs, x.d.pr.length ≤ 1048576
theorem BdsOk.go {w w' : World} {A : Option Addr} {n : Nat} {xs : List Bd} (h : BdsOk w A n xs) (hb : Below w.heap.size w w') : BdsOk w' A n xs := ⟨h.1.go hb, h.2⟩
theorem BdsOk.short {w : World} {A : Option Addr} {n : Nat} {xs : List Bd} (h : BdsOk w A n xs) : xs.length ≤ 1048576 := by rw [h.1.1]; exact h.2.1
theorem BdsOk.cells {w : World} {A : Option Addr} {n : Nat} {xs : List Bd} (h : BdsOk w A n xs) : CellsAt w A (rowsBd xs) := h.1.2.2.1
theorem pcells_ofBd {w : World} {base : Nat} {E : TypeId} {A : Option Addr} {n c : Nat} {vs : List Value} (h : w.ownsRow base E 6 (.slice A n c) n vs) : CellsAt w A vs := by
  intro hp
  rcases h.2 with ⟨hv, hn⟩ | ⟨g, cap, cur, hv, _, hg, _⟩
  · have := h.1; omega
  · injection hv with hA
    subst hA
    exact ⟨g, 0, rfl, fun j hj => by rw [Nat.zero_add]; exact h.cellAt j (by have := h.1; omega)⟩
theorem copyBds (A : Option Addr) (n c : Nat) (xs : List Bd) (w : World) (h : BdsOk w A n xs) :
    Calls Try.prog 13 #[.slice A n c] w fun e w' => ∃ A' c' ys, e = .returned (.slice A' n c') ∧ ys.map Bd.d = xs.map Bd.d ∧ BdsOk w' A' n ys ∧ Below w.heap.size w w' := by
  obtain ⟨hI, hn, hs⟩ := h
  have hl := hI.1
  refine (toBds_any A n c xs w hn hI hs).mono ?_
  rintro e w' ⟨A', c', ys, lo, rfl, hd, ho, -, -, how, hb⟩
  rw [hl] at ho
  have hly : ys.length = n := by have := congrArg List.length hd; simp at this; omega
  refine ⟨A', c', ys, by rw [hl], hd, ⟨⟨hly, hI.2.1, pcells_ofBd ho, how.fine hd hI.2.2.2⟩, hn, fun y hy => ?_⟩, hb⟩
  have hm : y.d ∈ xs.map Bd.d := by rw [← hd]; exact List.mem_map.2 ⟨y, hy, rfl⟩
  obtain ⟨x, hx1, hx2⟩ := List.mem_map.1 hm
  rw [← hx2]
  exact hs x hx1
theorem sameBds (A B : Option Addr) (n c d : Nat) (xs ys : List Bd) (w : World) (hd : xs.map Bd.d = ys.map Bd.d) (hx : BdsOk w A n xs) (hy : BdsOk w B n ys) :
    Calls Try.prog 16 #[.slice A n c, .slice B n d] w fun e w' => e = .returned (.bool true) ∧ Below w.heap.size w w' :=
  eqBds_same A B c d xs ys n w hx.1.2.1 hx.1.1 hd hx.cells hy.cells hx.1.2.2.2 hy.1.2.2.2
theorem copyBd (x : Bd) (w : World) (h : x.okay w) :
    Calls Try.prog 43 #[.agg #[.string x.d.id, .int .i64 x.d.nd, .int .i64 x.d.ba, .int .i64 x.d.sl, .int .i64 x.d.li, .slice x.prA x.d.pr.length x.prc]] w fun e w' => ∃ y : Bd, y.d = x.d ∧ e = .returned (.agg #[.string y.d.id, .int .i64 y.d.nd, .int .i64 y.d.ba, .int .i64 y.d.sl, .int .i64 y.d.li, .slice y.prA y.d.pr.length y.prc]) ∧ y.okay w' ∧ Below w.heap.size w w' := by
  refine (toBd_any x w h.1 h.2).mono ?_
  rintro e w' ⟨y, hd, rfl, o, hb⟩
  exact ⟨y, hd, rfl, ⟨⟨by rw [hd]; exact h.1.1, rfl, owns_max o, owns_cells o, by rw [hd]; exact h.1.2.2.2.2⟩, by rw [hd]; exact h.2⟩, hb⟩
end Go.Proofs.Ythidaoemonjemab
