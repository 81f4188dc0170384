import Derived.Test.YtgdafgnjaogmeaaBd3
import Derived.Test.YtgdafgnjaogmeaaGs
import Derived.Test.YtgdafgnjaogmeaaW3
/-
  Copies of Building as the exact laws use them.
-/
namespace Go.Proofs.Ytgdafgnjaogmeaa
open Go.ChangeShapes Go.WideShapes Go.ChangeAt Go.RowKit
set_option linter.unusedVariables false

/-- a slice of them that can be read, all of it of a length -/
def BdsOk (w : World) (A : Option Addr) (n : Nat) (xs : List Bd) : Prop := BdsIn w A n xs ∧ n ≤ 1048576 ∧ ∀ x ∈ xs, x.d.pr.length ≤ 1048576
theorem BdsOk.go {w w' : World} {A : Option Addr} {n : Nat} {xs : List Bd} (h : BdsOk w A n xs) (hb : Below w.heap.size w w') : BdsOk w' A n xs := ⟨h.1.go hb, h.2⟩
theorem BdsOk.short {w : World} {A : Option Addr} {n : Nat} {xs : List Bd} (h : BdsOk w A n xs) : xs.length ≤ 1048576 := by rw [h.1.1]; exact h.2.1
theorem BdsOk.cells {w : World} {A : Option Addr} {n : Nat} {xs : List Bd} (h : BdsOk w A n xs) : CellsAt w A (rowsBd xs) := h.1.2.2.1
theorem pcells_ofBd {w : World} {base : Nat} {E : TypeId} {A : Option Addr} {n c : Nat} {vs : List Value} (h : w.ownsRow base E 6 (.slice A n c) n vs) : CellsAt w A vs := by
  intro hp
  rcases h.2 with ⟨hv, hn⟩ | ⟨g, cap, cur, hv, _, hg, _⟩
  · have := h.1; omega
  · injection hv with hA
    subst hA
    exact ⟨g, 0, rfl, fun j hj => by rw [Nat.zero_add]; exact h.cellAt j (by have := h.1; omega)⟩
end Go.Proofs.Ytgdafgnjaogmeaa

/-
  Keys that rise, each behind the one ahead of it. No program in sight.
-/
namespace Go.Proofs.Ytgdafgnjaogmeaa
open Go.ChangeShapes Go.WideShapes Go.ChangeAt Go.RowKit


/-- the i-th key stands behind the one ahead of it -/
def riseKAt (ks : List ByteArray) (i : Nat) : Bool := match ks[i - 1]?, ks[i]? with
  | some p, some q => i == 0 || idLt p q
  | _, _ => true
def riseK (ks : List ByteArray) (k : Nat) : Bool := (List.range k).all (riseKAt ks)
theorem riseK_succ (ks : List ByteArray) (k : Nat) : riseK ks (k + 1) = (riseK ks k && riseKAt ks k) := by
  unfold riseK
  rw [List.range_succ, List.all_append]
  simp
theorem riseK_false (ks : List ByteArray) (k n : Nat) (h : k < n) (hf : riseKAt ks k = false) : riseK ks n = false := by
  unfold riseK
  rw [List.all_eq_false]
  exact ⟨k, List.mem_range.2 h, by simp [hf]⟩
theorem riseKAt_zero (ks : List ByteArray) : riseKAt ks 0 = true := by
  unfold riseKAt
  split <;> rfl
theorem riseKAt_at (ks : List ByteArray) (k : Nat) (p q : ByteArray) (hp : ks[k]? = some p) (hq : ks[k + 1]? = some q) : riseKAt ks (k + 1) = idLt p q := by
  unfold riseKAt
  rw [Nat.add_sub_cancel, hp, hq]
  simp
theorem riseK_one (ks : List ByteArray) : riseK ks 1 = true := by
  unfold riseK
  simp [riseKAt_zero]
end Go.Proofs.Ytgdafgnjaogmeaa

/-
  Chapter 5: a quotient that is rounded up; WaterFor of both sides.
-/
namespace Go.Proofs.Ytgdafgnjaogmeaa
open Go.ChangeShapes Go.WideShapes Go.ChangeAt Go.RowKit


def flowI (l d : Int) : Int := (l * 100000 + 4186 * d - 1) / (4186 * d)
theorem flow_bd (l d : Int) (l0 : 0 ≤ l) (l1 : l ≤ 100000000) (d0 : 1 ≤ d) (d1 : d ≤ 25000) : 0 ≤ flowI l d ∧ flowI l d ≤ 10000104650000 := by
  unfold flowI
  have := div_bd (l * 100000 + 4186 * d - 1) (4186 * d) (by omega) (by omega)
  omega
def wfB (l a b : Int) : Bool := inB l 0 100000000 && inB a (-5000) 20000 && inB b (-5000) 20000
def wfV (l a b : Int) : Int := if wfB l a b && !decide (a ≤ b) && decide (flowI l (a - b) ≤ 100000) then flowI l (a - b) else 0
def wfC (l a b : Int) : Int := if wfB l a b then (if a ≤ b then 6 else if flowI l (a - b) ≤ 100000 then 0 else 3) else 2

end Go.Proofs.Ytgdafgnjaogmeaa
