/-
  Marks in pipes and networks, written and found again.
-/
import Derived.Test.YtmopnkkpcgiafabDoorH6
import Derived.Test.YtmopnkkpcgiafabDoorM1
import Derived.Deep.RegionHeld3
namespace Go.Proofs.YtmopnkkpcgiafabDoor
open Go.ChangeShapes Go.WideShapes Go.ChangeAt Go.RowKit
set_option maxRecDepth 100000
set_option linter.unusedVariables false

/-- a pipe of six marks from K on -/
def markPp (K : Int) : Pp := ⟨mText K, K + 1, K + 1 + 1, K + 1 + 1 + 1, K + 1 + 1 + 1 + 1, K + 1 + 1 + 1 + 1 + 1⟩
/-- so many pipes of marks -/
def marksPp (k : Int) (n : Nat) : List Pp := (List.range n).map fun (i : Nat) => markPp (k + 6 * (i : Int))
theorem marksPp_length (k : Int) (n : Nat) : (marksPp k n).length = n := by simp [marksPp]
theorem marksPp_at (k : Int) (n i : Nat) (h : i < n) : (marksPp k n)[i]? = some (markPp (k + 6 * (i : Int))) := by simp [marksPp, h]

theorem grown_after {w a b : World} {row : Option Nat} (k : Below w.heap.size w a) (g : a.grownBy b row) : w.grownBy b row :=
  ⟨g.os.trans k.os, g.tape.trans k.tape, g.output.trans k.output, Nat.le_trans k.size g.size, fun i hi hne => (g.block i (Nat.lt_of_lt_of_le hi k.size) hne).trans (k.block i hi)⟩
theorem owns_apart {w : World} {base base' : Nat} {E E' : TypeId} {s s' : Nat} {A B : Option Addr} {n c m d : Nat} {xs ys : List Value} (hA : w.ownsRow base E s (.slice A n c) n xs) (hB : w.ownsRow base' E' s' (.slice B m d) m ys) (hE : E ≠ E') :
    Value.ownBlock (.slice B m d) = none ∨ Value.ownBlock (.slice B m d) ≠ Value.ownBlock (.slice A n c) := by
  rcases hB.2 with ⟨hv, _⟩ | ⟨g, cap, cur, hv, _, hg, _⟩
  · left
    rw [hv]; rfl
  · right
    rw [hv]
    rcases hA.2 with ⟨hv', _⟩ | ⟨g', cap', cur', hv', _, hg', _⟩
    · rw [hv']; simp [Value.ownBlock]
    · rw [hv']
      intro e
      have e : g = g' := by simpa [Value.ownBlock] using e
      subst e
      rw [hg] at hg'
      injection hg' with h1
      injection h1 with _ h2
      exact hE h2.symm
theorem NetAt.grown {w w' : World} {b : Nat} {A : Option Addr} {n c : Nat} {B : Option Addr} {m d : Nat} {row : Option Nat} (h : NetAt w b A n c B m d) (g : w.grownBy w' row) (hne : some b ≠ row) : NetAt w' b A n c B m d :=
  ⟨g.cell (a := ⟨b, 0, none⟩) h.1 hne, g.cell (a := ⟨b, 1, none⟩) h.2 hne⟩
theorem owns_not {w : World} {base : Nat} {E : TypeId} {s : Nat} {v : Value} {n : Nat} {xs : List Value} (h : w.ownsRow base E s v n xs) (b : Nat) (hb : w.heap.size ≤ b) : some b ≠ v.ownBlock := fun e => by
  have := (h.lt b e.symm).2
  omega
/-- what a call that writes into two slices of its own leaves: all else is as it was -/
def TwoGrown (w w' : World) (A B : Option Addr) (n c m d : Nat) : Prop := ∃ wm, w.grownBy wm (Value.ownBlock (.slice A n c)) ∧ wm.grownBy w' (Value.ownBlock (.slice B m d))
end Go.Proofs.YtmopnkkpcgiafabDoor
