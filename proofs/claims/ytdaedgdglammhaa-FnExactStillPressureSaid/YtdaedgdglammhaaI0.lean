/-
  What an exact law on networks keeps while it marks: slices apart from those that are written stay as they were.
-/
import Derived.Test.YtdaedgdglammhaaGs
import Derived.Test.YtdaedgdglammhaaH9
namespace Go.Proofs.Ytdaedgdglammhaa
open Go.ChangeShapes Go.WideShapes Go.ChangeAt Go.RowKit
set_option linter.unusedVariables false

theorem NetAt.keep {w w' : World} {b : Nat} {A : Option Addr} {n c : Nat} {B : Option Addr} {m d : Nat} (h : NetAt w b A n c B m d) (k : w'.heap[b]? = w.heap[b]?) : NetAt w' b A n c B m d :=
  ⟨(World.cell?_of_block (a := ⟨b, 0, none⟩) k).trans h.1, (World.cell?_of_block (a := ⟨b, 1, none⟩) k).trans h.2⟩
theorem owns_lies6 {w : World} {base : Nat} {E : TypeId} {A : Option Addr} {n c : Nat} {vs : List Value} (h : w.ownsRow base E 6 (.slice A n c) n vs) : LiesIn w.heap.size A := by
  rintro b off rfl
  exact (h.lt b rfl).2
/-- what stays while two slices of the law's own are written -/
theorem two_keeps {w0 w w' : World} {A B : Option Addr} {n c m d : Nat} {base lo : Nat} {E E' : TypeId} {xs ys : List Value} (hT : TwoGrown w w' A B n c m d) (hA : w.ownsRow base E 1 (.slice A n c) n xs) (hB : w.ownsRow base E' 6 (.slice B m d) m ys) (lA : LiesIn lo A) (lB : LiesIn lo B) :
    (∀ b, b < base → b < w.heap.size → w'.heap[b]? = w.heap[b]?) ∧ (∀ b, lo ≤ b → b < w.heap.size → w'.heap[b]? = w.heap[b]?) ∧ (∀ B0, B0 ≤ base → B0 ≤ w.heap.size → Below B0 w0 w → Below B0 w0 w') ∧ w.heap.size ≤ w'.heap.size := by
  obtain ⟨wm, g1, g2⟩ := hT
  have hall : ∀ b, b < w.heap.size → some b ≠ (Value.slice A n c).ownBlock → some b ≠ (Value.slice B m d).ownBlock → w'.heap[b]? = w.heap[b]? := fun b hb h1 h2 =>
    (g2.block b (Nat.lt_of_lt_of_le hb g1.size) h2).trans (g1.block b hb h1)
  refine ⟨fun b h1 h2 => hall b h2 (fun e => ?_) (fun e => ?_), fun b h1 h2 => hall b h2 (fun e => ?_) (fun e => ?_), fun B0 h1 h2 hb => ?_, Nat.le_trans g1.size g2.size⟩
  · have := (hA.lt b e.symm).1; omega
  · have := (hB.lt b e.symm).1; omega
  · have := lies_own hA lA b e.symm; omega
  · have := lies_own hB lB b e.symm; omega
  · exact (hb.grown g1 h2 (fun k hk => Nat.le_trans h1 (hA.lt k hk).1)).grown g2 (Nat.le_trans h2 g1.size) (fun k hk => Nat.le_trans h1 (hB.lt k hk).1)
end Go.Proofs.Ytdaedgdglammhaa
