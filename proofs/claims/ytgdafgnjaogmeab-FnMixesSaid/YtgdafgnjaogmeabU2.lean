/-
  The draws of FnWater: numbers within bounds.
-/
import Derived.Test.YtgdafgnjaogmeabU1
namespace Go.Proofs.Ytgdafgnjaogmeab
open Go.ChangeShapes Go.WideShapes Go.ChangeAt Go.RowKit
set_option maxRecDepth 100000

theorem fromUp_any (A : Option Addr) (n c : Nat) (zs : List Int) (w : World) (h : SliceIn .u8 w A n zs) :
    Calls Try.prog 75 #[.slice A n c] w fun e w' => ∃ b : Nat, e = .returned (.pointer (some ⟨b, 0, none⟩)) ∧ w.heap.size ≤ b ∧ SrcUp w'.heap.size w' b 0 ∧ Below w.heap.size w w' :=
  (fromOf_any A n c zs w h).mono fun _ _ ⟨b, he, hb, hs, hw⟩ => ⟨b, he, hb, ⟨0, Int.le_refl _, hs⟩, hw⟩
/-- what is built on a new source leaves older memory as it was -/
theorem draws_below {w a c : World} {b : Nat} (h1 : Below w.heap.size w a) (hb : w.heap.size ≤ b) (hg : a.grownBy c (some b)) : Below w.heap.size w c :=
  h1.grown hg h1.size fun k hk => by
    have : k = b := by simpa using hk.symm
    omega
theorem half_low (a : Int) (h : -1 ≤ a) : -1 ≤ a.tdiv 2 := by
  by_cases h0 : 0 ≤ a
  · have := Int.tdiv_nonneg h0 (by omega : (0 : Int) ≤ 2)
    omega
  · have : a = -1 := by omega
    subst this
    decide
end Go.Proofs.Ytgdafgnjaogmeab
