/-
  Powers between readings: both sides.
-/
import Derived.Test.YthidaoemonjemacDoorMa0
import Derived.Test.YthidaoemonjemacDoorA2
import Derived.Test.YthidaoemonjemacDoorA4
import Derived.Test.YthidaoemonjemacDoorGs
import Derived.Deep.RegionHeld3
import Derived.Test.YthidaoemonjemacDoorQu
import Derived.Test.YthidaoemonjemacDoorTw
import Derived.IntWalk
import Derived.Deep.DeepCutAuto
namespace Go.Proofs.YthidaoemonjemacDoor
open Go.ChangeShapes Go.WideShapes Go.ChangeAt Go.RowKit

set_option maxRecDepth 100000
set_option linter.unusedVariables false

def rgAt (xs : List Rg) (i : Nat) : Rg := xs.getD i default
theorem rgAt_get {xs : List Rg} {i : Nat} {x : Rg} (h : xs[i]? = some x) : rgAt xs i = x := by unfold rgAt; rw [List.getD, h]; rfl
theorem rgAt_some (xs : List Rg) (i : Nat) (h : i < xs.length) : xs[i]? = some (rgAt xs i) := by
  rw [rgAt_get (List.getElem?_eq_getElem h)]; exact List.getElem?_eq_getElem h
/-- the power of the i-th pair -/
def pwI (xs : List Rg) (i : Nat) : Int := nearI ((rgAt xs (i + 1)).c - (rgAt xs i).c) ((rgAt xs (i + 1)).h - (rgAt xs i).h)
def powTo (xs : List Rg) (k : Nat) : List Int := (List.range k).map (pwI xs)
def powI (xs : List Rg) : List Int := powTo xs (xs.length - 1)
theorem powTo_succ (xs : List Rg) (k : Nat) : powTo xs (k + 1) = powTo xs k ++ [pwI xs k] := by unfold powTo; rw [List.range_succ, List.map_append]; rfl
theorem powTo_length (xs : List Rg) (k : Nat) : (powTo xs k).length = k := by simp [powTo]
theorem powI_length (xs : List Rg) : (powI xs).length = xs.length - 1 := powTo_length _ _
theorem powI_at (xs : List Rg) (i : Nat) (h : i < xs.length - 1) : (powI xs)[i]? = some (pwI xs i) := by simp [powI, powTo, h]
/-- what is known of a reading of valid ones -/
theorem okRs_one {xs : List Rg} (h : okRs xs = true) (i : Nat) (hi : i < xs.length) : 0 ≤ (rgAt xs i).h ∧ (rgAt xs i).h ≤ 100000 ∧ 0 ≤ (rgAt xs i).c ∧ (rgAt xs i).c ≤ 1000000000 := by
  obtain ⟨-, h2, -⟩ := okRs_parts h
  have := List.all_eq_true.1 h2 _ (List.mem_of_getElem? (rgAt_some xs i hi))
  unfold Rg.ok at this
  simp only [Bool.and_eq_true, inB_iff] at this
  omega
theorem okRs_two {xs : List Rg} (h : okRs xs = true) (i : Nat) (hi : i + 1 < xs.length) : (rgAt xs i).h < (rgAt xs (i + 1)).h ∧ (rgAt xs i).c ≤ (rgAt xs (i + 1)).c := by
  obtain ⟨-, -, h3⟩ := okRs_parts h
  have := riseBy_get h3 i hi _ _ (rgAt_some xs i (by omega)) (rgAt_some xs (i + 1) hi)
  unfold rgUp hUp cUp at this
  simp only [Bool.and_eq_true, decide_eq_true_eq] at this
  exact this
def powersOfX (xs : List Rg) : List Int := if okRs xs = true then powI xs else []
def powersOfC (xs : List Rg) : Int := if okRs xs = true then 0 else 1
theorem pwI_bd {xs : List Rg} (h : okRs xs = true) (i : Nat) (hi : i + 1 < xs.length) : -1000000001 ≤ pwI xs i ∧ pwI xs i ≤ 1000000001 := by
  have h1 := okRs_one h i (by omega)
  have h2 := okRs_one h (i + 1) hi
  have h3 := okRs_two h i hi
  exact nearI_bd _ _ 1000000000 (by omega) (by omega) (by omega)
/-- a call that returns a meter: its readings, its powers -/
def RetM (A : Option Addr) (n c : Nat) (xs : List Rg) (w : World) (e : Ending) (w' : World) : Prop :=
  (okRs xs = true ∧ ∃ T td, e = .returned (.tuple #[.agg #[.slice A n c, .slice T (powI xs).length td], .int .i64 0]) ∧ w'.ownsRow w.heap.size 2 1 (.slice T (powI xs).length td) (powI xs).length (intsV (powI xs)) ∧ Below w.heap.size w w') ∨
  (okRs xs = false ∧ e = .returned (.tuple #[.agg #[.slice none 0 0, .slice none 0 0], .int .i64 1]) ∧ Below w.heap.size w w')
theorem rg_pair (w : World) (x y : Rg) (T : TypeId) : RgO ((w.alloc (.cells #[.int .i64 x.h, .int .i64 x.c] T)).alloc (.cells #[.int .i64 y.h, .int .i64 y.c] T)).drew w.heap.size 0 x ∧ RgO ((w.alloc (.cells #[.int .i64 x.h, .int .i64 x.c] T)).alloc (.cells #[.int .i64 y.h, .int .i64 y.c] T)).drew (w.heap.size + 1) 0 y ∧ Below w.heap.size w ((w.alloc (.cells #[.int .i64 x.h, .int .i64 x.c] T)).alloc (.cells #[.int .i64 y.h, .int .i64 y.c] T)).drew := by
  have hb1 : Below w.heap.size w (w.alloc (.cells #[.int .i64 x.h, .int .i64 x.c] T)) := bal (Below.refl _ _) _
  have h1 := (RgO.new w x T).alloc (.cells #[.int .i64 y.h, .int .i64 y.c] T)
  have h2 := RgO.new (w.alloc (.cells #[.int .i64 x.h, .int .i64 x.c] T)) y T
  rw [World.size_alloc] at h2
  exact ⟨h1.next (below_drewN (Below.refl _ _) 1), h2.next (below_drewN (Below.refl _ _) 1), below_drewN (bal hb1 _) 1⟩
theorem powersOfX_short (xs : List Rg) : (powersOfX xs).length ≤ 1048576 := by
  unfold powersOfX
  split
  · next h => rw [powI_length]; have := (okRs_parts h).1; omega
  · simp
end Go.Proofs.YthidaoemonjemacDoor
