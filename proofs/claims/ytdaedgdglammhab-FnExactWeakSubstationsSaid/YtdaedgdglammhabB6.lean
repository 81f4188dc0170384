/-
  A slice's numbers within two bounds; one number, whatever the bounds.
-/
import Derived.Test.YtdaedgdglammhabM2
import Derived.Test.YtdaedgdglammhabB1
namespace Go.Proofs.Ytdaedgdglammhab
open Go.ChangeShapes Go.WideShapes Go.ChangeAt Go.RowKit

theorem within64_none (lo hi : Int) (A : Option Addr) (cap : Nat) (w : World) :
    Calls Try.prog 75 #[.int .i64 lo, .int .i64 hi, .slice A 0 cap] w fun e w' => e = .returned (.bool true) ∧ w = w' := by
  go_enter Try.func75, Try.ntmps75
  go_wp2
  go_loop [11] (fun i => i = .int .i64 0) (fun _ => 0)
  case atStart => rfl
  case round =>
    obtain rfl := hrel
    go_wp2
    go_ret
    exact ⟨rfl, rfl⟩
theorem within64_cells (lo hi : Int) (A : Option Addr) (cap n : Nat) (zs : List Int) (w : World) (hn : zs.length = n) (hbig : n ≤ maxLen) (hc : CellsAt w A (intsV zs)) :
    Calls Try.prog 75 #[.int .i64 lo, .int .i64 hi, .slice A n cap] w fun e w' => e = .returned (.bool (allIn lo hi zs)) ∧ w = w' := by
  subst hn
  by_cases h0 : 0 < zs.length
  · obtain ⟨b, o, rfl, h1⟩ := hc (by rw [intsV_length]; exact h0)
    exact within64_any lo hi b o cap zs w (by unfold maxLen at hbig; omega) fun j hj => by rw [h1 j (by rw [intsV_length]; exact hj), intsV_at _ _ hj]; simp [List.getD, hj]
  · have e : zs = [] := List.length_eq_zero_iff.1 (by omega)
    subst e
    exact within64_none lo hi A cap w

theorem within64_free (lo hi a : Int) (b : Nat) (w : World) (hc : w.cell? ⟨b, 0, none⟩ = some (.int .i64 a)) :
    Calls Try.prog 75 #[.int .i64 lo, .int .i64 hi, .slice (some ⟨b, 0, none⟩) 1 1] w
      fun e w' => e = .returned (.bool (inB a lo hi)) ∧ w = w' := by
  have e := within64_any lo hi b 0 1 [a] w (by simp) (fun j hj => by
    match j, hj with
    | 0, _ => simpa using hc)
  rw [allIn_one] at e
  exact e
theorem one64Free (n : Nat) (lo hi a : Int) (w : World) (t : TypeId) (hn : n = w.heap.size) :
    Calls Try.prog 75 #[.int .i64 lo, .int .i64 hi, .slice (some ⟨n, 0, none⟩) 1 1] (w.alloc (.cells #[.int .i64 a] t))
      fun e w' => e = .returned (.bool (inB a lo hi)) ∧ Below w.heap.size w w' := by
  subst hn
  exact (within64_free lo hi a w.heap.size (w.alloc (.cells #[.int .i64 a] t)) (by simp)).mono fun _ _ ⟨he, hw⟩ => ⟨he, hw ▸ (Below.refl _ _).alloc (Nat.le_refl _) _⟩
theorem oneInt (n : Nat) (lo hi a : Int) (w : World) (t : TypeId) (hn : n = w.heap.size) (h : lo ≤ hi) :
    Calls Try.prog 89 #[.int .i64 lo, .int .i64 hi, .slice (some ⟨n, 0, none⟩) 1 1] (w.alloc (.cells #[.int .i64 a] t))
      fun e w' => e = .returned (.bool (inB a lo hi)) ∧ Below w.heap.size w w' := by
  subst hn
  exact (withinInt_one lo hi a w t h).mono fun _ _ ⟨he, hw⟩ => ⟨he, hw ▸ (Below.refl _ _).alloc (Nat.le_refl _) _⟩
end Go.Proofs.Ytdaedgdglammhab
