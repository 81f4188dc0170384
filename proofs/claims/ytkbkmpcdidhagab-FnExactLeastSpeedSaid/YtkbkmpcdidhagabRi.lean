/-
  A list in which each one stands so behind the one ahead of it. No program in sight.
-/
import Derived.Test.YtkbkmpcdidhagabGs
namespace Go.Proofs.Ytkbkmpcdidhagab
open Go.ChangeShapes Go.WideShapes Go.ChangeAt Go.RowKit

/-- the i-th one stands so behind the one ahead of it -/
def riseByAt {α : Type} (r : α → α → Bool) (xs : List α) (i : Nat) : Bool := match xs[i - 1]?, xs[i]? with
  | some p, some q => i == 0 || r p q
  | _, _ => true
def riseBy {α : Type} (r : α → α → Bool) (xs : List α) (k : Nat) : Bool := (List.range k).all (riseByAt r xs)
section
variable {α : Type}
theorem riseBy_succ (r : α → α → Bool) (xs : List α) (k : Nat) : riseBy r xs (k + 1) = (riseBy r xs k && riseByAt r xs k) := by
  unfold riseBy
  rw [List.range_succ, List.all_append]
  simp
theorem riseBy_false (r : α → α → Bool) (xs : List α) (k n : Nat) (h : k < n) (hf : riseByAt r xs k = false) : riseBy r xs n = false := by
  unfold riseBy
  rw [List.all_eq_false]
  exact ⟨k, List.mem_range.2 h, by simp [hf]⟩
theorem riseByAt_zero (r : α → α → Bool) (xs : List α) : riseByAt r xs 0 = true := by
  unfold riseByAt
  split <;> rfl
theorem riseByAt_at (r : α → α → Bool) (xs : List α) (k : Nat) (p q : α) (hp : xs[k]? = some p) (hq : xs[k + 1]? = some q) : riseByAt r xs (k + 1) = r p q := by
  unfold riseByAt
  rw [Nat.add_sub_cancel, hp, hq]
  simp
theorem riseBy_zero (r : α → α → Bool) (xs : List α) : riseBy r xs 0 = true := rfl
theorem riseBy_one (r : α → α → Bool) (xs : List α) : riseBy r xs 1 = true := by
  unfold riseBy
  simp [riseByAt_zero]
theorem riseByAt_and (r s : α → α → Bool) (xs : List α) (i : Nat) : riseByAt (fun a b => r a b && s a b) xs i = (riseByAt r xs i && riseByAt s xs i) := by
  unfold riseByAt
  split
  · cases hi : (i == 0) <;> simp
  · rfl
theorem riseBy_and (r s : α → α → Bool) (xs : List α) (k : Nat) : riseBy (fun a b => r a b && s a b) xs k = (riseBy r xs k && riseBy s xs k) := by
  induction k with
  | zero => rfl
  | succ k ih => rw [riseBy_succ, riseBy_succ, riseBy_succ, ih, riseByAt_and]; cases riseBy r xs k <;> cases riseBy s xs k <;> simp
theorem riseBy_get {r : α → α → Bool} {xs : List α} {n : Nat} (h : riseBy r xs n = true) (k : Nat) (hk : k + 1 < n) (p q : α) (hp : xs[k]? = some p) (hq : xs[k + 1]? = some q) : r p q = true := by
  unfold riseBy at h
  rw [List.all_eq_true] at h
  have := h (k + 1) (List.mem_range.2 hk)
  rw [riseByAt_at r xs k p q hp hq] at this
  exact this
theorem riseBy_of {r : α → α → Bool} {xs : List α} {n : Nat} (h : ∀ j p q, xs[j]? = some p → xs[j + 1]? = some q → r p q = true) : riseBy r xs n = true := by
  unfold riseBy
  rw [List.all_eq_true]
  intro i _
  cases i with
  | zero => exact riseByAt_zero r xs
  | succ j =>
    unfold riseByAt
    split
    · next p q hp hq => rw [Nat.add_sub_cancel] at hp; simp [h j p q hp hq]
    · rfl
theorem riseBy_all {r : α → α → Bool} (ht : ∀ a b c, r a b = true → r b c = true → r a c = true) {xs : List α} (h : riseBy r xs xs.length = true) : xs.Pairwise (fun a b => r a b = true) := by
  rw [List.pairwise_iff_getElem]
  intro i j hi hj hij
  obtain ⟨d, rfl⟩ : ∃ d, j = i + 1 + d := ⟨j - i - 1, by omega⟩
  clear hij
  induction d with
  | zero => exact riseBy_get h i (by omega) _ _ (List.getElem?_eq_getElem hi) (List.getElem?_eq_getElem hj)
  | succ d ih =>
    have h1 := ih (by omega)
    have h2 := riseBy_get h (i + 1 + d) (by omega) _ _ (List.getElem?_eq_getElem (by omega)) (List.getElem?_eq_getElem (by omega))
    exact ht _ _ _ h1 h2
end
end Go.Proofs.Ytkbkmpcdidhagab
