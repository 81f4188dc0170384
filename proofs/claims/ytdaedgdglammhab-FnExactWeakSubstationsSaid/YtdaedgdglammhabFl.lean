/-
  Lists of things that take K cells each: their cells one behind the other. No program in sight.
-/
import Derived.Test.YtdaedgdglammhabM2
import Derived.Test.YtdaedgdglammhabH0
import Derived.Test.YtdaedgdglammhabGs
namespace Go.Proofs.Ytdaedgdglammhab
open Go.ChangeShapes Go.WideShapes Go.ChangeAt Go.RowKit
set_option linter.unusedVariables false
set_option linter.unusedSimpArgs false

/-- the cells of a list of things -/
def rowsF {α : Type} (cs : α → List Value) (xs : List α) : List Value := xs.flatMap cs
section
variable {α : Type} {cs : α → List Value} {K : Nat}
theorem rowsF_nil : rowsF cs [] = [] := rfl
theorem rowsF_cons (x : α) (xs : List α) : rowsF cs (x :: xs) = cs x ++ rowsF cs xs := rfl
theorem rowsF_append (xs ys : List α) : rowsF cs (xs ++ ys) = rowsF cs xs ++ rowsF cs ys := by unfold rowsF; rw [List.flatMap_append]
theorem rowsF_one (x : α) : rowsF cs [x] = cs x := by rw [rowsF_cons]; show cs x ++ [] = _; rw [List.append_nil]
theorem rowsF_length (hK : ∀ x, (cs x).length = K) (xs : List α) : (rowsF cs xs).length = xs.length * K := by
  induction xs with
  | nil => simp [rowsF]
  | cons p r ih => rw [rowsF_cons, List.length_append, ih, hK, List.length_cons, Nat.add_mul, Nat.one_mul, Nat.add_comm]
theorem rowsF_at (hK : ∀ x, (cs x).length = K) (xs : List α) : ∀ (k : Nat) (x : α), xs[k]? = some x → ∀ j, j < K → (rowsF cs xs)[k * K + j]? = (cs x)[j]? := by
  induction xs with
  | nil => intro k p h; simp at h
  | cons a r ih =>
    intro k p h j hj
    rw [rowsF_cons]
    cases k with
    | zero =>
      obtain rfl : a = p := by simpa using h
      rw [List.getElem?_append_left (by rw [hK, Nat.zero_mul, Nat.zero_add]; exact hj)]
      rw [Nat.zero_mul, Nat.zero_add]
    | succ k =>
      have e : (k + 1) * K + j = K + (k * K + j) := by rw [Nat.succ_mul]; omega
      rw [e, List.getElem?_append_right (by rw [hK]; omega), hK, Nat.add_sub_cancel_left]
      exact ih k p (by simpa using h) j hj
theorem rowsF_of (hK : ∀ x, (cs x).length = K) (h0 : 0 < K) (xs : List α) (f : Nat → Option Value) (h : ∀ k x, xs[k]? = some x → ∀ j, j < K → f (k * K + j) = (cs x)[j]?) : ∀ q, q < xs.length * K → f q = (rowsF cs xs)[q]? := by
  intro q hq
  have hk : q / K < xs.length := Nat.div_lt_of_lt_mul (by rw [Nat.mul_comm]; exact hq)
  have e := List.getElem?_eq_getElem hk
  have hm := Nat.mod_lt q h0
  have h1 := h (q / K) _ e (q % K) hm
  have h2 := rowsF_at hK xs (q / K) _ e (q % K) hm
  have e2 : q / K * K + q % K = q := by rw [Nat.mul_comm]; exact Nat.div_add_mod q K
  rw [e2] at h1 h2
  rw [h1, h2]
theorem rowsF_cells (hK : ∀ x, (cs x).length = K) (h0 : 0 < K) {w : World} {A : Option Addr} {xs : List α} (h : CellsAt w A (rowsF cs xs)) (hx : 0 < xs.length) :
    ∃ b off, A = some ⟨b, off, none⟩ ∧ ∀ k x, xs[k]? = some x → ∀ j, j < K → w.cell? ⟨b, off + k * K + j, none⟩ = (cs x)[j]? := by
  obtain ⟨b, off, rfl, hc⟩ := h (by rw [rowsF_length hK]; exact Nat.mul_pos hx h0)
  refine ⟨b, off, rfl, fun k x hk j hj => ?_⟩
  have hl : k < xs.length := (List.getElem?_eq_some_iff.1 hk).1
  have hm : (k + 1) * K ≤ xs.length * K := Nat.mul_le_mul_right K hl
  rw [Nat.succ_mul] at hm
  have := hc (k * K + j) (by rw [rowsF_length hK]; omega)
  rw [rowsF_at hK xs k x hk j hj, ← Nat.add_assoc] at this
  exact this
theorem rowsF_owned {w : World} {base : Nat} {E : TypeId} {A : Option Addr} {n c : Nat} {vs : List Value} (h : w.ownsRow base E K (.slice A n c) n vs) : CellsAt w A vs := by
  intro hp
  rcases h.2 with ⟨hv, hn⟩ | ⟨g, cap, cur, hv, _, hg, _⟩
  · have := h.1; rw [hn, Nat.zero_mul] at this; omega
  · injection hv with hA
    subst hA
    exact ⟨g, 0, rfl, fun j hj => by rw [Nat.zero_add]; exact h.cellAt j (by have := h.1; omega)⟩
theorem rowsF_below {w w' : World} {base : Nat} {E : TypeId} {A : Option Addr} {n c B : Nat} {vs : List Value} (h : w.ownsRow base E K (.slice A n c) n vs) (hb : Below B w w') (hB : w.heap.size ≤ B) : w'.ownsRow base E K (.slice A n c) n vs := by
  refine h.kept (row := none) ⟨hb.os, hb.tape, hb.output, hb.size, fun k hk _ => hb.block k (by omega)⟩ ?_
  cases A with
  | none => exact .inl rfl
  | some a => exact .inr (by simp [Value.ownBlock])
theorem rowsF_lies {w : World} {base : Nat} {E : TypeId} {A : Option Addr} {n c : Nat} {vs : List Value} (h : w.ownsRow base E K (.slice A n c) n vs) : LiesIn w.heap.size A := by
  rintro b off rfl
  exact (h.lt b rfl).2

/-- cells set one behind the other -/
def setsF : List Value → Nat → List Value → List Value
  | us, _, [] => us
  | us, o, v :: vs => setsF (us.set o v) (o + 1) vs
theorem setsF_at : ∀ (vs L R : List Value) (o : Nat), L.length = o → vs.length ≤ R.length → setsF (L ++ R) o vs = L ++ vs ++ R.drop vs.length
  | [], L, R, o, _, _ => by simp [setsF]
  | v :: vs, L, [], o, _, h => by simp at h
  | v :: vs, L, r :: R, o, hL, h => by
    unfold setsF
    have e : (L ++ r :: R).set o v = (L ++ [v]) ++ R := by subst hL; simp [List.set_append_right]
    rw [e, setsF_at vs (L ++ [v]) R (o + 1) (by simp [hL]) (by simpa using h)]
    simp
/-- the first ones are written, the rest is as it was -/
def fillF (cs : α → List Value) (K : Nat) (ys : List α) (us : List Value) : List Value := rowsF cs ys ++ us.drop (ys.length * K)
theorem fillF_nil (us : List Value) : fillF cs K [] us = us := by unfold fillF; simp [rowsF_nil]
theorem fillF_all (hK : ∀ x, (cs x).length = K) (ys : List α) (us : List Value) (h : us.length = ys.length * K) : fillF cs K ys us = rowsF cs ys := by
  unfold fillF; rw [List.drop_of_length_le (by omega), List.append_nil]
theorem fillF_length (hK : ∀ x, (cs x).length = K) (ys : List α) (us : List Value) (h : ys.length * K ≤ us.length) : (fillF cs K ys us).length = us.length := by
  unfold fillF; rw [List.length_append, rowsF_length hK, List.length_drop]; omega
theorem fillF_at (hK : ∀ x, (cs x).length = K) (ys : List α) (us : List Value) (h : ys.length * K + K ≤ us.length) : ∀ j, j < K → ∃ x, (fillF cs K ys us)[ys.length * K + j]? = some x := fun j hj =>
  ⟨_, List.getElem?_eq_getElem (by rw [fillF_length hK ys us (by omega)]; omega)⟩
theorem fillF_set (hK : ∀ x, (cs x).length = K) (ys : List α) (us : List Value) (x : α) (h : ys.length * K + K ≤ us.length) :
    setsF (fillF cs K ys us) (ys.length * K) (cs x) = fillF cs K (ys ++ [x]) us := by
  unfold fillF
  rw [setsF_at _ _ _ _ (rowsF_length hK ys) (by rw [hK, List.length_drop]; omega), rowsF_append, rowsF_one, hK, List.drop_drop, List.length_append, List.length_singleton, Nat.succ_mul]
end
/-- a row above a bound lies apart from a block below it -/
theorem apart_of {v u : Value} {lo hi : Nat} (h : ∀ b, v.ownBlock = some b → lo ≤ b) (k : ∀ b, u.ownBlock = some b → b < hi) (hl : hi ≤ lo) : v.ownBlock = none ∨ v.ownBlock ≠ u.ownBlock := by
  cases hv : v.ownBlock with
  | none => exact .inl rfl
  | some b =>
    refine .inr fun e => ?_
    have h1 := h b hv
    have h2 := k b e.symm
    omega
end Go.Proofs.Ytdaedgdglammhab
