/-
  Pipes as lists: their cells in memory, six each; slices of pipes. No program in sight but the word of a slice's cells.
-/
import Derived.Test.YtdaedgdglammhabM2
import Derived.Test.YtdaedgdglammhabP2
import Derived.Deep.MidRow
namespace Go.Proofs.Ytdaedgdglammhab
open Go.ChangeShapes Go.WideShapes Go.ChangeAt Go.RowKit

/-- a pipe's fields -/
structure Pp where
  id : ByteArray
  f : Int
  t : Int
  L : Int
  d : Int
  s : Int
def Pp.cs (p : Pp) : List Value := [.string p.id, .int .i64 p.f, .int .i64 p.t, .int .i64 p.L, .int .i64 p.d, .int .i64 p.s]
def Pp.ok (p : Pp) : Bool := okP p.id p.f p.t p.L p.d p.s
/-- pipes as cells, six each -/
def rowsP (ps : List Pp) : List Value := ps.flatMap Pp.cs
theorem Pp.cs_length (p : Pp) : p.cs.length = 6 := rfl
theorem rowsP_nil : rowsP [] = [] := rfl
theorem rowsP_cons (p : Pp) (ps : List Pp) : rowsP (p :: ps) = p.cs ++ rowsP ps := rfl
theorem rowsP_length (ps : List Pp) : (rowsP ps).length = ps.length * 6 := by
  induction ps with
  | nil => rfl
  | cons p r ih => rw [rowsP_cons, List.length_append, ih, Pp.cs_length, List.length_cons]; omega
theorem rowsP_append (ps qs : List Pp) : rowsP (ps ++ qs) = rowsP ps ++ rowsP qs := by unfold rowsP; rw [List.flatMap_append]
theorem rowsP_one (p : Pp) : rowsP [p] = p.cs := by rw [rowsP_cons]; show p.cs ++ [] = _; rw [List.append_nil]
theorem rowsP_at (ps : List Pp) : ∀ (k : Nat) (p : Pp), ps[k]? = some p → ∀ j, j < 6 → (rowsP ps)[k * 6 + j]? = p.cs[j]? := by
  induction ps with
  | nil => intro k p h; simp at h
  | cons a r ih =>
    intro k p h j hj
    rw [rowsP_cons]
    cases k with
    | zero =>
      obtain rfl : a = p := by simpa using h
      rw [List.getElem?_append_left (by rw [Pp.cs_length]; omega)]
      congr 1; omega
    | succ k =>
      rw [List.getElem?_append_right (by rw [Pp.cs_length]; omega), Pp.cs_length, show (k + 1) * 6 + j - 6 = k * 6 + j by omega]
      exact ih k p (by simpa using h) j hj
/-- the cells of a list whose every sixth is a pipe's -/
theorem rowsP_of (ps : List Pp) (f : Nat → Option Value) (h : ∀ k p, ps[k]? = some p → ∀ j, j < 6 → f (k * 6 + j) = p.cs[j]?) : ∀ q, q < ps.length * 6 → f q = (rowsP ps)[q]? := by
  intro q hq
  have hk : q / 6 < ps.length := by omega
  have e := List.getElem?_eq_getElem hk
  have h1 := h (q / 6) _ e (q % 6) (by omega)
  have h2 := rowsP_at ps (q / 6) _ e (q % 6) (by omega)
  rw [show q / 6 * 6 + q % 6 = q by omega] at h1 h2
  rw [h1, h2]
/-- a pipe in memory, from cell o of block b on -/
def PipeO (w : World) (b o : Nat) (p : Pp) : Prop :=
  w.cell? ⟨b, o, none⟩ = some (.string p.id) ∧ w.cell? ⟨b, o + 1, none⟩ = some (.int .i64 p.f) ∧ w.cell? ⟨b, o + 2, none⟩ = some (.int .i64 p.t) ∧ w.cell? ⟨b, o + 3, none⟩ = some (.int .i64 p.L) ∧ w.cell? ⟨b, o + 4, none⟩ = some (.int .i64 p.d) ∧ w.cell? ⟨b, o + 5, none⟩ = some (.int .i64 p.s)
theorem PipeO.lies {w : World} {b o : Nat} {p : Pp} (h : PipeO w b o p) : b < w.heap.size := World.block_lt_of_cell? _ _ h.1
theorem PipeO.keep {w w' : World} {b o : Nat} {p : Pp} (h : PipeO w b o p) (k : w'.heap[b]? = w.heap[b]?) : PipeO w' b o p := by
  have e : ∀ j, w'.cell? ⟨b, j, none⟩ = w.cell? ⟨b, j, none⟩ := fun j => World.cell?_of_block k
  unfold PipeO
  rw [e, e, e, e, e, e]
  exact h
theorem PipeO.next {w w' : World} {b o : Nat} {p : Pp} (h : PipeO w b o p) (hb : Below w.heap.size w w') : PipeO w' b o p := h.keep (hb.block _ h.lies)
theorem PipeO.alloc {w : World} {b o : Nat} {p : Pp} (h : PipeO w b o p) (O : Obj) : PipeO (w.alloc O) b o p := h.next (bal (Below.refl _ _) O)
theorem PipeO.new (w : World) (p : Pp) (T : TypeId) : PipeO (w.alloc (.cells #[.string p.id, .int .i64 p.f, .int .i64 p.t, .int .i64 p.L, .int .i64 p.d, .int .i64 p.s] T)) w.heap.size 0 p := by
  unfold PipeO
  simp
theorem PipeO.at0 {w : World} {b : Nat} {p : Pp} (h : PipeO w b 0 p) : PipeAt w b p.id p.f p.t p.L p.d p.s := by
  obtain ⟨h0, h1, h2, h3, h4, h5⟩ := h
  exact ⟨h0, h1, h2, h3, h4, h5⟩
theorem PipeO.range {w : World} {b o : Nat} {p : Pp} (h : PipeO w b o p) : w.rangeAt b o p.cs := fun j v hj => by
  obtain ⟨h0, h1, h2, h3, h4, h5⟩ := h
  match j, hj with
  | 0, hj => cases hj; exact h0
  | 1, hj => cases hj; exact h1
  | 2, hj => cases hj; exact h2
  | 3, hj => cases hj; exact h3
  | 4, hj => cases hj; exact h4
  | 5, hj => cases hj; exact h5
theorem PipeO.of_cells {w : World} {b o : Nat} {p : Pp} (h : ∀ j, j < 6 → w.cell? ⟨b, o + j, none⟩ = p.cs[j]?) : PipeO w b o p :=
  ⟨h 0 (by omega), h 1 (by omega), h 2 (by omega), h 3 (by omega), h 4 (by omega), h 5 (by omega)⟩
/-- one pipe of a slice's -/
theorem pipe_at {w : World} {A : Option Addr} {ps : List Pp} (h : CellsAt w A (rowsP ps)) (h0 : 0 < ps.length) : ∃ b off, A = some ⟨b, off, none⟩ ∧ ∀ k p, ps[k]? = some p → PipeO w b (off + k * 6) p := by
  obtain ⟨b, off, rfl, hc⟩ := h (by rw [rowsP_length]; omega)
  refine ⟨b, off, rfl, fun k p hk => PipeO.of_cells fun j hj => ?_⟩
  have hl : k < ps.length := (List.getElem?_eq_some_iff.1 hk).1
  have := hc (k * 6 + j) (by rw [rowsP_length]; omega)
  rw [rowsP_at ps k p hk j hj, ← Nat.add_assoc] at this
  exact this
/-- a slice of pipes that is an argument -/
def PipesIn (w : World) (A : Option Addr) (n : Nat) (ps : List Pp) : Prop :=
  ps.length = n ∧ n ≤ maxLen ∧ CellsAt w A (rowsP ps) ∧ ∀ p ∈ ps, p.id.size ≤ maxLen
theorem PipesIn.nil (w : World) : PipesIn w none 0 [] := ⟨rfl, Nat.zero_le _, CellsAt.nil _ _, fun _ h => by cases h⟩

/-- for each of the first n there is one: a list of them -/
theorem list_of {α : Type} (n : Nat) (Q : Nat → α → Prop) (h : ∀ i, i < n → ∃ x, Q i x) : ∃ l : List α, l.length = n ∧ ∀ i x, l[i]? = some x → Q i x := by
  induction n with
  | zero => exact ⟨[], rfl, fun i x h => by simp at h⟩
  | succ n ih =>
    obtain ⟨l, hl, hq⟩ := ih fun i hi => h i (by omega)
    obtain ⟨x, hx⟩ := h n (by omega)
    refine ⟨l ++ [x], by simp [hl], fun i y hy => ?_⟩
    by_cases hi : i < n
    · rw [List.getElem?_append_left (by omega)] at hy
      exact hq i y hy
    · have hlt := (List.getElem?_eq_some_iff.1 hy).1
      rw [List.length_append, List.length_singleton] at hlt
      obtain rfl : i = n := by omega
      rw [List.getElem?_append_right (by omega), hl, Nat.sub_self] at hy
      obtain rfl : x = y := by simpa using hy
      exact hx
end Go.Proofs.Ytdaedgdglammhab
