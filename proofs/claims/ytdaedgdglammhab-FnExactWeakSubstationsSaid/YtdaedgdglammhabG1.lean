/-
  General lemmas on slices, no program in sight: a slice's cells, rows of the call's own, what a call that returns a new slice says.
-/
import Derived.Test.YtdaedgdglammhabG0
namespace Go.Proofs.Ytdaedgdglammhab
open Go.ChangeShapes Go.WideShapes Go.ChangeAt Go.RowKit

/-- the slice with address A holds the cells vs -/
def CellsAt (w : World) (A : Option Addr) (vs : List Value) : Prop :=
  0 < vs.length → ∃ b off, A = some ⟨b, off, none⟩ ∧ ∀ j, j < vs.length → w.cell? ⟨b, off + j, none⟩ = vs[j]?
theorem CellsAt.nil (w : World) (A : Option Addr) : CellsAt w A [] := fun h => absurd h (by simp)
theorem CellsAt.keep {w w' : World} {A : Option Addr} {vs : List Value} (h : CellsAt w A vs) (hk : ∀ b off, A = some ⟨b, off, none⟩ → w'.heap[b]? = w.heap[b]?) : CellsAt w' A vs := by
  intro hp
  obtain ⟨b, off, rfl, hc⟩ := h hp
  exact ⟨b, off, rfl, fun j hj => (World.cell?_of_block (w := w) (hk b off rfl)).trans (hc j hj)⟩
/-- the slice's block lies below B -/
def LiesIn (B : Nat) (A : Option Addr) : Prop := ∀ b off, A = some ⟨b, off, none⟩ → b < B
theorem CellsAt.below {B : Nat} {w w' : World} {A : Option Addr} {vs : List Value} (h : CellsAt w A vs) (hl : LiesIn B A) (hb : Below B w w') : CellsAt w' A vs :=
  h.keep fun b off e => hb.block b (hl b off e)
theorem LiesIn.mono {B C : Nat} {A : Option Addr} (h : LiesIn B A) (hBC : B ≤ C) : LiesIn C A := fun b off e => Nat.lt_of_lt_of_le (h b off e) hBC
theorem LiesIn.next {w w' : World} {A : Option Addr} (h : LiesIn w.heap.size A) (hb : Below w.heap.size w w') : LiesIn w'.heap.size A := h.mono hb.size

theorem owns_cells {w : World} {base : Nat} {E : TypeId} {A : Option Addr} {n c : Nat} {vs : List Value} (h : w.ownsRow base E 1 (.slice A n c) n vs) : CellsAt w A vs := by
  intro hp
  rcases h.2 with ⟨hv, hn⟩ | ⟨g, cap, cur, hv, _, hg, _⟩
  · have := h.1; omega
  · injection hv with hA
    subst hA
    refine ⟨g, 0, rfl, fun j hj => ?_⟩
    have hx := List.getElem?_eq_getElem hj
    have := h.cells (g := g) rfl j _ hx
    rw [hx]
    by_cases hj0 : j = 0
    · subst hj0; simpa [Addr.add] using this
    · simpa [Addr.add, hj0] using this
theorem owns_lies {w : World} {base : Nat} {E : TypeId} {A : Option Addr} {n c : Nat} {vs : List Value} (h : w.ownsRow base E 1 (.slice A n c) n vs) : LiesIn w.heap.size A := by
  rintro b off rfl
  exact (h.lt b rfl).2
theorem owns_form {w : World} {base : Nat} {E : TypeId} {v : Value} {n : Nat} {vs : List Value} (h : w.ownsRow base E 1 v n vs) : ∃ A c, v = .slice A n c := by
  rcases h.2 with ⟨rfl, rfl⟩ | ⟨g, cap, cur, hv, _⟩
  · exact ⟨none, 0, rfl⟩
  · exact ⟨_, _, hv⟩
theorem owns_empty (w : World) (base : Nat) (E : TypeId) (hb : base ≤ w.heap.size) : (w.alloc (.cells #[] E)).ownsRow base E 1 (.slice (some ⟨w.heap.size, 0, none⟩) 0 0) 0 [] :=
  World.ownsRow_lit (size := 1) w #[] 0 hb (Nat.zero_le _) rfl
theorem owns_ge {w : World} {base : Nat} {E : TypeId} {v : Value} {n : Nat} {vs : List Value} (h : w.ownsRow base E 1 v n vs) : ∀ k, v.ownBlock = some k → base ≤ k := fun k hk => (h.lt k hk).1
theorem owns_len {w : World} {base : Nat} {E : TypeId} {v : Value} {n : Nat} {vs : List Value} (h : w.ownsRow base E 1 v n vs) : vs.length = n := by
  have := h.1; omega
theorem owns_max {w : World} {base : Nat} {E : TypeId} {v : Value} {n : Nat} {vs : List Value} (h : w.ownsRow base E 1 v n vs) : n ≤ maxLen := by
  rcases h.2 with ⟨_, rfl⟩ | ⟨g, cap, cur, hv, _, hg, h1, h2, _⟩
  · exact Nat.zero_le _
  · omega
theorem owns_below {B : Nat} {w w' : World} {base : Nat} {E : TypeId} {A : Option Addr} {n c : Nat} {vs : List Value} (h : w.ownsRow base E 1 (.slice A n c) n vs) (hb : Below B w w') (hB : w.heap.size ≤ B) : w'.ownsRow base E 1 (.slice A n c) n vs := by
  refine h.kept (row := none) ⟨hb.os, hb.tape, hb.output, hb.size, fun k hk _ => hb.block k (by omega)⟩ ?_
  cases A with
  | none => exact .inl rfl
  | some a => exact .inr (by simp [Value.ownBlock])
theorem owns_base {w : World} {base base' : Nat} {E : TypeId} {v : Value} {n : Nat} {vs : List Value} (h : w.ownsRow base E 1 v n vs) (hb : base' ≤ base) : w.ownsRow base' E 1 v n vs := by
  refine ⟨h.1, ?_⟩
  rcases h.2 with h2 | ⟨g, cap, cur, hv, hg0, h3⟩
  · exact .inl h2
  · exact .inr ⟨g, cap, cur, hv, by omega, h3⟩

theorem grown_refl (w : World) (row : Option Nat) : w.grownBy w row := ⟨rfl, rfl, rfl, Nat.le_refl _, fun _ _ _ => rfl⟩
theorem grown_below {a b c : World} {row : Option Nat} (h : a.grownBy b row) (k : Below b.heap.size b c) : a.grownBy c row :=
  ⟨k.os.trans h.os, k.tape.trans h.tape, k.output.trans h.output, Nat.le_trans h.size k.size, fun i hi hne => (k.block i (Nat.lt_of_lt_of_le hi h.size)).trans (h.block i hi hne)⟩
theorem grown_set {a b : World} {g : Nat} (h : a.grownBy b (some g)) (o : Nat) (s : Option _) (u : Value) : a.grownBy (b.setCell ⟨g, o, s⟩ u) (some g) :=
  ⟨h.os, h.tape, h.output, by simpa [World.setCell] using h.size, fun i hi hne => (Below.heap_setCell b ⟨g, o, s⟩ u i (fun e => hne (by rw [e]))).trans (h.block i hi hne)⟩
theorem grown_drew {a b : World} {row : Option Nat} (h : a.grownBy b row) (n : Nat) : a.grownBy (b.drewN n) row := ⟨h.os, h.tape, h.output, h.size, h.block⟩
theorem grown_keeps {w w' : World} {row : Option Nat} {A : Option Addr} {vs : List Value} (h : CellsAt w A vs) (hg : w.grownBy w' row) (hl : LiesIn w.heap.size A) (hne : ∀ b off, A = some ⟨b, off, none⟩ → some b ≠ row) : CellsAt w' A vs :=
  h.keep fun b off e => hg.block b (hl b off e) (hne b off e)

/-- the first j cells are f's, the rest is as it was -/
def fillV (f : Nat → Value) (j : Nat) (xs : List Value) : List Value := (List.range j).map f ++ xs.drop j
theorem fillV_zero (f : Nat → Value) (xs : List Value) : fillV f 0 xs = xs := rfl
theorem fillV_all (f : Nat → Value) (n : Nat) (xs : List Value) (h : xs.length = n) : fillV f n xs = (List.range n).map f := by
  unfold fillV; rw [List.drop_of_length_le (by omega), List.append_nil]
theorem fillV_set (f : Nat → Value) (xs : List Value) (i : Nat) (h : i < xs.length) : (fillV f i xs).set i (f i) = fillV f (i + 1) xs := by
  have hl : ((List.range i).map f).length = i := by simp
  unfold fillV
  rw [List.drop_eq_getElem_cons h, List.range_succ, List.map_append, List.append_assoc]
  rw [List.set_append_right i (f i) (by omega), hl, Nat.sub_self]
  rfl
theorem fillV_length (f : Nat → Value) (j : Nat) (xs : List Value) (h : j ≤ xs.length) : (fillV f j xs).length = xs.length := by
  unfold fillV; simp; omega
theorem fillV_get (f : Nat → Value) (j : Nat) (xs : List Value) : (fillV f j xs)[j]? = xs[j]? := by
  unfold fillV
  rw [List.getElem?_append_right (by simp)]
  simp

/-- a call that returns a new slice with the cells vs, and writes nothing that was there -/
def RetRow (E : TypeId) (vs : List Value) (w : World) (e : Ending) (w' : World) : Prop :=
  ∃ A c, e = .returned (.slice A vs.length c) ∧ w'.ownsRow w.heap.size E 1 (.slice A vs.length c) vs.length vs ∧ Below w.heap.size w w'
theorem retRow_mk {E : TypeId} {vs us : List Value} {w w' : World} {A : Option Addr} {n c : Nat} {e : Ending} (he : e = .returned (.slice A n c)) (h : w'.ownsRow w.heap.size E 1 (.slice A n c) n us) (hu : us = vs) (hb : Below w.heap.size w w') : RetRow E vs w e w' := by
  subst hu
  have hn := owns_len h
  subst hn
  exact ⟨A, c, he, h, hb⟩
def mkB (l : List UInt8) : ByteArray := ⟨l.toArray⟩
theorem mkB_list (s : ByteArray) : mkB s.data.toList = s := by cases s; rfl
end Go.Proofs.Ytdaedgdglammhab
