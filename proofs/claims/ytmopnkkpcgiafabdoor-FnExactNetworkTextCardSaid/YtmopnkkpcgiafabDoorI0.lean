/-
  What an exact law on networks keeps while it marks: slices apart from those that are written stay as they were.
-/
import Derived.Test.YtmopnkkpcgiafabDoorH9
namespace Go.Proofs.YtmopnkkpcgiafabDoor
open Go.ChangeShapes Go.WideShapes Go.ChangeAt Go.RowKit
set_option linter.unusedVariables false

theorem NetAt.keep {w w' : World} {b : Nat} {A : Option Addr} {n c : Nat} {B : Option Addr} {m d : Nat} (h : NetAt w b A n c B m d) (k : w'.heap[b]? = w.heap[b]?) : NetAt w' b A n c B m d :=
  ⟨(World.cell?_of_block (a := ⟨b, 0, none⟩) k).trans h.1, (World.cell?_of_block (a := ⟨b, 1, none⟩) k).trans h.2⟩
theorem owns_keep {w w' : World} {base : Nat} {E : TypeId} {s : Nat} {v : Value} {n : Nat} {xs : List Value} (h : w.ownsRow base E s v n xs) (hk : ∀ b, v.ownBlock = some b → w'.heap[b]? = w.heap[b]?) : w'.ownsRow base E s v n xs := by
  refine ⟨h.1, ?_⟩
  rcases h.2 with h2 | ⟨g, cap, cur, rfl, hg0, hg, h3⟩
  · exact .inl h2
  · exact .inr ⟨g, cap, cur, rfl, hg0, by rw [hk g rfl]; exact hg, h3⟩
theorem lies_own {B : Nat} {A : Option Addr} {n c : Nat} {w : World} {base : Nat} {E : TypeId} {s : Nat} {xs : List Value} (h : w.ownsRow base E s (.slice A n c) n xs) (hl : LiesIn B A) : ∀ b, (Value.slice A n c).ownBlock = some b → b < B := by
  intro b hb
  rcases h.2 with ⟨hv, _⟩ | ⟨g, cap, cur, hv, _⟩
  · rw [hv] at hb; cases hb
  · rw [hv] at hb
    injection hv with hA
    subst hA
    have e : g = b := by simpa [Value.ownBlock] using hb
    subst e
    exact hl g 0 rfl
theorem owns_lies6 {w : World} {base : Nat} {E : TypeId} {A : Option Addr} {n c : Nat} {vs : List Value} (h : w.ownsRow base E 6 (.slice A n c) n vs) : LiesIn w.heap.size A := by
  rintro b off rfl
  exact (h.lt b rfl).2
/-- what stays while two slices of the law's own are written -/
theorem two_keeps {w0 w w' : World} {A B : Option Addr} {n c m d : Nat} {base lo : Nat} {E E' : TypeId} {xs ys : List Value} (hT : TwoGrown w w' A B n c m d) (hA : w.ownsRow base E 1 (.slice A n c) n xs) (hB : w.ownsRow base E' 6 (.slice B m d) m ys) (lA : LiesIn lo A) (lB : LiesIn lo B) :
    (∀ b, b < base → b < w.heap.size → w'.heap[b]? = w.heap[b]?) ∧ (∀ b, lo ≤ b → b < w.heap.size → w'.heap[b]? = w.heap[b]?) ∧ (∀ B0, B0 ≤ base → B0 ≤ w.heap.size → Below B0 w0 w → Below B0 w0 w') ∧ w.heap.size ≤ w'.heap.size := by
  obtain ⟨wm, g1, g2⟩ := hT
  have hall : ∀ b, b < w.heap.size → some b ≠ (Value.slice A n c).ownBlock → some b ≠ (Value.slice B m d).ownBlock → w'.heap[b]? = w.heap[b]? := fun b hb h1 h2 =>
    (g2.block b (Nat.lt_of_lt_of_le hb g1.size) h2).trans (g1.block b hb h1)
  refine ⟨fun b h1 h2 => hall b h2 (fun e => ?_) (fun e => ?_), fun b h1 h2 => hall b h2 (fun e => ?_) (fun e => ?_), fun B0 h1 h2 hb => ?_, Nat.le_trans g1.size g2.size⟩
  · have := (hA.lt b e.symm).1; omega
  · have := (hB.lt b e.symm).1; omega
  · have := lies_own hA lA b e.symm; omega
  · have := lies_own hB lB b e.symm; omega
  · exact (hb.grown g1 h2 (fun k hk => Nat.le_trans h1 (hA.lt k hk).1)).grown g2 (Nat.le_trans h2 g1.size) (fun k hk => Nat.le_trans h1 (hB.lt k hk).1)
/-- what stays while one slice of the law's own is written -/
theorem one_keeps {w0 w w' : World} {A : Option Addr} {n c : Nat} {base : Nat} {E : TypeId} {xs : List Value} (g1 : w.grownBy w' (Value.ownBlock (.slice A n c))) (hA : w.ownsRow base E 1 (.slice A n c) n xs) :
    (∀ b, b < base → b < w.heap.size → w'.heap[b]? = w.heap[b]?) ∧ (∀ B0, B0 ≤ base → B0 ≤ w.heap.size → Below B0 w0 w → Below B0 w0 w') ∧ w.heap.size ≤ w'.heap.size := by
  refine ⟨fun b h1 h2 => g1.block b h2 (fun e => ?_), fun B0 h1 h2 hb => hb.grown g1 h2 (fun k hk => Nat.le_trans h1 (hA.lt k hk).1), g1.size⟩
  have := (hA.lt b e.symm).1; omega

theorem drawn_below {w w' : World} (h : Drawn w w') : Below w.heap.size w w' := by
  obtain ⟨k, rfl⟩ := h
  exact below_drewN (Below.refl _ _) k
/-- a call that returns a new slice of the numbers X, and a code -/
def RetIC (X : List Int) (C : Int) (w : World) (e : Ending) (w' : World) : Prop :=
  ∃ A c, e = .returned (.tuple #[.slice A X.length c, .int .i64 C]) ∧ w'.ownsRow w.heap.size 2 1 (.slice A X.length c) X.length (intsV X) ∧ Below w.heap.size w w'
theorem retIC_nil {C : Int} {w w' : World} {e : Ending} (he : e = .returned (.tuple #[.slice none 0 0, .int .i64 C])) (hb : Below w.heap.size w w') : RetIC [] C w e w' :=
  ⟨none, 0, he, World.ownsRow_nil _ _ _ _, hb⟩
theorem retIC_mk {X : List Int} {C : Int} {w w' : World} {A : Option Addr} {n c : Nat} {base : Nat} {e : Ending} (he : e = .returned (.tuple #[.slice A n c, .int .i64 C])) (h : w'.ownsRow base 2 1 (.slice A n c) n (intsV X)) (hbase : w.heap.size ≤ base) (hb : Below w.heap.size w w') : RetIC X C w e w' := by
  have hn := owns_len h
  rw [intsV_length] at hn
  subst hn
  exact ⟨A, c, he, owns_base h hbase, hb⟩
end Go.Proofs.YtmopnkkpcgiafabDoor
