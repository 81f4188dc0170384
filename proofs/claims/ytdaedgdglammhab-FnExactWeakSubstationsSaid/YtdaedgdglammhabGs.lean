/-
  General lemmas that networks and other lists of structs share: an argument's slice of numbers opened, its size, an order of names.
-/
import Derived.Test.YtdaedgdglammhabH0
import Derived.Lib.SmallJoins
import Derived.Deep.Slices
import Derived.Deep.Fields
import Derived.ShutString
import Derived.Carry
namespace Go.Proofs.Ytdaedgdglammhab
open Go.ChangeShapes Go.WideShapes Go.ChangeAt Go.RowKit Go.Shelf
set_option linter.unusedSimpArgs false
set_option maxRecDepth 100000

/-- one string stands ahead of another one -/
def idLt (a b : ByteArray) : Bool := Op.bytesLess a.toList b.toList
theorem leq_flip : ∀ a b : List UInt8, (Op.bytesLess a b || a == b) = !Op.bytesLess b a
  | [], [] => rfl
  | x :: xs, [] => rfl
  | [], y :: ys => rfl
  | x :: xs, y :: ys => by
    have ih := leq_flip xs ys
    show ((decide (x < y) || (x == y && Op.bytesLess xs ys)) || (x == y && xs == ys)) = !(decide (y < x) || (y == x && Op.bytesLess ys xs))
    rcases Nat.lt_trichotomy x.toNat y.toNat with h | h | h
    · have e1 : x < y := h
      have e2 : ¬ y < x := fun k => by have : y.toNat < x.toNat := k; omega
      have e3 : (y == x) = false := by
        rw [beq_eq_false_iff_ne]; intro e; rw [e] at h; omega
      simp [e1, e2, e3]
    · obtain rfl : x = y := UInt8.toNat_inj.1 h
      have e2 : ¬ x < x := fun k => by have : x.toNat < x.toNat := k; omega
      simp only [e2, beq_self_eq_true, Bool.true_and, decide_false, Bool.false_or]
      exact ih
    · have e1 : ¬ x < y := fun k => by have : x.toNat < y.toNat := k; omega
      have e2 : y < x := h
      have e3 : (x == y) = false := by
        rw [beq_eq_false_iff_ne]; intro e; rw [e] at h; omega
      simp [e1, e2, e3]
theorem less_irrefl : ∀ a : List UInt8, Op.bytesLess a a = false
  | [] => rfl
  | x :: xs => by
    have ih := less_irrefl xs
    show (decide (x < x) || (x == x && Op.bytesLess xs xs)) = false
    have e2 : ¬ x < x := fun k => by have : x.toNat < x.toNat := k; omega
    simp [e2, ih]
theorem cells_plain {w : World} {a : Addr} {n : Nat} {vs : List Value} (hn : n ≤ vs.length) (h : ∀ i, i < n → w.cell? (a.add i) = vs[i]?) (hp : 0 < n) :
    ∃ b off, a = ⟨b, off, none⟩ ∧ ∀ j, j < n → w.cell? ⟨b, off + j, none⟩ = vs[j]? := by
  obtain ⟨b, off, spot⟩ := a
  have h0 := h 0 hp
  rw [List.getElem?_eq_getElem (by omega)] at h0
  have hspot : spot = none := by simpa [Addr.add] using World.cell?_spot h0
  subst hspot
  exact ⟨b, off, rfl, fun j hj => by rw [← Go.WideShapes.add_plain]; exact h j hj⟩
theorem SliceIn.part {k : IntKind} {w : World} {a : Addr} {len : Nat} {zs : List Int} (hl : len ≤ zs.length) (hm : len ≤ maxLen)
    (hc : ∀ i, i < zs.length → w.cell? (a.add i) = some (.int k (zs.getD i 0))) (hw : ∀ n ∈ zs, (Lit.int k n).wf = true) : SliceIn k w (some a) len (zs.take len) := by
  refine ⟨by rw [List.length_take]; omega, hm, fun h0 => ?_, fun z h => hw z (List.mem_of_mem_take h)⟩
  rw [List.length_map, List.length_take] at h0
  obtain ⟨b, off, rfl, hj⟩ := ints_at hc (by omega)
  refine ⟨b, off, rfl, fun j hjl => ?_⟩
  rw [List.length_map, List.length_take] at hjl
  rw [hj j (by omega)]
  simp [List.getD, show j < zs.length by omega, show j < len by omega]
section
variable {H : Type} {enc : TypeId × Value → H} {W : World} {base : Nat} {spare : Nat → Bool} {held : Bool}
theorem trod_nodes {fuel : Nat} {v : Value} {x : DataW H × List MemPlace} (h : DataW.trod enc Try.prog W base spare held fuel 37 [v] = some x) :
    ∃ (A : Option Addr) (n c : Nat) (zs : List Int), v = .slice A n c ∧ SliceIn .i64 W A n zs := by
  rcases open_ints Try.underlying37 Try.underlying2 (by kernel_rfl) h with ⟨hcs, _⟩ | ⟨x, l, c, zs, hcs, _, hl, hm, hz, _, hcell, hwz⟩
  · obtain rfl := List.cons.inj hcs |>.1
    exact ⟨none, 0, 0, [], rfl, SliceIn.nil _ _⟩
  · obtain rfl := List.cons.inj hcs |>.1
    exact ⟨some x, l, c, _, rfl, SliceIn.part (by rw [hz]; split <;> omega) (by omega) hcell hwz⟩
end
/-- how much is left: none, or no more than there was but for so many -/
def SzR (n : Nat) (m : Int) (w : World) (e : Ending) (w' : World) : Prop := ∃ r : Int, e = .returned (.int .i64 r) ∧ (r = -1 ∨ (0 ≤ r ∧ r ≤ m - n)) ∧ Below w.heap.size w w'
theorem cell_set_other {w : World} {b o b' o' : Nat} {v u : Value} (h : w.cell? ⟨b, o, none⟩ = some v) (hne : b ≠ b' ∨ o ≠ o') : (w.setCell ⟨b', o', none⟩ u).cell? ⟨b, o, none⟩ = some v :=
  (World.cell?_setCell_other _ _ _ _ (by simp; omega)).trans h
theorem owns_set_low {w : World} {base : Nat} {E : TypeId} {k : Nat} {v : Value} {n : Nat} {vs : List Value} (h : w.ownsRow base E k v n vs) {a : Addr} (ha : a.block < base) (u : Value) : (w.setCell a u).ownsRow base E k v n vs :=
  ownsRow_setCell_other h (fun e => by have := (h.lt _ e).1; omega) u
/-- an index: none if all are so, one if not all are -/
def IdxR (b : Bool) (w : World) (e : Ending) (w' : World) : Prop := ∃ r : Int, e = .returned (.int .i64 r) ∧ ((b = true ∧ r = -1) ∨ (b = false ∧ 0 ≤ r)) ∧ Below w.heap.size w w'
theorem drawn_below {w w' : World} (h : Drawn w w') : Below w.heap.size w w' := by
  obtain ⟨k, rfl⟩ := h
  exact below_drewN (Below.refl _ _) k
theorem owns_keep {w w' : World} {base : Nat} {E : TypeId} {s : Nat} {v : Value} {n : Nat} {xs : List Value} (h : w.ownsRow base E s v n xs) (hk : ∀ b, v.ownBlock = some b → w'.heap[b]? = w.heap[b]?) : w'.ownsRow base E s v n xs := by
  refine ⟨h.1, ?_⟩
  rcases h.2 with h2 | ⟨g, cap, cur, rfl, hg0, hg, h3⟩
  · exact .inl h2
  · exact .inr ⟨g, cap, cur, rfl, hg0, by rw [hk g rfl]; exact hg, h3⟩
theorem lies_own {B : Nat} {A : Option Addr} {n c : Nat} {w : World} {base : Nat} {E : TypeId} {s : Nat} {xs : List Value} (h : w.ownsRow base E s (.slice A n c) n xs) (hl : LiesIn B A) : ∀ b, (Value.slice A n c).ownBlock = some b → b < B := by
  intro b hb
  rcases h.2 with ⟨hv, _⟩ | ⟨g, cap, cur, hv, _⟩
  · rw [hv] at hb; cases hb
  · rw [hv] at hb
    injection hv with hA
    subst hA
    have e : g = b := by simpa [Value.ownBlock] using hb
    subst e
    exact hl g 0 rfl
/-- what stays while one slice of the law's own is written -/
theorem one_keeps {w0 w w' : World} {A : Option Addr} {n c : Nat} {base : Nat} {E : TypeId} {xs : List Value} (g1 : w.grownBy w' (Value.ownBlock (.slice A n c))) (hA : w.ownsRow base E 1 (.slice A n c) n xs) :
    (∀ b, b < base → b < w.heap.size → w'.heap[b]? = w.heap[b]?) ∧ (∀ B0, B0 ≤ base → B0 ≤ w.heap.size → Below B0 w0 w → Below B0 w0 w') ∧ w.heap.size ≤ w'.heap.size := by
  refine ⟨fun b h1 h2 => g1.block b h2 (fun e => ?_), fun B0 h1 h2 hb => hb.grown g1 h2 (fun k hk => Nat.le_trans h1 (hA.lt k hk).1), g1.size⟩
  have := (hA.lt b e.symm).1; omega
/-- a call that returns a new slice of the numbers X, and a code -/
def RetIC (X : List Int) (C : Int) (w : World) (e : Ending) (w' : World) : Prop :=
  ∃ A c, e = .returned (.tuple #[.slice A X.length c, .int .i64 C]) ∧ w'.ownsRow w.heap.size 2 1 (.slice A X.length c) X.length (intsV X) ∧ Below w.heap.size w w'
theorem retIC_nil {C : Int} {w w' : World} {e : Ending} (he : e = .returned (.tuple #[.slice none 0 0, .int .i64 C])) (hb : Below w.heap.size w w') : RetIC [] C w e w' :=
  ⟨none, 0, he, World.ownsRow_nil _ _ _ _, hb⟩
theorem retIC_mk {X : List Int} {C : Int} {w w' : World} {A : Option Addr} {n c : Nat} {base : Nat} {e : Ending} (he : e = .returned (.tuple #[.slice A n c, .int .i64 C])) (h : w'.ownsRow base 2 1 (.slice A n c) n (intsV X)) (hbase : w.heap.size ≤ base) (hb : Below w.heap.size w w') : RetIC X C w e w' := by
  have hn := owns_len h
  rw [intsV_length] at hn
  subst hn
  exact ⟨A, c, he, owns_base h hbase, hb⟩
end Go.Proofs.Ytdaedgdglammhab
