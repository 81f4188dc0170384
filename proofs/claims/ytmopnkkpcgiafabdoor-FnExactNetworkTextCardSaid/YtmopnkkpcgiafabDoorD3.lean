/-
  ReadDecimal of the program and of the model.
-/
import Derived.Test.YtmopnkkpcgiafabDoorD1
import Derived.Test.YtmopnkkpcgiafabDoorD2
import Derived.Test.YtmopnkkpcgiafabDoorB1
namespace Go.Proofs.YtmopnkkpcgiafabDoor
open Go.ChangeShapes Go.WideShapes Go.ChangeAt Go.RowKit

/-- a number that is read, or none, as two results -/
def decT (o : Option Int) : Value := .tuple #[.int .i64 (o.getD 0), .bool o.isSome]
theorem readDec_bad {l : List UInt8} (h : badNum l = true) : readDec l = none := by unfold readDec; rw [if_pos h]

theorem bad_empty {l : List UInt8} (h : magOf l = []) : badNum l = true := by unfold badNum; simp [h]
theorem bad_long {l : List UInt8} (h : 18 < (magOf l).length) : badNum l = true := by unfold badNum; simp [h]
theorem bad_zero {l : List UInt8} (h : (magOf l).head? = some 48) (h1 : 1 < l.length) : badNum l = true := by unfold badNum; simp [h, h1]
theorem bad_digit {l : List UInt8} (h : (magOf l).all isDg = false) : badNum l = true := by unfold badNum; rw [h]; simp
theorem good_num {l : List UInt8} (h1 : magOf l ≠ []) (h2 : (magOf l).length ≤ 18) (h3 : ¬ ((magOf l).head? = some 48 ∧ 1 < l.length)) (h4 : (magOf l).all isDg = true) : badNum l = false := by
  unfold badNum
  simp only [Bool.or_eq_false_iff, decide_eq_false_iff_not, Bool.and_eq_false_iff, Bool.not_eq_false']
  refine ⟨⟨⟨h1, by omega⟩, ?_⟩, h4⟩
  by_cases h : (magOf l).head? = some 48
  · exact .inr (fun h5 => h3 ⟨h, h5⟩)
  · exact .inl h

/-- what the library's reader of numbers needs: its two errors' variables hold errors, here and wherever nothing below is written -/
def ErrVars (w : World) : Prop := ∃ t1 p1 t2 p2, ∀ w', Below w.heap.size w w' → w'.var? Tryd.prog "strconv.ErrSyntax" = some #[.iface t1 p1] ∧ w'.var? Tryd.prog "strconv.ErrRange" = some #[.iface t2 p2]
theorem ErrVars.next {w w' : World} (h : ErrVars w) (hb : Below w.heap.size w w') : ErrVars w' := by
  obtain ⟨t1, p1, t2, p2, h⟩ := h
  exact ⟨t1, p1, t2, p2, fun _ hb' => h _ (bnext hb hb')⟩

/-- strconv.ParseInt: a number and no error, or some number and an error that is not nil -/
def PiPost (l : List UInt8) (w : World) (e : Ending) (w' : World) : Prop :=
  (∃ v, Lib.parseIntB 64 l = .ok v ∧ e = .returned (.tuple #[.int .i64 v, .nilIface]) ∧ Below w.heap.size w w') ∨
  ((∀ v, Lib.parseIntB 64 l ≠ .ok v) ∧ ∃ k t p, e = .returned (.tuple #[.int .i64 k, .iface t (.pointer p)]) ∧ Below w.heap.size w w')

theorem no_ok {x y : Lib.NumEnd Int} (h : x = y) (hy : ∀ v, y ≠ .ok v := by intro v hv; cases hv) : ∀ v, x ≠ .ok v := fun v hh => hy v (h ▸ hh)

theorem readDec_none_of {l : List UInt8} (h : ∀ v, readDec l = some v → False) : readDec l = none := by
  cases hr : readDec l with
  | none => rfl
  | some v => exact absurd hr (fun hh => h v hh)
theorem trim_mag (l : List UInt8) : Lib.trimPrefix l [45] = magOf l := by
  unfold Lib.trimPrefix magOf
  cases l with
  | nil => rfl
  | cons c r =>
    by_cases h : c = 45
    · subst h; rfl
    · have h1 : Lib.hasPrefix (c :: r) [45] = false := by simp [Lib.hasPrefix, List.isPrefixOf]; exact fun e => h e.symm
      have h2 : ¬ (c :: r).head? = some 45 := by simp [h]
      rw [if_neg h2, h1]
      rfl

end Go.Proofs.YtmopnkkpcgiafabDoor
