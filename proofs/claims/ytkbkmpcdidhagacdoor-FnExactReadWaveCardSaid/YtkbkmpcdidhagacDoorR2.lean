/-
  Reading a list: the model's.
-/
import Derived.Test.YtkbkmpcdidhagacDoorR1
import Derived.Test.YtkbkmpcdidhagacDoorS2
namespace Go.Proofs.YtkbkmpcdidhagacDoor
open Go.ChangeShapes Go.WideShapes Go.ChangeAt Go.RowKit

/-- a call that returns a list, or none -/
def RetList (o : Option (List Int)) (w : World) (e : Ending) (w' : World) : Prop :=
  ∃ A c, e = .returned (.tuple #[.slice A (o.getD []).length c, .bool o.isSome]) ∧ w'.ownsRow w.heap.size 2 1 (.slice A (o.getD []).length c) (o.getD []).length (intsV (o.getD [])) ∧ Below w.heap.size w w'
theorem owns_none (w : World) (base : Nat) (E : TypeId) : w.ownsRow base E 1 (.slice none 0 0) 0 [] := ⟨rfl, .inl ⟨rfl, rfl⟩⟩
theorem retList_none {o : Option (List Int)} {w w' : World} {e : Ending} (ho : o = none) (he : e = .returned (.tuple #[.slice none 0 0, .bool false])) (hb : Below w.heap.size w w') : RetList o w e w' := by
  subst ho
  exact ⟨none, 0, he, owns_none _ _ _, hb⟩
theorem retList_some {o : Option (List Int)} {l : List Int} {w w' : World} {e : Ending} {A : Option Addr} {n c : Nat} {us : List Value} (ho : o = some l) (he : e = .returned (.tuple #[.slice A n c, .bool true]))
    (h : w'.ownsRow w.heap.size 2 1 (.slice A n c) n us) (hu : us = intsV l) (hb : Below w.heap.size w w') : RetList o w e w' := by
  subst ho; subst hu
  have hn := owns_len h
  rw [intsV_length] at hn
  subst hn
  exact ⟨A, c, he, h, hb⟩
theorem splitGo_piece (b : UInt8) (l : List UInt8) : ∀ cur, ∀ p ∈ splitGo b cur l, p.length ≤ cur.length + l.length := by
  induction l with
  | nil => intro cur p hp; simp [splitGo] at hp; subst hp; simp
  | cons c r ih =>
    intro cur p hp
    rw [splitGo] at hp
    split at hp
    · rcases List.mem_cons.1 hp with rfl | h
      · simp
      · have := ih [] p h; simp at *; omega
    · have := ih _ p hp; simp at *; omega
theorem dash_true (s : ByteArray) (h : s.data.toList = [45]) : s = ⟨#[45]⟩ := by
  rw [← mkB_list s, h]; rfl
theorem dash_false (s : ByteArray) (h : s.data.toList ≠ [45]) : (s.toList == [45]) = false := by
  rw [beq_eq_false_iff_ne, ByteArray.toList_eq]; exact h
theorem readL_dash {l : List UInt8} (h : l = [45]) : readL l = some [] := by unfold readL; rw [if_pos h]
theorem readL_long {l : List UInt8} (h : l ≠ [45]) (h1 : ¬ (splitGo 44 [] l).length ≤ 64) : readL l = none := by unfold readL; rw [if_neg h, if_neg fun e => h1 e.1]
theorem readL_bad {l : List UInt8} (h : l ≠ [45]) (h1 : (splitGo 44 [] l).all okQ = false) : readL l = none := by unfold readL; rw [if_neg h, if_neg fun e => by rw [h1] at e; cases e.2]
theorem readL_good {l : List UInt8} (h : l ≠ [45]) (h1 : (splitGo 44 [] l).length ≤ 64) (h2 : (splitGo 44 [] l).all okQ = true) : readL l = some ((splitGo 44 [] l).map valP) := by unfold readL; rw [if_neg h, if_pos ⟨h1, h2⟩]
theorem decT_eq (p : List UInt8) : decT (readDec p) = .tuple #[.int .i64 (valP p), .bool (numP p)] := rfl
theorem map_take_succ (ps : List (List UInt8)) (k : Nat) (h : k < ps.length) : (ps.take (k + 1)).map valP = (ps.take k).map valP ++ [valP ps[k]] := by
  rw [List.take_succ_eq_append_getElem h, List.map_append]; rfl

end Go.Proofs.YtkbkmpcdidhagacDoor
