/-
  Reading a list: the program's.
-/
import Derived.Test.YtkbkmpcdidhagacDoorR2
import Derived.Test.YtkbkmpcdidhagacDoorL0
namespace Go.Proofs.YtkbkmpcdidhagacDoor
open Go.ChangeShapes Go.WideShapes Go.ChangeAt Go.RowKit

theorem splitK_pos (b : List UInt8) (k : Nat) (l : List UInt8) : 1 ≤ (Lib.splitK b 0 k l).length := by
  cases k with
  | zero => exact Nat.le_refl _
  | succ k => unfold Lib.splitK; split <;> simp
theorem splitK_le (b : List UInt8) : ∀ (k : Nat) (l : List UInt8), (Lib.splitK b 0 k l).length ≤ k + 1 := by
  intro k
  induction k with
  | zero => intro l; exact Nat.le_refl _
  | succ k ih =>
    intro l
    unfold Lib.splitK
    split
    · simp
    · have := ih (l.drop ((Lib.index l b).toNat + b.length))
      rw [List.length_cons]; omega
theorem splitK_piece (b : List UInt8) : ∀ (k : Nat) (l : List UInt8), ∀ p ∈ Lib.splitK b 0 k l, p.length ≤ l.length := by
  intro k
  induction k with
  | zero => intro l p hp; simp [Lib.splitK] at hp; subst hp; exact Nat.le_refl _
  | succ k ih =>
    intro l p hp
    unfold Lib.splitK at hp
    split at hp
    · simp at hp; subst hp; exact Nat.le_refl _
    · rcases List.mem_cons.1 hp with rfl | h
      · rw [List.length_take]; omega
      · have := ih _ p h
        rw [List.length_drop] at this; omega
theorem mkB_map (X : List ByteArray) : (X.map (·.data.toList)).map (fun p => Value.string (mkB p)) = X.map Value.string := by
  rw [List.map_map]
  exact List.map_congr_left fun x _ => by simp only [Function.comp]; rw [mkB_list]
/-- the parts that the library cuts -/
def partsK (s : ByteArray) : List (List UInt8) := Lib.splitK [44] 0 (min 65 (s.data.toList.length + 1) - 1) s.data.toList
theorem splitN_any (s : ByteArray) (w : World) (hs : s.size ≤ 1048576) (hm : MaxVar w) :
    Calls Tryd.prog 42 #[.string s, .string ⟨#[44]⟩, .int .i64 65] w fun e w' => ∃ A c, e = .returned (.slice A (partsK s).length c) ∧ CellsAt w' A (strsV (partsK s)) ∧ LiesIn w'.heap.size A ∧ Below w.heap.size w w' := by
  obtain ⟨m, hm⟩ := hm
  have hX := Lib.splitB_data ⟨#[44]⟩ 0 (min 65 (s.size + 1) - 1) s
  have hP : (Lib.splitB ⟨#[44]⟩ 0 (min 65 (s.size + 1) - 1) s).map (·.data.toList) = partsK s := by
    rw [hX]; unfold partsK; rw [size_list]
  have hlen : (partsK s).length = (Lib.splitB ⟨#[44]⟩ 0 (min 65 (s.size + 1) - 1) s).length := by rw [← hP, List.length_map]
  have hle := Lib.splitB_length_le ⟨#[44]⟩ 0 (min 65 (s.size + 1) - 1) s
  have hstr : strsV (partsK s) = (Lib.splitB ⟨#[44]⟩ 0 (min 65 (s.size + 1) - 1) s).map Value.string := by rw [← hP]; exact mkB_map _
  have h := Tryd.strings_SplitN s ⟨#[44]⟩ 65 m w (by omega) hm (by decide) (by decide) (by decide)
  refine h.mono ?_
  rintro e w' ⟨rfl, rfl⟩
  refine ⟨_, _, by rw [hlen], ?_, ?_, (Below.refl _ _).alloc (Nat.le_refl _) _⟩
  · rw [hstr]
    intro h0
    refine ⟨_, _, rfl, fun j hj => ?_⟩
    rw [List.length_map] at hj
    unfold Lib.cellsOf
    simp
    rw [List.getElem?_append_left (by rw [List.length_map]; exact hj)]
    simp
  · rintro b off e
    injection e with e
    injection e with e1 e2
    subst e1
    simp

end Go.Proofs.YtkbkmpcdidhagacDoor
