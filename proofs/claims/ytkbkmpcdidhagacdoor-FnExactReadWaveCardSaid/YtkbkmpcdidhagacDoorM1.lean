/-
  The laws' own helpers over slices of strings: equal slices, marks written and found again.
-/
import Derived.Test.YtkbkmpcdidhagacDoorG1
import Derived.Deep.RegionHeld3
namespace Go.Proofs.YtkbkmpcdidhagacDoor
open Go.ChangeShapes Go.WideShapes Go.ChangeAt Go.RowKit
set_option maxRecDepth 100000

/-- the decimal digits of m, in front of s -/
def digitsInto : Nat → Nat → ByteArray → ByteArray
  | 0, _, s => s
  | f + 1, m, s => if m = 0 then s else digitsInto f (m / 10) (strOfNums [48 + (m : Int) % 10] ++ s)
theorem digitsInto_zero (f : Nat) (s : ByteArray) : digitsInto f 0 s = s := by
  cases f <;> simp [digitsInto]
theorem digitsInto_step (f m : Nat) (s : ByteArray) (h : m ≠ 0) : digitsInto (f + 1) m s = digitsInto f (m / 10) (strOfNums [48 + (m : Int) % 10] ++ s) := by
  rw [digitsInto, if_neg h]
def mText (k : Int) : ByteArray := if k ≤ 0 then ⟨#[109, 48]⟩ else ⟨#[109]⟩ ++ digitsInto 20 k.toNat ⟨#[]⟩

theorem one_byte (b : Nat) (w : World) (n : Int) (t : TypeId) (hb : b = w.heap.size) :
    (convert 70 9 (.slice (some ⟨b, 0, none⟩) 1 1)).run Tryd.prog (w.alloc (.cells #[.int .u8 n] t)) = .ok (.string (strOfNums [n])) (w.alloc (.cells #[.int .u8 n] t)) := by
  subst hb
  exact run_convert_bytes_arg (P := Tryd.prog) _ _ 5 Tryd.underlying70 Tryd.underlying5 w.heap.size 0 1 1 [n] rfl (fun i hi => by
    have : i = 0 := by omega
    subst this
    simp) _ Tryd.underlying9

/-- the i-th mark from k on -/
def markAt (k : Int) (i : Nat) : Value := Value.string (mText (k + (i : Int)))
/-- so many marks, from k on -/
def marksS (k : Int) (n : Nat) : List Value := (List.range n).map (markAt k)
theorem marksS_length (k : Int) (n : Nat) : (marksS k n).length = n := by simp [marksS]
theorem marksS_at (k : Int) (n i : Nat) (h : i < n) : (marksS k n)[i]? = some (Value.string (mText (k + (i : Int)))) := by simp [marksS, markAt, h]

/-- a call that returns a new slice of the strings xs -/
def RetStrs (xs : List ByteArray) (w : World) (e : Ending) (w' : World) : Prop :=
  ∃ A c, e = .returned (.slice A xs.length c) ∧ w'.ownsRow w.heap.size 9 1 (.slice A xs.length c) xs.length (xs.map Value.string) ∧ Below w.heap.size w w'
theorem retStrs_of {xs : List ByteArray} {vs : List Value} {w w' : World} {e : Ending} (h : RetRow 9 vs w e w') (hv : vs = xs.map Value.string) : RetStrs xs w e w' := by
  subst hv
  obtain ⟨A, c, he, ho, hb⟩ := h
  rw [List.length_map] at he ho
  exact ⟨A, c, he, ho, hb⟩
/-- what a slice of the call's own, marked and found again, does not touch -/
theorem owns_kept {w w' : World} {base base' : Nat} {E E' : TypeId} {A B : Option Addr} {n m c d : Nat} {vs us : List Value} (h : w.ownsRow base E 1 (.slice A n c) n vs) (hg : w.grownBy w' (Value.ownBlock (.slice B m d)))
    (hlt : LiesIn base' A) (hB : w.ownsRow base' E' 1 (.slice B m d) m us) : w'.ownsRow base E 1 (.slice A n c) n vs := by
  refine h.kept hg ?_
  cases A with
  | none => exact .inl rfl
  | some a =>
    right
    intro he
    rcases h.2 with ⟨hv, _⟩ | ⟨g, cap, cur, hv, _⟩
    · cases hv
    · injection hv with hA
      injection hA with hA
      subst hA
      have h1 := hlt g 0 rfl
      have h2 := (hB.lt g (by rw [← he]; rfl)).1
      omega
theorem grown_old {w0 w w' : World} {base : Nat} {E : TypeId} {B : Option Addr} {m d : Nat} {us : List Value} (hb : Below w0.heap.size w0 w) (hg : w.grownBy w' (Value.ownBlock (.slice B m d))) (hB : w.ownsRow base E 1 (.slice B m d) m us) (hbase : w0.heap.size ≤ base) : Below w0.heap.size w0 w' :=
  hb.grown hg hb.size fun k hk => Nat.le_trans hbase (hB.lt k hk).1
end Go.Proofs.YtkbkmpcdidhagacDoor
