/-
  The laws' own helpers over slices of numbers: a copy, equal slices, marks written and found again.
-/
import Derived.Test.YtkbkmpcdidhagacDoorM1
import Derived.OwnWalk
namespace Go.Proofs.YtkbkmpcdidhagacDoor
open Go.ChangeShapes Go.WideShapes Go.ChangeAt Go.RowKit

/-- numbers as cells -/
def intsV (l : List Int) : List Value := l.map (Value.int .i64)
theorem intsV_length (l : List Int) : (intsV l).length = l.length := by simp [intsV]
theorem intsV_at (l : List Int) (k : Nat) (h : k < l.length) : (intsV l)[k]? = some (Value.int .i64 l[k]) := by simp [intsV, h]
theorem intsV_snoc (l : List Int) (n : Int) : intsV (l ++ [n]) = intsV l ++ [Value.int .i64 n] := by simp [intsV]
theorem CellsAt.lies {w : World} {b off : Nat} {vs : List Value} (h : CellsAt w (some ⟨b, off, none⟩) vs) (h0 : 0 < vs.length) : b < w.heap.size := by
  obtain ⟨b', o', e, hc⟩ := h h0
  injection e with e
  injection e with e1 e2
  subst e1; subst e2
  have := hc 0 h0
  rw [List.getElem?_eq_getElem h0] at this
  exact World.block_lt_of_cell? _ _ this
theorem CellsAt.next {w w' : World} {A : Option Addr} {vs : List Value} (h : CellsAt w A vs) (hb : Below w.heap.size w w') : CellsAt w' A vs := by
  intro h0
  obtain ⟨b, off, rfl, hc⟩ := h h0
  have hl := CellsAt.lies h h0
  exact ⟨b, off, rfl, fun j hj => (hb.cell (p := ⟨b, off + j, none⟩) hl).trans (hc j hj)⟩
theorem CellsAt.drewN {w : World} {A : Option Addr} {vs : List Value} (h : CellsAt w A vs) (k : Nat) : CellsAt (w.drewN k) A vs := h
theorem infoI64 : (Tryd.prog.info? 2).map (fun i => (i.zero, i.size, i.bytes)) = some (some (.int .i64 0), 1, 8) := by kernel_rfl

/-- a slice that is an argument: its numbers -/
def SliceIn (k : IntKind) (w : World) (A : Option Addr) (n : Nat) (zs : List Int) : Prop :=
  zs.length = n ∧ n ≤ maxLen ∧ CellsAt w A (zs.map (Value.int k)) ∧ ∀ z ∈ zs, (Lit.int k z).wf = true
theorem SliceIn.nil (k : IntKind) (w : World) : SliceIn k w none 0 [] := ⟨rfl, Nat.zero_le _, CellsAt.nil _ _, fun _ h => by cases h⟩
theorem SliceIn.row {k : IntKind} {w : World} {a : Addr} {len cap : Nat} {zs : List Int} (hl : len ≤ cap) (hm : cap ≤ maxLen) (hz : zs.length = cap)
    (hc : ∀ i, i < zs.length → w.cell? (a.add i) = some (.int k (zs.getD i 0))) (hw : ∀ n ∈ zs, (Lit.int k n).wf = true) : SliceIn k w (some a) len (zs.take len) := by
  refine ⟨by rw [List.length_take]; omega, by omega, fun h0 => ?_, fun z h => hw z (List.mem_of_mem_take h)⟩
  rw [List.length_map, List.length_take] at h0
  obtain ⟨b, off, rfl, hj⟩ := ints_at hc (by omega)
  refine ⟨b, off, rfl, fun j hjl => ?_⟩
  rw [List.length_map, List.length_take] at hjl
  rw [hj j (by omega)]
  simp [List.getD, show j < zs.length by omega, show j < len by omega]

/-- the i-th mark from k on -/
def markIAt (k : Int) (i : Nat) : Value := Value.int .i64 (k + (i : Int))
/-- so many marks, from k on -/
def marksI (k : Int) (n : Nat) : List Value := (List.range n).map (markIAt k)
theorem marksI_length (k : Int) (n : Nat) : (marksI k n).length = n := by simp [marksI]
theorem marksI_at (k : Int) (n i : Nat) (h : i < n) : (marksI k n)[i]? = some (Value.int .i64 (k + (i : Int))) := by simp [marksI, markIAt, h]

/-- a call that returns a new slice of the numbers xs -/
def RetInts (xs : List Int) (w : World) (e : Ending) (w' : World) : Prop :=
  ∃ A c, e = .returned (.slice A xs.length c) ∧ w'.ownsRow w.heap.size 2 1 (.slice A xs.length c) xs.length (intsV xs) ∧ Below w.heap.size w w'
theorem retInts_of {xs : List Int} {w w' : World} {e : Ending} (h : RetRow 2 (intsV xs) w e w') : RetInts xs w e w' := by
  obtain ⟨A, c, he, ho, hb⟩ := h
  rw [intsV_length] at he ho
  exact ⟨A, c, he, ho, hb⟩
end Go.Proofs.YtkbkmpcdidhagacDoor
