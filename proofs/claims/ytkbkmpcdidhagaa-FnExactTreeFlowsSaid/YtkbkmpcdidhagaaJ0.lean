/-
  Parts of a network: the mathematics, no program in sight.
-/
import Derived.Test.YtkbkmpcdidhagaaI0
namespace Go.Proofs.Ytkbkmpcdidhagaa
open Go.ChangeShapes Go.WideShapes Go.ChangeAt Go.RowKit

def getI (p : List Int) (a : Int) : Int := p.getD a.toNat 0
/-- the parts of two nodes made one: the least of both -/
def joinL (p : List Int) (a b : Int) : List Int := p.map fun x => if x = max (getI p a) (getI p b) then min (getI p a) (getI p b) else x
theorem joinL_length (p : List Int) (a b : Int) : (joinL p a b).length = p.length := by simp [joinL]
def countL (n : Nat) : List Int := (List.range n).map fun (i : Nat) => (i : Int)
theorem countL_length (n : Nat) : (countL n).length = n := by simp [countL]
/-- the parts when the first k pipes have been taken, but for those that are closed -/
def partsTo (cl : Nat → Bool) (n : Nat) (ps : List Pp) : Nat → List Int
  | 0 => countL n
  | k + 1 => match ps[k]? with
    | some p => if cl k then partsTo cl n ps k else joinL (partsTo cl n ps k) p.f p.t
    | none => partsTo cl n ps k
/-- the pipes among the first k that have joined two parts -/
def treeTo (cl : Nat → Bool) (n : Nat) (ps : List Pp) : Nat → List Int
  | 0 => []
  | k + 1 => match ps[k]? with
    | some p => if cl k || getI (partsTo cl n ps k) p.f == getI (partsTo cl n ps k) p.t then treeTo cl n ps k else treeTo cl n ps k ++ [(k : Int)]
    | none => treeTo cl n ps k
theorem partsTo_length (cl : Nat → Bool) (n : Nat) (ps : List Pp) (k : Nat) : (partsTo cl n ps k).length = n := by
  induction k with
  | zero => exact countL_length n
  | succ k ih =>
    unfold partsTo
    split
    · split
      · exact ih
      · rw [joinL_length]; exact ih
    · exact ih
theorem partsTo_closed {cl : Nat → Bool} {n : Nat} {ps : List Pp} {k : Nat} {p : Pp} (h : ps[k]? = some p) (hc : cl k = true) : partsTo cl n ps (k + 1) = partsTo cl n ps k := by
  show (match ps[k]? with | some p => _ | none => _) = _
  rw [h]
  exact if_pos hc
theorem partsTo_open {cl : Nat → Bool} {n : Nat} {ps : List Pp} {k : Nat} {p : Pp} (h : ps[k]? = some p) (hc : cl k = false) : partsTo cl n ps (k + 1) = joinL (partsTo cl n ps k) p.f p.t := by
  show (match ps[k]? with | some p => _ | none => _) = _
  rw [h]
  show (if cl k = true then _ else _) = _
  rw [hc]
  rfl
theorem treeTo_stay {cl : Nat → Bool} {n : Nat} {ps : List Pp} {k : Nat} {p : Pp} (h : ps[k]? = some p) (hc : (cl k || getI (partsTo cl n ps k) p.f == getI (partsTo cl n ps k) p.t) = true) : treeTo cl n ps (k + 1) = treeTo cl n ps k := by
  show (match ps[k]? with | some p => _ | none => _) = _
  rw [h]
  exact if_pos hc
theorem treeTo_grow {cl : Nat → Bool} {n : Nat} {ps : List Pp} {k : Nat} {p : Pp} (h : ps[k]? = some p) (hc : (cl k || getI (partsTo cl n ps k) p.f == getI (partsTo cl n ps k) p.t) = false) : treeTo cl n ps (k + 1) = treeTo cl n ps k ++ [(k : Int)] := by
  show (match ps[k]? with | some p => _ | none => _) = _
  rw [h]
  show (if (cl k || getI (partsTo cl n ps k) p.f == getI (partsTo cl n ps k) p.t) = true then _ else _) = _
  rw [hc]
  rfl
theorem treeTo_short (cl : Nat → Bool) (n : Nat) (ps : List Pp) (k : Nat) : (treeTo cl n ps k).length ≤ k := by
  induction k with
  | zero => exact Nat.le_refl _
  | succ k ih =>
    unfold treeTo
    split
    · split
      · omega
      · rw [List.length_append, List.length_singleton]; omega
    · omega
/-- a list's numbers up to j replaced -/
def repTo (p : List Int) (lo hi : Int) (j : Nat) : List Int := (p.take j).map (fun x => if x = hi then lo else x) ++ p.drop j
theorem repTo_zero (p : List Int) (lo hi : Int) : repTo p lo hi 0 = p := by unfold repTo; simp
theorem repTo_all (p : List Int) (lo hi : Int) : repTo p lo hi p.length = p.map (fun x => if x = hi then lo else x) := by unfold repTo; simp
theorem repTo_at (p : List Int) (lo hi : Int) (j : Nat) (h : j < p.length) : (repTo p lo hi j)[j]? = some p[j] := by
  unfold repTo
  have hl : ((p.take j).map (fun x => if x = hi then lo else x)).length = j := by simp; omega
  rw [List.getElem?_append_right (by omega), hl, Nat.sub_self, List.drop_eq_getElem_cons h]
  rfl
theorem repTo_length (p : List Int) (lo hi : Int) (j : Nat) : (repTo p lo hi j).length = p.length := by unfold repTo; simp; omega
theorem repTo_skip (p : List Int) (lo hi : Int) (j : Nat) (h : j < p.length) (hne : p[j] ≠ hi) : repTo p lo hi (j + 1) = repTo p lo hi j := by
  unfold repTo
  rw [List.take_succ_eq_append_getElem h, List.map_append, List.append_assoc]
  simp [hne]
theorem repTo_set (p : List Int) (lo hi : Int) (j : Nat) (h : j < p.length) (he : p[j] = hi) : (repTo p lo hi j).set j lo = repTo p lo hi (j + 1) := by
  unfold repTo
  have hl : ((p.take j).map (fun x => if x = hi then lo else x)).length = j := by simp; omega
  rw [List.set_append_right j lo (by omega), hl, Nat.sub_self, List.drop_eq_getElem_cons h, List.take_succ_eq_append_getElem h, List.map_append, List.append_assoc]
  simp [he]
theorem intsV_set (p : List Int) (j : Nat) (x : Int) : (intsV p).set j (.int .i64 x) = intsV (p.set j x) := by unfold intsV; rw [List.map_set]
end Go.Proofs.Ytkbkmpcdidhagaa
