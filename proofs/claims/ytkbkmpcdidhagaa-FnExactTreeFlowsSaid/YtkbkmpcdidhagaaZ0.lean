/-
  A pipe with a name: maths; the map of places.
-/
import Derived.Test.YtkbkmpcdidhagaaH5
import Derived.Maps.OwnOps
import Derived.Maps.OwnSet
import Derived.Maps.Views
import Derived.StringKeys
namespace Go.Proofs.Ytkbkmpcdidhagaa
open Go.ChangeShapes Go.WideShapes Go.ChangeAt Go.RowKit
set_option linter.unusedVariables false

theorem less_trans : ∀ a b c : List UInt8, Op.bytesLess a b = true → Op.bytesLess b c = true → Op.bytesLess a c = true
  | [], [], _, h, _ => by cases h
  | [], _ :: _, [], _, h => by cases h
  | [], _ :: _, _ :: _, _, _ => rfl
  | _ :: _, [], _, h, _ => by cases h
  | _ :: _, _ :: _, [], _, h => by cases h
  | x :: xs, y :: ys, z :: zs, h1, h2 => by
    have ih := less_trans xs ys zs
    have h1' : (decide (x < y) || (x == y && Op.bytesLess xs ys)) = true := h1
    have h2' : (decide (y < z) || (y == z && Op.bytesLess ys zs)) = true := h2
    show (decide (x < z) || (x == z && Op.bytesLess xs zs)) = true
    clear h1 h2
    simp only [Bool.or_eq_true, decide_eq_true_eq, Bool.and_eq_true, beq_iff_eq] at h1' h2' ⊢
    rcases h1' with h | ⟨rfl, h⟩
    · left
      rcases h2' with k | ⟨rfl, k⟩
      · have a : x.toNat < y.toNat := h
        have b : y.toNat < z.toNat := k
        exact (show x.toNat < z.toNat by omega)
      · exact h
    · rcases h2' with k | ⟨rfl, k⟩
      · exact .inl k
      · exact .inr ⟨rfl, ih h k⟩
theorem rise_lt (ps : List Pp) (n : Nat) (h : riseTo ps n = true) : ∀ (j i : Nat) (p q : Pp), i < j → j < n → ps[i]? = some p → ps[j]? = some q → idLt p.id q.id = true
  | 0, i, p, q, hi, _, _, _ => by omega
  | j + 1, i, p, q, hi, hj, hp, hq => by
    have hl : j + 1 < ps.length := (List.getElem?_eq_some_iff.1 hq).1
    have hr : ps[j]? = some ps[j] := List.getElem?_eq_getElem (by omega)
    have ha : riseAt ps (j + 1) = true := by
      unfold riseTo at h
      exact List.all_eq_true.1 h (j + 1) (List.mem_range.2 hj)
    rw [riseAt_at ps j _ q hr hq] at ha
    by_cases e : i = j
    · subst e
      rw [hr] at hp
      cases hp
      exact ha
    · have := rise_lt ps n h j i p ps[j] (by omega) (by omega) hp hr
      exact less_trans _ _ _ this ha
theorem rise_one {z : List Int} {ps : List Pp} (h : netB z ps = true) {i j : Nat} {p q : Pp} (hp : ps[i]? = some p) (hq : ps[j]? = some q) (e : p.id = q.id) : i = j := by
  have hr := (netB_parts h).2.2.2.2
  have li := (List.getElem?_eq_some_iff.1 hp).1
  have lj := (List.getElem?_eq_some_iff.1 hq).1
  rcases Nat.lt_trichotomy i j with k | k | k
  · have := rise_lt ps _ hr j i p q k lj hp hq
    unfold idLt at this
    rw [e, less_irrefl] at this
    cases this
  · exact k
  · have := rise_lt ps _ hr i j q p k li hq hp
    unfold idLt at this
    rw [e, less_irrefl] at this
    cases this

/-- the first pipe with a name -/
def named (ps : List Pp) (id : ByteArray) : Option Nat := ps.findIdx? (fun p => p.id.toList == id.toList)
theorem ba_list {a b : ByteArray} : (a.toList == b.toList) = true ↔ a = b := by
  rw [beq_iff_eq]
  constructor
  · intro h
    rw [ByteArray.toList_eq, ByteArray.toList_eq] at h
    rw [← mkB_list a, ← mkB_list b, h]
  · intro h
    rw [h]
theorem named_some {ps : List Pp} {id : ByteArray} {i : Nat} {p : Pp} (hp : ps[i]? = some p) (e : p.id = id) (h : ∀ j, j < i → ∀ q, ps[j]? = some q → q.id ≠ id) : named ps id = some i := by
  obtain ⟨hl, he⟩ := List.getElem?_eq_some_iff.1 hp
  unfold named
  rw [List.findIdx?_eq_some_iff_getElem]
  refine ⟨hl, by rw [he]; exact ba_list.2 e, fun j hj => ?_⟩
  intro hb
  exact h j hj _ (List.getElem?_eq_getElem (by omega)) (ba_list.1 hb)
theorem named_none {ps : List Pp} {id : ByteArray} (h : ∀ (j : Nat) (q : Pp), ps[j]? = some q → q.id ≠ id) : named ps id = none := by
  unfold named
  rw [List.findIdx?_eq_none_iff]
  intro p hp
  obtain ⟨j, hj, rfl⟩ := List.getElem_of_mem hp
  cases hb : (ps[j].id.toList == id.toList) with
  | false => rfl
  | true => exact absurd (ba_list.1 hb) (h j _ (List.getElem?_eq_getElem hj))
def nameX (z : List Int) (ps : List Pp) (id : ByteArray) : Int := if netB z ps = true then (match named ps id with | some i => (i : Int) | none => 0) else 0
def nameC (z : List Int) (ps : List Pp) (id : ByteArray) : Int := if netB z ps = true then (match named ps id with | some _ => 0 | none => 3) else 1

/-- what a map of places holds after k pipes -/
def placeKey (id : ByteArray) : Lit := .string id.data.toList
theorem placeKey_inj {a b : ByteArray} (h : a ≠ b) : placeKey a ≠ placeKey b := fun e => h (by
  unfold placeKey at e
  have : a.data.toList = b.data.toList := by simpa using e
  rw [← mkB_list a, ← mkB_list b, this])
def Placed (ps : List Pp) (k : Nat) (D : DataW Unit) : Prop := Maps.IsMap D ∧ ∀ id : ByteArray,
  (∃ i p, i < k ∧ ps[i]? = some p ∧ p.id = id ∧ Maps.has D (placeKey id) = true ∧ D.atKey (placeKey id) (.lit (.int .i64 0)) = .lit (.int .i64 i)) ∨
  ((∀ i p, i < k → ps[i]? = some p → p.id ≠ id) ∧ Maps.has D (placeKey id) = false)
theorem Placed.zero (ps : List Pp) : Placed ps 0 (.map []) := ⟨Maps.isMap_empty, fun id => .inr ⟨fun i p h => by omega, rfl⟩⟩
theorem Placed.succ {ps : List Pp} {k : Nat} {D : DataW Unit} {p : Pp} (h : Placed ps k D) (hp : ps[k]? = some p) : Placed ps (k + 1) (D.put (placeKey p.id) (.lit (.int .i64 k))) := by
  refine ⟨h.1.put _ _, fun id => ?_⟩
  by_cases e : p.id = id
  · subst e
    exact .inl ⟨k, p, by omega, hp, rfl, Maps.has_put_same h.1 (by trivial) _, Maps.atKey_put_same h.1 (by trivial) _ _⟩
  · have hne : placeKey id ≠ placeKey p.id := placeKey_inj fun k => e k.symm
    rcases h.2 id with ⟨i, q, hi, hq, he, h1, h2⟩ | ⟨h1, h2⟩
    · exact .inl ⟨i, q, by omega, hq, he, by rw [Maps.has_put_other hne]; exact h1, by rw [Maps.atKey_put_other hne]; exact h2⟩
    · refine .inr ⟨fun i q hi hq => ?_, by rw [Maps.has_put_other hne]; exact h2⟩
      by_cases ei : i = k
      · subst ei
        rw [hp] at hq
        cases hq
        exact e
      · exact h1 i q (by omega) hq
theorem Placed.named {z : List Int} {ps : List Pp} {D : DataW Unit} (hv : netB z ps = true) (h : Placed ps ps.length D) (id : ByteArray) :
    (∃ i : Nat, named ps id = some i ∧ i < ps.length ∧ Maps.has D (placeKey id) = true ∧ D.atKey (placeKey id) (.lit (.int .i64 0)) = .lit (.int .i64 i)) ∨ (named ps id = none ∧ Maps.has D (placeKey id) = false) := by
  rcases h.2 id with ⟨i, p, hi, hp, he, h1, h2⟩ | ⟨h1, h2⟩
  · refine .inl ⟨i, named_some hp he fun j hj q hq e => ?_, hi, h1, h2⟩
    have := rise_one hv hp hq (he.trans e.symm)
    omega
  · exact .inr ⟨named_none fun j q hq => h1 j q (List.getElem?_eq_some_iff.1 hq).1 hq, h2⟩

end Go.Proofs.Ytkbkmpcdidhagaa
