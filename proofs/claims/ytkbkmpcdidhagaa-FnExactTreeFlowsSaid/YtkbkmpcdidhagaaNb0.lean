/-
  A network that is a tree joins all nodes: the mathematics, no program in sight.
-/
import Derived.Test.YtkbkmpcdidhagaaJ9
import Derived.Test.YtkbkmpcdidhagaaP3
namespace Go.Proofs.Ytkbkmpcdidhagaa
open Go.ChangeShapes Go.WideShapes Go.ChangeAt Go.RowKit
set_option linter.unusedVariables false

theorem filter_lt {α : Type} {q q' : α → Bool} {h : α} : ∀ (l : List α), (∀ x ∈ l, q' x = true → q x = true) → h ∈ l → q h = true → q' h = false → (l.filter q').length < (l.filter q).length
  | [], _, hm, _, _ => by cases hm
  | a :: l, hi, hm, h1, h0 => by
    have hle : ∀ (l : List α), (∀ x ∈ l, q' x = true → q x = true) → (l.filter q').length ≤ (l.filter q).length := by
      intro l
      induction l with
      | nil => intro _; exact Nat.le_refl _
      | cons b l ih =>
        intro hl
        have := ih fun x hx => hl x (List.mem_cons_of_mem _ hx)
        have hb := hl b (List.mem_cons_self ..)
        cases e' : q' b with
        | true => rw [List.filter_cons_of_pos e', List.filter_cons_of_pos (hb e'), List.length_cons, List.length_cons]; omega
        | false =>
          rw [List.filter_cons_of_neg (by simp [e'])]
          cases e : q b with
          | true => rw [List.filter_cons_of_pos e, List.length_cons]; omega
          | false => rw [List.filter_cons_of_neg (by simp [e])]; exact this
    have ht := fun x hx => hi x (List.mem_cons_of_mem a hx)
    have ha := hi a (List.mem_cons_self ..)
    rcases List.mem_cons.1 hm with e | hm
    · subst e
      rw [List.filter_cons_of_neg (by simp [h0]), List.filter_cons_of_pos h1, List.length_cons]
      have := hle l ht
      omega
    · have ih := filter_lt l ht hm h1 h0
      cases e' : q' a with
      | true => rw [List.filter_cons_of_pos e', List.filter_cons_of_pos (ha e'), List.length_cons, List.length_cons]; omega
      | false =>
        rw [List.filter_cons_of_neg (by simp [e'])]
        cases e : q a with
        | true => rw [List.filter_cons_of_pos e, List.length_cons]; omega
        | false => rw [List.filter_cons_of_neg (by simp [e])]; exact ih

theorem getI_join (p : List Int) (a b x : Int) (h0 : 0 ≤ x) (h1 : x < p.length) : getI (joinL p a b) x = if getI p x = max (getI p a) (getI p b) then min (getI p a) (getI p b) else getI p x := by
  unfold joinL getI
  rw [getD_map _ _ _ (by omega)]
theorem getI_count (n : Nat) (x : Int) (h0 : 0 ≤ x) (h1 : x < n) : getI (countL n) x = x := by
  unfold getI countL
  rw [List.getD_eq_getElem?_getD, List.getElem?_map, List.getElem?_range (by omega)]
  simp only [Option.map_some, Option.getD_some]
  omega
/-- every pipe joins nodes of the network -/
def Joins (n : Nat) (ps : List Pp) : Prop := ∀ p ∈ ps, (0 ≤ p.f ∧ p.f < n) ∧ (0 ≤ p.t ∧ p.t < n) ∧ p.f ≠ p.t
theorem joins_of {n : Nat} {ps : List Pp} (h : ps.all (fitB n) = true) : Joins n ps := fun p hp => by
  have h1 := fitB_parts (List.all_eq_true.1 h p hp)
  have h2 := okP_ends h1.1
  exact ⟨⟨h2.1.1, h1.2.1⟩, ⟨h2.2.1.1, h1.2.2⟩, (okP_bd _ _ _ _ _ _ h1.1).2.2.2.1⟩
/-- what is closed under all pipes is closed under parts -/
theorem parts_closed {n : Nat} {ps : List Pp} (hj : Joins n ps) (S : Int → Prop) (hS : ∀ p ∈ ps, (S p.f ↔ S p.t)) : ∀ (k : Nat) (x y : Int), 0 ≤ x → x < n → 0 ≤ y → y < n → getI (partsTo noneClosed n ps k) x = getI (partsTo noneClosed n ps k) y → (S x ↔ S y)
  | 0, x, y, x0, x1, y0, y1, h => by
    rw [show partsTo noneClosed n ps 0 = countL n from rfl, getI_count n x x0 x1, getI_count n y y0 y1] at h
    rw [h]
  | k + 1, x, y, x0, x1, y0, y1, h => by
    have ih := parts_closed hj S hS k
    have hl := partsTo_length noneClosed n ps k
    cases hp : ps[k]? with
    | none =>
      rw [show partsTo noneClosed n ps (k + 1) = partsTo noneClosed n ps k by show (match ps[k]? with | some p => _ | none => _) = _; rw [hp]] at h
      exact ih x y x0 x1 y0 y1 h
    | some p =>
      rw [partsTo_open hp rfl, getI_join _ _ _ _ x0 (by rw [hl]; exact x1), getI_join _ _ _ _ y0 (by rw [hl]; exact y1), merge_iff] at h
      have hpm := List.mem_of_getElem? hp
      obtain ⟨⟨f0, f1⟩, ⟨t0, t1⟩, _⟩ := hj p hpm
      rcases h with h | ⟨hx, hy⟩
      · exact ih x y x0 x1 y0 y1 h
      · have hx' : S x ↔ S p.f := by
          rcases (show getI (partsTo noneClosed n ps k) x = getI (partsTo noneClosed n ps k) p.f ∨ getI (partsTo noneClosed n ps k) x = getI (partsTo noneClosed n ps k) p.t by omega) with e | e
          · exact ih x p.f x0 x1 f0 f1 e
          · exact (ih x p.t x0 x1 t0 t1 e).trans (hS p hpm).symm
        have hy' : S y ↔ S p.f := by
          rcases (show getI (partsTo noneClosed n ps k) y = getI (partsTo noneClosed n ps k) p.f ∨ getI (partsTo noneClosed n ps k) y = getI (partsTo noneClosed n ps k) p.t by omega) with e | e
          · exact ih y p.f y0 y1 f0 f1 e
          · exact (ih y p.t y0 y1 t0 t1 e).trans (hS p hpm).symm
        exact hx'.trans hy'.symm
/-- labels are roots -/
theorem parts_roots {n : Nat} {ps : List Pp} (hj : Joins n ps) : ∀ (k : Nat) (x : Int), 0 ≤ x → x < n → (0 ≤ getI (partsTo noneClosed n ps k) x ∧ getI (partsTo noneClosed n ps k) x < n) ∧ getI (partsTo noneClosed n ps k) (getI (partsTo noneClosed n ps k) x) = getI (partsTo noneClosed n ps k) x
  | 0, x, x0, x1 => by
    rw [show partsTo noneClosed n ps 0 = countL n from rfl, getI_count n x x0 x1, getI_count n x x0 x1]
    exact ⟨⟨x0, x1⟩, rfl⟩
  | k + 1, x, x0, x1 => by
    have ih := parts_roots hj k
    have hl := partsTo_length noneClosed n ps k
    cases hp : ps[k]? with
    | none =>
      rw [show partsTo noneClosed n ps (k + 1) = partsTo noneClosed n ps k by show (match ps[k]? with | some p => _ | none => _) = _; rw [hp]]
      exact ih x x0 x1
    | some p =>
      obtain ⟨⟨f0, f1⟩, ⟨t0, t1⟩, _⟩ := hj p (List.mem_of_getElem? hp)
      rw [partsTo_open hp rfl]
      have hx := ih x x0 x1
      have hf := ih p.f f0 f1
      have ht := ih p.t t0 t1
      have e := fun (y : Int) (y0 : 0 ≤ y) (y1 : y < n) => getI_join (partsTo noneClosed n ps k) p.f p.t y y0 (by rw [hl]; exact y1)
      rw [e x x0 x1]
      generalize hP : partsTo noneClosed n ps k = P at *
      by_cases h : getI P x = max (getI P p.f) (getI P p.t)
      · rw [if_pos h]
        have hm : min (getI P p.f) (getI P p.t) = getI P p.f ∨ min (getI P p.f) (getI P p.t) = getI P p.t := by omega
        have hr : getI P (min (getI P p.f) (getI P p.t)) = min (getI P p.f) (getI P p.t) := by
          rcases hm with h | h <;> rw [h]
          · exact hf.2
          · exact ht.2
        refine ⟨by omega, ?_⟩
        rw [e _ (by omega) (by omega), hr]
        split <;> omega
      · rw [if_neg h]
        refine ⟨hx.1, ?_⟩
        rw [e _ hx.1.1 hx.1.2, hx.2, if_neg h]
def rootB (P : List Int) (i : Nat) : Bool := decide (getI P (i : Int) = (i : Int))
theorem parts_count {n : Nat} {ps : List Pp} (hj : Joins n ps) : ∀ (k : Nat), ((List.range n).filter (rootB (partsTo noneClosed n ps k))).length + (treeTo noneClosed n ps k).length ≤ n
  | 0 => by
    have := List.length_filter_le (rootB (partsTo noneClosed n ps 0)) (List.range n)
    rw [List.length_range] at this
    show _ + 0 ≤ n
    omega
  | k + 1 => by
    have ih := parts_count hj k
    have hl := partsTo_length noneClosed n ps k
    have hr := parts_roots hj k
    cases hp : ps[k]? with
    | none =>
      rw [show partsTo noneClosed n ps (k + 1) = partsTo noneClosed n ps k by show (match ps[k]? with | some p => _ | none => _) = _; rw [hp], show treeTo noneClosed n ps (k + 1) = treeTo noneClosed n ps k by show (match ps[k]? with | some p => _ | none => _) = _; rw [hp]]
      exact ih
    | some p =>
      obtain ⟨⟨f0, f1⟩, ⟨t0, t1⟩, _⟩ := hj p (List.mem_of_getElem? hp)
      rw [partsTo_open hp rfl]
      by_cases he : getI (partsTo noneClosed n ps k) p.f = getI (partsTo noneClosed n ps k) p.t
      · rw [treeTo_stay hp (by simp [he]), joinL_same _ _ _ he]
        exact ih
      · rw [treeTo_grow hp (by rw [show noneClosed k = false from rfl, Bool.false_or]; simpa using he), List.length_append, List.length_singleton]
        have e := fun (y : Int) (y0 : 0 ≤ y) (y1 : y < n) => getI_join (partsTo noneClosed n ps k) p.f p.t y y0 (by rw [hl]; exact y1)
        have hf := hr p.f f0 f1
        have ht := hr p.t t0 t1
        generalize hP : partsTo noneClosed n ps k = P at *
        have hm : max (getI P p.f) (getI P p.t) = getI P p.f ∨ max (getI P p.f) (getI P p.t) = getI P p.t := by omega
        have hM : getI P (max (getI P p.f) (getI P p.t)) = max (getI P p.f) (getI P p.t) := by
          rcases hm with h | h <;> rw [h]
          · exact hf.2
          · exact ht.2
        have hlo : getI P (min (getI P p.f) (getI P p.t)) = min (getI P p.f) (getI P p.t) := by
          rcases (show min (getI P p.f) (getI P p.t) = getI P p.f ∨ min (getI P p.f) (getI P p.t) = getI P p.t by omega) with h | h <;> rw [h]
          · exact hf.2
          · exact ht.2
        have hc : ((max (getI P p.f) (getI P p.t)).toNat : Int) = max (getI P p.f) (getI P p.t) := by omega
        have hlt := filter_lt (q := rootB P) (q' := rootB (joinL P p.f p.t)) (h := (max (getI P p.f) (getI P p.t)).toNat) (List.range n)
          (fun i hi hq => by
            have hi := List.mem_range.1 hi
            unfold rootB at *
            have hq := of_decide_eq_true hq
            rw [e i (by omega) (by omega)] at hq
            refine decide_eq_true ?_
            by_cases h : getI P (i : Int) = max (getI P p.f) (getI P p.t)
            · rw [if_pos h] at hq
              rw [← hq] at h ⊢
              rw [hlo]
            · rw [if_neg h] at hq
              exact hq)
          (List.mem_range.2 (by omega))
          (by unfold rootB; rw [hc]; exact decide_eq_true hM)
          (by unfold rootB; rw [hc]; refine decide_eq_false ?_; rw [e _ (by omega) (by omega), if_pos hM]; omega)
        omega
/-- a tree: a pipe less than nodes, and each has joined two parts -/
theorem tree_joined {n : Nat} {ps : List Pp} (hj : Joins n ps) (hn : ps.length + 1 = n) (ht : (treeTo noneClosed n ps ps.length).length = ps.length) (S : Int → Prop) (hS : ∀ p ∈ ps, (S p.f ↔ S p.t)) (x y : Int) (x0 : 0 ≤ x) (x1 : x < n) (y0 : 0 ≤ y) (y1 : y < n) : S x ↔ S y := by
  refine parts_closed hj S hS ps.length x y x0 x1 y0 y1 ?_
  have hc := parts_count hj ps.length
  have hx := parts_roots hj ps.length x x0 x1
  have hy := parts_roots hj ps.length y y0 y1
  rw [ht] at hc
  generalize partsTo noneClosed n ps ps.length = P at *
  have hlen : ((List.range n).filter (rootB P)).length ≤ 1 := by omega
  have hmx : (getI P x).toNat ∈ (List.range n).filter (rootB P) := List.mem_filter.2 ⟨List.mem_range.2 (by omega), by unfold rootB; rw [show ((getI P x).toNat : Int) = getI P x by omega]; exact decide_eq_true hx.2⟩
  have hmy : (getI P y).toNat ∈ (List.range n).filter (rootB P) := List.mem_filter.2 ⟨List.mem_range.2 (by omega), by unfold rootB; rw [show ((getI P y).toNat : Int) = getI P y by omega]; exact decide_eq_true hy.2⟩
  match hl : (List.range n).filter (rootB P) with
  | [] => rw [hl] at hmx; cases hmx
  | [c] =>
    rw [hl] at hmx hmy
    have h1 := List.mem_singleton.1 hmx
    have h2 := List.mem_singleton.1 hmy
    omega
  | a :: b :: l => rw [hl] at hlen; simp at hlen
end Go.Proofs.Ytkbkmpcdidhagaa
