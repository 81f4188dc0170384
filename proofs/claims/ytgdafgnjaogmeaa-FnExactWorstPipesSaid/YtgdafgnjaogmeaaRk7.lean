import Derived.Test.YtgdafgnjaogmeaaMb6
/-
  The best of what is left of a ranking.
-/
namespace Go.Proofs.Ytgdafgnjaogmeaa
open Go.ChangeShapes Go.WideShapes Go.ChangeAt Go.RowKit

set_option maxRecDepth 100000
set_option maxHeartbeats 1600000
set_option linter.unusedVariables false

/-- x stands ahead of y -/
def aheadP (l : List Int) (x y : Nat) : Prop := l.getD y 0 < l.getD x 0 ∨ (l.getD y 0 = l.getD x 0 ∧ x < y)
theorem rankF_ahead (l : List Int) (m : Nat) : (rankF l m).Pairwise fun x y => aheadP l x.val y.val := by
  have nd : (rankF l m).Pairwise (fun x y => x ≠ y) := (rankF_perm l m).nodup_iff.2 (List.nodup_finRange _)
  refine ((rankF_sorted l m).and nd).imp ?_
  rintro x y ⟨h1, h2⟩
  rw [rkF_lt] at h1
  simp only [decide_eq_false_iff_not] at h1
  have h3 : x.val ≠ y.val := fun h => h2 (Fin.ext h)
  unfold aheadP
  omega
/-- whether a place is among the first k -/
def chB (l : List Int) (k j : Nat) : Bool := ((rankI l).take k).any fun c => c == (j : Int)
theorem chB_iff (l : List Int) (m k j : Nat) (hl : l.length = m + 1) : chB l k j = true ↔ ∃ i, ∃ h : i < (rankF l m).length, i < k ∧ ((rankF l m)[i]).val = j := by
  unfold chB
  rw [rankI_of l m hl, ← List.map_take, List.any_map, List.any_eq_true]
  constructor
  · rintro ⟨x, hx, he⟩
    obtain ⟨i, hi, rfl⟩ := List.getElem_of_mem hx
    rw [List.length_take] at hi
    refine ⟨i, by omega, by omega, ?_⟩
    simp only [Function.comp_apply, beq_iff_eq, List.getElem_take] at he
    omega
  · rintro ⟨i, h, hk, he⟩
    refine ⟨(rankF l m)[i], List.mem_take_iff_getElem.2 ⟨i, by omega, rfl⟩, ?_⟩
    simp only [Function.comp_apply, beq_iff_eq]
    omega
theorem aheadF (l : List Int) (m i j : Nat) (h : i < j) (hj : j < (rankF l m).length) : aheadP l ((rankF l m)[i]'(by omega)).val ((rankF l m)[j]).val :=
  List.pairwise_iff_getElem.1 (rankF_ahead l m) i j (by omega) hj h
/-- the best place so far -/
def bestR (l : List Int) (k i : Nat) (b : Int) : Prop := (b = -1 ∧ ∀ j, j < i → chB l k j = true) ∨ (∃ q : Nat, b = q ∧ q < i ∧ chB l k q = false ∧ ∀ j, j < i → chB l k j = false → j = q ∨ aheadP l q j)
theorem bestR_zero (l : List Int) (k : Nat) : bestR l k 0 (-1) := .inl ⟨rfl, fun j hj => absurd hj (Nat.not_lt_zero _)⟩
theorem lt_succ_cases {j i : Nat} (h : j < i + 1) : j < i ∨ j = i := by omega
theorem bestR_skip {l : List Int} {k i : Nat} {b : Int} (hc : chB l k i = true) (h : bestR l k i b) : bestR l k (i + 1) b := by
  rcases h with ⟨e, h⟩ | ⟨q, e, hq, hu, h⟩
  · refine .inl ⟨e, fun j hj => ?_⟩
    rcases lt_succ_cases hj with h1 | rfl
    · exact h j h1
    · exact hc
  · refine .inr ⟨q, e, by omega, hu, fun j hj hj2 => ?_⟩
    rcases lt_succ_cases hj with h1 | rfl
    · exact h j h1 hj2
    · rw [hc] at hj2; cases hj2
theorem bestR_first {l : List Int} {k i : Nat} (hc : chB l k i = false) (h : bestR l k i (-1)) : bestR l k (i + 1) (i : Int) := by
  rcases h with ⟨e, h⟩ | ⟨q, e, hq, hu, h⟩
  · refine .inr ⟨i, rfl, by omega, hc, fun j hj hj2 => ?_⟩
    rcases lt_succ_cases hj with h1 | h1
    · rw [h j h1] at hj2; cases hj2
    · exact .inl h1
  · omega
theorem bestR_new {l : List Int} {k i q : Nat} (hc : chB l k i = false) (h : bestR l k i (q : Int)) (hv : l.getD q 0 < l.getD i 0) : bestR l k (i + 1) (i : Int) := by
  rcases h with ⟨e, h⟩ | ⟨q', e, hq, hu, h⟩
  · omega
  · obtain rfl : q = q' := by omega
    refine .inr ⟨i, rfl, by omega, hc, fun j hj hj2 => ?_⟩
    rcases lt_succ_cases hj with h1 | h1
    · right
      rcases h j h1 hj2 with rfl | h2
      · exact .inl hv
      · unfold aheadP at *; omega
    · exact .inl h1
theorem bestR_keep {l : List Int} {k i q : Nat} (hc : chB l k i = false) (h : bestR l k i (q : Int)) (hv : ¬ l.getD q 0 < l.getD i 0) : bestR l k (i + 1) (q : Int) := by
  rcases h with ⟨e, h⟩ | ⟨q', e, hq, hu, h⟩
  · omega
  · obtain rfl : q = q' := by omega
    refine .inr ⟨q, rfl, by omega, hu, fun j hj hj2 => ?_⟩
    rcases lt_succ_cases hj with h1 | rfl
    · exact h j h1 hj2
    · right; unfold aheadP; omega
theorem bestR_lt {l : List Int} {k i q : Nat} (h : bestR l k i (q : Int)) : q < i := by
  rcases h with ⟨e, h⟩ | ⟨q', e, hq, _⟩ <;> omega
theorem bestR_end {l : List Int} {k : Nat} {b : Int} (hk : k < l.length) (h : bestR l k l.length b) : ∃ q : Nat, b = q ∧ q < l.length ∧ (rankI l)[k]? = some ((q : Nat) : Int) := by
  obtain ⟨m, hm⟩ : ∃ m, l.length = m + 1 := ⟨l.length - 1, by omega⟩
  have hF := rankF_length l m
  have hkF : k < (rankF l m).length := by omega
  have hun : chB l k ((rankF l m)[k]).val = false := by
    rw [Bool.eq_false_iff]
    intro hc
    obtain ⟨i, hi, hik, he⟩ := (chB_iff l m k _ hm).1 hc
    have := aheadF l m i k hik hkF
    rw [he] at this
    unfold aheadP at this
    omega
  rcases h with ⟨-, h⟩ | ⟨q, rfl, hq, hu, h⟩
  · have := h _ (show ((rankF l m)[k]).val < l.length by have := ((rankF l m)[k]).isLt; omega)
    rw [hun] at this
    cases this
  · refine ⟨q, rfl, hq, ?_⟩
    rw [rankI_of l m hm]
    have hmem : (⟨q, by omega⟩ : Fin (m + 1)) ∈ rankF l m := (rankF_perm l m).mem_iff.2 (List.mem_finRange _)
    obtain ⟨i, hi, he⟩ := List.getElem_of_mem hmem
    have hev : ((rankF l m)[i]).val = q := by rw [he]
    have hik : i = k := by
      rcases Nat.lt_trichotomy i k with h1 | h1 | h1
      · have := (chB_iff l m k q hm).2 ⟨i, hi, h1, hev⟩
        rw [hu] at this; cases this
      · exact h1
      · have a := aheadF l m k i h1 hi
        rw [hev] at a
        rcases h _ (show ((rankF l m)[k]).val < l.length by have := ((rankF l m)[k]).isLt; omega) hun with h2 | h2
        · rw [h2] at a; unfold aheadP at a; omega
        · unfold aheadP at a h2; omega
    subst hik
    simp [hi, hev]
def lenV : Value → Nat
  | .slice _ l _ => l
  | _ => 0
theorem keep_other {w w' : World} {base B2 : Nat} {E : TypeId} {T U : Option Addr} {j td ud l : Nat} {vs ts : List Value} (ht : w.ownsRow base E 1 (.slice T j td) j ts) (h : w.ownsRow B2 E 1 (.slice U l ud) l vs) (g : w.grownBy w' (Value.slice T j td).ownBlock) (hT : LiesIn B2 T) : w'.ownsRow B2 E 1 (.slice U l ud) l vs := by
  refine h.kept g ?_
  cases U with
  | none => exact .inl rfl
  | some a =>
    refine .inr (fun e => ?_)
    have g1 := owns_ge h a.block (by simp [Value.ownBlock])
    rcases ht.2 with ⟨h0, _⟩ | ⟨g', cap', cur, hv, _⟩
    · cases h0
      simp [Value.ownBlock] at e
    · cases hv
      have g2 := hT g' 0 rfl
      have e2 : a.block = g' := by simpa [Value.ownBlock] using e
      omega

end Go.Proofs.Ytgdafgnjaogmeaa
