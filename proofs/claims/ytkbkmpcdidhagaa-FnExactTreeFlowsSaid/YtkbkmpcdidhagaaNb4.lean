/-
  A tree seen from a node: what leads to each node, and where ways go on; the mathematics.
-/
import Derived.Test.YtkbkmpcdidhagaaNb3
namespace Go.Proofs.Ytkbkmpcdidhagaa
open Go.ChangeShapes Go.WideShapes Go.ChangeAt Go.RowKit
set_option linter.unusedVariables false

theorem pipeTo_ix (Y : List Int) (x : Int) : pipeTo Y x = ixE (getI Y x) := rfl
/-- what leads to a node -/
theorem Rooted.lead {ps : List Pp} {n : Nat} {src : Int} {O Y : List Int} (R : Rooted ps n src O Y) (hj : Joins n ps) {x : Int} (x0 : 0 ≤ x) (x1 : x < n) (hs : x ≠ src) :
    ∃ p, ps[ixE (getI Y x)]? = some p ∧ pipeE ps (getI Y x) = p ∧ ((getI Y x = (ixE (getI Y x) : Int) + 1 ∧ p.t = x ∧ befI ps Y x = p.f) ∨ (getI Y x = -((ixE (getI Y x) : Int) + 1) ∧ p.f = x ∧ befI ps Y x = p.t)) ∧ pos O (befI ps Y x) < pos O x ∧ 0 ≤ befI ps Y x ∧ befI ps Y x < n := by
  have hx := R.all x x0 x1
  have hp := pos_at hx
  have hpos : 0 < pos O x := by
    rcases Nat.eq_zero_or_pos (pos O x) with h | h
    · rw [h, R.ok.src] at hp
      exact absurd (Option.some.inj hp).symm hs
    · exact h
  obtain ⟨p, h1, h2⟩ := (R.ok.par _ x hp hpos).pipe R.ok.nodup hp
  rw [pipeTo_ix] at h1 h2
  have he : pipeE ps (getI Y x) = p := by unfold pipeE; rw [h1]; rfl
  obtain ⟨⟨f0, f1⟩, ⟨t0, t1⟩, _⟩ := hj p (List.mem_of_getElem? h1)
  refine ⟨p, h1, he, ?_⟩
  rcases h2 with ⟨a, b, l, m⟩ | ⟨a, b, l, m⟩
  · have hb : befI ps Y x = p.f := by unfold befI; rw [if_pos (by omega), he]
    rw [hb]
    exact ⟨.inl ⟨a, b, rfl⟩, l, f0, f1⟩
  · have hb : befI ps Y x = p.t := by unfold befI; rw [if_neg (by omega), he]
    rw [hb]
    exact ⟨.inr ⟨a, b, rfl⟩, l, t0, t1⟩
theorem Rooted.legs {ps : List Pp} {n : Nat} {src : Int} {O Y : List Int} (R : Rooted ps n src O Y) (hj : Joins n ps) (s0 : 0 ≤ src) (s1 : src < n) : LegsOk ps Y src n := by
  refine ⟨s0, s1, fun x x0 x1 hs => ?_⟩
  obtain ⟨p, h1, h2, h3, h4, h5, h6⟩ := R.lead hj x0 x1 hs
  exact ⟨by rcases h3 with ⟨a, _⟩ | ⟨a, _⟩ <;> omega, h5⟩
theorem exits_mem {ps : List Pp} {v : Int} : ∀ (k : Nat), k ≤ ps.length → ∀ (e : Int × Int), e ∈ exitsTo noneClosed ps v k ↔ ∃ (i : Nat) (p : Pp), i < k ∧ ps[i]? = some p ∧ ((e = ((i : Int) + 1, p.t) ∧ p.f = v) ∨ (e = (-((i : Int) + 1), p.f) ∧ p.f ≠ v ∧ p.t = v))
  | 0, _, e => ⟨(fun h => by cases h), fun ⟨i, p, h, _⟩ => by omega⟩
  | k + 1, hk, e => by
    have hp : ps[k]? = some (ps[k]'(by omega)) := List.getElem?_eq_getElem (by omega)
    have ih := exits_mem (ps := ps) (v := v) k (by omega) e
    generalize ps[k]'(by omega) = q at hp
    have key : e ∈ exitsTo noneClosed ps v (k + 1) ↔ e ∈ exitsTo noneClosed ps v k ∨ ((e = ((k : Int) + 1, q.t) ∧ q.f = v) ∨ (e = (-((k : Int) + 1), q.f) ∧ q.f ≠ v ∧ q.t = v)) := by
      rw [exitsTo_at hp, if_neg (by simp [noneClosed, closedBy])]
      by_cases hf : q.f = v
      · rw [if_pos hf, List.mem_append, List.mem_singleton]
        constructor
        · rintro (h | h)
          · exact .inl h
          · exact .inr (.inl ⟨h, hf⟩)
        · rintro (h | ⟨h, _⟩ | ⟨_, h, _⟩)
          · exact .inl h
          · exact .inr h
          · exact absurd hf h
      · rw [if_neg hf]
        by_cases ht : q.t = v
        · rw [if_pos ht, List.mem_append, List.mem_singleton]
          constructor
          · rintro (h | h)
            · exact .inl h
            · exact .inr (.inr ⟨h, hf, ht⟩)
          · rintro (h | ⟨_, h⟩ | ⟨h, _, _⟩)
            · exact .inl h
            · exact absurd h hf
            · exact .inr h
        · rw [if_neg ht]
          constructor
          · exact .inl
          · rintro (h | ⟨_, h⟩ | ⟨_, _, h⟩)
            · exact h
            · exact absurd h hf
            · exact absurd h ht
    rw [key, ih]
    constructor
    · rintro (⟨i, p, hi, h⟩ | h)
      · exact ⟨i, p, by omega, h⟩
      · exact ⟨k, q, by omega, hp, h⟩
    · rintro ⟨i, p, hi, hip, h⟩
      by_cases e : i = k
      · subst e
        rw [hp] at hip
        obtain rfl : q = p := by simpa using hip
        exact .inr h
      · exact .inl ⟨i, p, by omega, hip, h⟩
/-- a leg by which ways go on leads to a node behind -/
theorem Rooted.kid {ps : List Pp} {n : Nat} {src : Int} {O Y : List Int} (R : Rooted ps n src O Y) (hj : Joins n ps) {v : Int} (v0 : 0 ≤ v) (v1 : v < n) {e : Int × Int} (he : e ∈ kids ps Y src v) :
    getI Y e.2 = e.1 ∧ befI ps Y e.2 = v ∧ e.2 ≠ src ∧ (0 ≤ e.2 ∧ e.2 < n) ∧ pos O v < pos O e.2 := by
  unfold kids at he
  rw [List.mem_filter] at he
  obtain ⟨he, hb⟩ := he
  have hb : e.2 ≠ befS ps Y src v := by simpa using hb
  obtain ⟨i, p, hi, hp, hc⟩ := (exits_mem ps.length (Nat.le_refl _) e).1 he
  obtain ⟨⟨f0, f1⟩, ⟨t0, t1⟩, hne⟩ := hj p (List.mem_of_getElem? hp)
  have hsrc0 : pos O src = 0 := pos_of R.ok.nodup R.ok.src
  have hix : ∀ {st : Int}, (st = (i : Int) + 1 ∨ st = -((i : Int) + 1)) → pipeE ps st = p := by
    intro st h
    have : ixE st = i := by unfold ixE absI; rcases h with h | h <;> rw [h] <;> split <;> omega
    unfold pipeE
    rw [this, hp]; rfl
  rcases R.own i p hp with ⟨a, l⟩ | ⟨a, l⟩ <;> rcases hc with ⟨rfl, hv⟩ | ⟨rfl, _, hv⟩
  · -- the pipe leads to p.t, seen from p.f
    refine ⟨a, ?_, ?_, ⟨t0, t1⟩, ?_⟩
    · show befI ps Y p.t = v
      unfold befI; rw [if_pos (by omega), hix (.inl a), hv]
    · rintro h
      have h : p.t = src := h
      rw [h, hsrc0] at l
      omega
    · rw [← hv]; exact l
  · -- it leads to p.t = v: e.2 = p.f is ahead of v
    exfalso
    apply hb
    show p.f = befS ps Y src v
    have hvs : v ≠ src := by rintro rfl; rw [hv, hsrc0] at l; omega
    unfold befS befI
    rw [if_neg hvs, ← hv, if_pos (by omega), hix (.inl a)]
  · exfalso
    apply hb
    show p.t = befS ps Y src v
    have hvs : v ≠ src := by rintro rfl; rw [hv, hsrc0] at l; omega
    unfold befS befI
    rw [if_neg hvs, ← hv, if_neg (by omega), hix (.inr a)]
  · refine ⟨a, ?_, ?_, ⟨f0, f1⟩, ?_⟩
    · show befI ps Y p.f = v
      unfold befI; rw [if_neg (by omega), hix (.inr a), hv]
    · rintro h
      have h : p.f = src := h
      rw [h, hsrc0] at l
      omega
    · rw [← hv]; exact l
/-- and so for each node but the first -/
theorem Rooted.kid_of {ps : List Pp} {n : Nat} {src : Int} {O Y : List Int} (R : Rooted ps n src O Y) (hj : Joins n ps) {x : Int} (x0 : 0 ≤ x) (x1 : x < n) (hs : x ≠ src) : (getI Y x, x) ∈ kids ps Y src (befI ps Y x) := by
  obtain ⟨p, h1, h2, h3, h4, h5, h6⟩ := R.lead hj x0 x1 hs
  obtain ⟨_, _, hne⟩ := hj p (List.mem_of_getElem? h1)
  unfold kids
  rw [List.mem_filter]
  constructor
  · refine (exits_mem ps.length (Nat.le_refl _) _).2 ⟨ixE (getI Y x), p, (List.getElem?_eq_some_iff.1 h1).1, h1, ?_⟩
    rcases h3 with ⟨a, b, c⟩ | ⟨a, b, c⟩
    · exact .inl ⟨by rw [b, ← a], c.symm⟩
    · exact .inr ⟨by rw [b, ← a], by rw [c]; exact hne, c.symm⟩
  · have hb : x ≠ befS ps Y src (befI ps Y x) := by
      unfold befS
      by_cases hbs : befI ps Y x = src
      · rw [if_pos hbs]; omega
      · rw [if_neg hbs]
        intro e
        obtain ⟨_, _, _, _, k4, _⟩ := R.lead hj h5 h6 hbs
        rw [← e] at k4
        omega
    simpa using hb
/-- a node lies beyond another one -/
def underK (ps : List Pp) (Y : List Int) (src v : Int) : Nat → Int → Prop
  | 0, x => x ≠ src ∧ befI ps Y x = v
  | k + 1, x => x ≠ src ∧ underK ps Y src v k (befI ps Y x)
def Under (ps : List Pp) (Y : List Int) (src v x : Int) : Prop := ∃ k, underK ps Y src v k x
theorem Rooted.under_kid {ps : List Pp} {n : Nat} {src : Int} {O Y : List Int} (R : Rooted ps n src O Y) (hj : Joins n ps) (v : Int) : ∀ (k : Nat) (x : Int), 0 ≤ x → x < n → underK ps Y src v k x → ∃ e ∈ kids ps Y src v, x = e.2 ∨ Under ps Y src e.2 x
  | 0, x, x0, x1, h => ⟨(getI Y x, x), by have := R.kid_of hj x0 x1 h.1; rw [h.2] at this; exact this, .inl rfl⟩
  | k + 1, x, x0, x1, h => by
    obtain ⟨p, _, _, _, _, h5, h6⟩ := R.lead hj x0 x1 h.1
    obtain ⟨e, he, hc⟩ := Rooted.under_kid R hj v k _ h5 h6 h.2
    refine ⟨e, he, .inr ?_⟩
    rcases hc with hc | ⟨j, hc⟩
    · exact ⟨0, h.1, hc⟩
    · exact ⟨j + 1, h.1, hc⟩
theorem Rooted.under_src {ps : List Pp} {n : Nat} {src : Int} {O Y : List Int} (R : Rooted ps n src O Y) (hj : Joins n ps) : ∀ (f : Nat) (x : Int), pos O x < f → 0 ≤ x → x < n → x ≠ src → Under ps Y src src x
  | 0, _, h, _, _, _ => by omega
  | f + 1, x, h, x0, x1, hs => by
    obtain ⟨p, _, _, _, h4, h5, h6⟩ := R.lead hj x0 x1 hs
    by_cases hb : befI ps Y x = src
    · exact ⟨0, hs, hb⟩
    · obtain ⟨k, hk⟩ := Rooted.under_src R hj f _ (by omega) h5 h6 hb
      exact ⟨k + 1, hs, hk⟩
/-- so many stores at most -/
def capF : Nat → Nat
  | 0 => 0
  | f + 1 => 15 * (1 + capF f)
theorem capF_16 : capF 16 + 1 < 9223372036854775807 := by decide +kernel
theorem kids_short (ps : List Pp) (Y : List Int) (src v : Int) : (kids ps Y src v).length ≤ ps.length :=
  Nat.le_trans (List.length_filter_le _ _) (exitsTo_short _ _ _ _)
theorem legOf_kid {ps : List Pp} {n : Nat} {src : Int} {O Y : List Int} (R : Rooted ps n src O Y) (hj : Joins n ps) {v : Int} (v0 : 0 ≤ v) (v1 : v < n) {e : Int × Int} (he : e ∈ kids ps Y src v) : legOf ps Y src e.2 = legV ps e.1 e.2 v := by
  obtain ⟨h1, h2, h3, h4, h5⟩ := R.kid hj v0 v1 he
  unfold legOf
  rw [if_neg (by omega), if_neg h3, h1, h2]
end Go.Proofs.Ytkbkmpcdidhagaa
