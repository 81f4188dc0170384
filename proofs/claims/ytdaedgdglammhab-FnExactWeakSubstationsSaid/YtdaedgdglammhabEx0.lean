/-
  The numbers of an exchanger: the greatest lesser one of what is given off, which falls, and of what can be carried,
  which grows, lies where they meet; the last temperature at which it is reached. No program in sight.
-/
import Derived.Test.YtdaedgdglammhabW6
namespace Go.Proofs.Ytdaedgdglammhab
open Go.ChangeShapes Go.WideShapes Go.ChangeAt Go.RowKit
set_option linter.unusedVariables false

def meanI (su re p b : Int) : Int := nearI (p - su + b - re) 2
def carI (tr su re p b : Int) : Int := nearI (tr * meanI su re p b) 100
def givI (p q b : Int) : Int := wattI q (p - b)
/-- the lesser one of two numbers, and not less than 0 -/
def lowI (g c : Int) : Int := if g ≤ c then g else c
def topI (a b : Int) : Int := if a ≤ b then b else a
def atI (G C : Int → Int) (b : Int) : Int := topI 0 (lowI (G b) (C b))
theorem topI_le {a b c : Int} (h : a ≤ c) (k : b ≤ c) : topI a b ≤ c := by unfold topI; split <;> assumption
theorem le_topI_l (a b : Int) : a ≤ topI a b := by unfold topI; split <;> omega
theorem le_topI_r (a b : Int) : b ≤ topI a b := by unfold topI; split <;> omega
theorem topI_or (a b : Int) : topI a b = a ∨ topI a b = b := by unfold topI; split <;> simp
theorem topI_mono {a b c d : Int} (h : a ≤ c) (k : b ≤ d) : topI a b ≤ topI c d := topI_le (Int.le_trans h (le_topI_l _ _)) (Int.le_trans k (le_topI_r _ _))
theorem lowI_mono {a b c d : Int} (h : a ≤ c) (k : b ≤ d) : lowI a b ≤ lowI c d := by unfold lowI; split <;> split <;> omega
theorem lowI_l (a b : Int) : lowI a b ≤ a := by unfold lowI; split <;> omega
theorem lowI_r (a b : Int) : lowI a b ≤ b := by unfold lowI; split <;> omega
theorem atI_nn (G C : Int → Int) (b : Int) : 0 ≤ atI G C b := le_topI_l _ _
theorem topI_assoc0 (a b : Int) : topI (topI 0 a) (topI 0 b) = topI (topI 0 a) b := by unfold topI; (repeat' split) <;> omega

/-- v is the greatest value of h from lo to hi -/
def Best (lo hi : Int) (h : Int → Int) (v : Int) : Prop := (∃ b, lo ≤ b ∧ b ≤ hi ∧ h b = v) ∧ ∀ b, lo ≤ b → b ≤ hi → h b ≤ v
theorem Best.eq {lo hi : Int} {h : Int → Int} {v u : Int} (k : Best lo hi h v) (l : Best lo hi h u) : v = u := by
  obtain ⟨⟨b, b0, b1, b2⟩, k1⟩ := k
  obtain ⟨⟨c, c0, c1, c2⟩, l1⟩ := l
  have := k1 c c0 c1
  have := l1 b b0 b1
  omega
theorem Best.mono {lo hi hi' : Int} {h h' : Int → Int} {v u : Int} (k : Best lo hi h v) (l : Best lo hi' h' u) (e : hi ≤ hi') (m : ∀ b, lo ≤ b → b ≤ hi → h b ≤ h' b) : v ≤ u := by
  obtain ⟨⟨b, b0, b1, b2⟩, k1⟩ := k
  have := l.2 b b0 (by omega)
  have := m b b0 b1
  omega
/-- where one falls and the other grows: l is below the meeting, or the first place; h is behind it, or behind the last place -/
theorem best_pair {lo hi l h : Int} {G C : Int → Int} (hg : ∀ x y, lo ≤ x → x ≤ y → y ≤ hi → G y ≤ G x) (hc : ∀ x y, lo ≤ x → x ≤ y → y ≤ hi → C x ≤ C y)
    (l0 : lo ≤ l) (l1 : l ≤ hi) (e : h = l + 1) (hl : l = lo ∨ C l ≤ G l) (hh : h ≤ hi → G h ≤ C h) :
    Best lo hi (atI G C) (if h ≤ hi then topI (atI G C l) (atI G C h) else atI G C l) := by
  have up : ∀ b, lo ≤ b → b ≤ l → atI G C b ≤ atI G C l := fun b b0 b1 => by
    rcases hl with hl | hl
    · have : b = l := by omega
      rw [this]
      exact Int.le_refl _
    · refine topI_mono (Int.le_refl _) ?_
      have := hc b l b0 b1 l1
      have := lowI_r (G b) (C b)
      have : lowI (G l) (C l) = C l := by unfold lowI; split <;> omega
      omega
  have dn : ∀ b, h ≤ b → b ≤ hi → atI G C b ≤ atI G C h := fun b b0 b1 => by
    refine topI_mono (Int.le_refl _) ?_
    have := hg h b (by omega) b0 b1
    have := lowI_l (G b) (C b)
    have := hh (by omega)
    have : lowI (G h) (C h) = G h := by unfold lowI; split <;> omega
    omega
  by_cases hle : h ≤ hi
  · rw [if_pos hle]
    refine ⟨?_, fun b b0 b1 => ?_⟩
    · rcases topI_or (atI G C l) (atI G C h) with k | k
      · exact ⟨l, l0, l1, k.symm⟩
      · exact ⟨h, by omega, hle, k.symm⟩
    · by_cases hb : b ≤ l
      · exact Int.le_trans (up b b0 hb) (le_topI_l _ _)
      · exact Int.le_trans (dn b (by omega) b1) (le_topI_r _ _)
  · rw [if_neg hle]
    exact ⟨⟨l, l0, l1, rfl⟩, fun b b0 b1 => up b b0 (by omega)⟩

/-- what the program reckons: f is the first place at which all that is given off can be carried -/
def crossI (lo hi : Int) (G C : Int → Int) (f : Int) : Int :=
  topI (topI 0 (lowI (G (topI (f - 1) lo)) (C (topI (f - 1) lo)))) (lowI (G (lowI f hi)) (C (lowI f hi)))
theorem cross_best {lo hi f : Int} {G C : Int → Int} (hlo : lo ≤ hi) (hg : ∀ x y, lo ≤ x → x ≤ y → y ≤ hi → G y ≤ G x) (hc : ∀ x y, lo ≤ x → x ≤ y → y ≤ hi → C x ≤ C y)
    (hf : Least lo hi 0 (fun b => C b - G b) f) : Best lo hi (atI G C) (crossI lo hi G C f) := by
  obtain ⟨f0, f1, f2, f3⟩ := hf
  unfold crossI
  rw [← topI_assoc0]
  show Best lo hi (atI G C) (topI (atI G C (topI (f - 1) lo)) (atI G C (lowI f hi)))
  by_cases ha : f ≤ hi
  · have e2 : lowI f hi = f := if_pos ha
    rw [e2]
    by_cases hb : lo < f
    · have e1 : topI (f - 1) lo = f - 1 := by unfold topI; split <;> omega
      rw [e1]
      have := best_pair (l := f - 1) (h := f) hg hc (by omega) (by omega) (by omega) (.inr (by have := f2 (f - 1) (by omega) (by omega); simp only at this; omega)) (fun _ => by have := f3 ha; simp only at this; omega)
      rwa [if_pos ha] at this
    · have hf : f = lo := by omega
      have e1 : topI (f - 1) lo = lo := if_pos (by omega)
      rw [e1, hf]
      have k := f3 ha
      simp only at k
      have k1 : topI (atI G C lo) (atI G C lo) = atI G C lo := by unfold topI; split <;> rfl
      rw [k1]
      refine ⟨⟨lo, Int.le_refl _, hlo, rfl⟩, fun b b0 b1 => topI_mono (Int.le_refl _) ?_⟩
      have := hg lo b (Int.le_refl _) b0 b1
      have := lowI_l (G b) (C b)
      rw [hf] at k
      have : lowI (G lo) (C lo) = G lo := if_pos (by omega)
      omega
  · have hf : f = hi + 1 := by omega
    have e2 : lowI f hi = hi := by unfold lowI; split <;> omega
    have e1 : topI (f - 1) lo = hi := by unfold topI; split <;> omega
    rw [e1, e2]
    have k1 : topI (atI G C hi) (atI G C hi) = atI G C hi := by unfold topI; split <;> rfl
    rw [k1]
    have := best_pair (l := hi) (h := hi + 1) hg hc hlo (Int.le_refl _) rfl (.inr (by have := f2 hi hlo (by omega); simp only at this; omega)) (fun h => by omega)
    rwa [if_neg (by omega)] at this

/-- r is the last place from lo to hi at which h is v, and it is less behind it -/
def LastAt (lo hi : Int) (h : Int → Int) (v r : Int) : Prop := lo ≤ r ∧ r ≤ hi ∧ h r = v ∧ ∀ b, r < b → b ≤ hi → h b < v
theorem LastAt.eq {lo hi : Int} {h : Int → Int} {v r s : Int} (k : LastAt lo hi h v r) (l : LastAt lo hi h v s) : r = s := by
  obtain ⟨a0, a1, a2, a3⟩ := k
  obtain ⟨b0, b1, b2, b3⟩ := l
  by_cases h1 : r < s
  · have := a3 s h1 b1; omega
  · by_cases h2 : s < r
    · have := b3 r h2 a1; omega
    · omega

/-- the last number from lo to hi with p, lo - 1 if there is none, where p holds for none behind one without it -/
def lastI (lo hi : Int) (p : Int → Bool) : Int := lo + countF (fun i => !p (lo + (i : Int))) (hi - lo + 1).toNat - 1
theorem lastI_spec (lo hi : Int) (p : Int → Bool) (h : lo ≤ hi + 1) (hm : ∀ x y, lo ≤ x → x ≤ y → y ≤ hi → p y = true → p x = true) :
    lo - 1 ≤ lastI lo hi p ∧ lastI lo hi p ≤ hi ∧ (∀ x, lo ≤ x → x ≤ lastI lo hi p → p x = true) ∧ ∀ x, lastI lo hi p < x → x ≤ hi → p x = false := by
  obtain ⟨c1, c2, c3⟩ := countF_spec (fun i => !p (lo + (i : Int))) (hi - lo + 1).toNat (fun a b hab hb ha => by
    cases hb2 : p (lo + (b : Int)) with
    | false => rfl
    | true =>
      have := hm (lo + (a : Int)) (lo + (b : Int)) (by omega) (by omega) (by omega) hb2
      simp [this] at ha)
  unfold lastI
  refine ⟨by omega, by omega, fun x a b => ?_, fun x a b => ?_⟩
  · have hx : x = lo + ((x - lo).toNat : Nat) := by omega
    have := c2 (x - lo).toNat (by omega)
    rw [← hx] at this
    simpa using this
  · have hx : x = lo + ((x - lo).toNat : Nat) := by omega
    have := c3 (x - lo).toNat (by omega) (by omega)
    rw [← hx] at this
    simpa using this
/-- what the program answers: the last place at which no less is given off than the greatest value -/
theorem last_back {lo hi v : Int} {G C : Int → Int} (hlo : lo ≤ hi) (hg : ∀ x y, lo ≤ x → x ≤ y → y ≤ hi → G y ≤ G x) (hc : ∀ x y, lo ≤ x → x ≤ y → y ≤ hi → C x ≤ C y)
    (h0 : G hi = 0) (hv : Best lo hi (atI G C) v) : LastAt lo hi (atI G C) v (lastI lo hi (fun b => decide (v ≤ G b))) := by
  obtain ⟨a0, a1, a2, a3⟩ := lastI_spec lo hi (fun b => decide (v ≤ G b)) (by omega) (fun x y x0 xy y1 k => by
    have := hg x y x0 xy y1
    simp only [decide_eq_true_eq] at k ⊢
    omega)
  generalize lastI lo hi (fun b => decide (v ≤ G b)) = r at *
  obtain ⟨⟨b, b0, b1, b2⟩, hmax⟩ := hv
  have hv0 : 0 ≤ v := by have := atI_nn G C b; omega
  -- somewhere it is reached
  have hr : b ≤ r ∨ v = 0 := by
    by_cases hh : b ≤ r
    · exact .inl hh
    · have := a3 b (by omega) b1
      simp only [decide_eq_false_iff_not] at this
      rcases topI_or 0 (lowI (G b) (C b)) with k | k
      · exact .inr (b2.symm.trans k)
      · have := lowI_l (G b) (C b)
        have k2 : v = lowI (G b) (C b) := b2.symm.trans k
        omega
  have hlr : lo ≤ r := by
    rcases hr with h | h
    · omega
    · by_cases hh : hi ≤ r
      · omega
      · have := a3 hi (by omega) (Int.le_refl _)
        simp only [decide_eq_false_iff_not] at this
        omega
  have hgr := a2 r hlr (Int.le_refl _)
  simp only [decide_eq_true_eq] at hgr
  refine ⟨hlr, a1, ?_, fun x x0 x1 => ?_⟩
  · refine Int.le_antisymm (hmax r hlr a1) ?_
    by_cases hz : v = 0
    · rw [hz]; exact atI_nn _ _ _
    · have hbr : b ≤ r := by exact hr.resolve_right hz
      have hvb : v = lowI (G b) (C b) := by
        rcases topI_or 0 (lowI (G b) (C b)) with k | k
        · exact absurd (b2.symm.trans k) hz
        · exact b2.symm.trans k
      have := lowI_r (G b) (C b)
      have := hc b r b0 hbr a1
      refine Int.le_trans ?_ (le_topI_r _ _)
      unfold lowI
      split <;> omega
  · have := a3 x x0 x1
    simp only [decide_eq_false_iff_not] at this
    have hle := hmax x (by omega) x1
    have := lowI_l (G x) (C x)
    rcases topI_or 0 (lowI (G x) (C x)) with k | k
    · by_cases hz : v = 0
      · -- nothing lies behind the last place then
        have g := hg x hi (by omega) x1 (Int.le_refl _)
        exfalso
        omega
      · show topI 0 (lowI (G x) (C x)) < v
        rw [k]
        omega
    · show topI 0 (lowI (G x) (C x)) < v
      rw [k]
      omega

/-- both numbers of an exchanger -/
theorem giv_anti (p q x y : Int) (q0 : 0 ≤ q) (h : x ≤ y) : givI p q y ≤ givI p q x :=
  by
  show nearI (q * 4186 * (p - y)) 100000 ≤ nearI (q * 4186 * (p - x)) 100000
  exact nearI_mono _ _ _ (by omega) (Int.mul_le_mul_of_nonneg_left (by omega) (Int.mul_nonneg q0 (by omega)))
theorem giv_last (p q : Int) : givI p q p = 0 := by
  unfold givI wattI
  rw [Int.sub_self, Int.mul_zero]
  exact nearI_zero _ (by omega)
theorem mean_mono (su re p p' b b' : Int) (h : p ≤ p') (k : b ≤ b') : meanI su re p b ≤ meanI su re p' b' := nearI_mono _ _ _ (by omega) (by omega)
theorem car_mono (tr su re p p' b b' : Int) (t0 : 0 ≤ tr) (h : p ≤ p') (k : b ≤ b') : carI tr su re p b ≤ carI tr su re p' b' :=
  nearI_mono _ _ _ (by omega) (Int.mul_le_mul_of_nonneg_left (mean_mono _ _ _ _ _ _ h k) t0)
def powI (tr su re p q : Int) : Int := if p < re then 0 else crossI re p (givI p q) (carI tr su re p) (leastI re p 0 (fun b => carI tr su re p b - givI p q b))
theorem pow_best (tr su re p q : Int) (t0 : 0 ≤ tr) (q0 : 0 ≤ q) (h : re ≤ p) : Best re p (atI (givI p q) (carI tr su re p)) (powI tr su re p q) := by
  unfold powI
  rw [if_neg (by omega)]
  refine cross_best h (fun x y _ k _ => giv_anti p q x y q0 k) (fun x y _ k _ => car_mono _ _ _ _ _ _ _ t0 (Int.le_refl _) k) ?_
  exact leastI_spec re p 0 _ (by omega) fun x y _ k _ => by
    have := giv_anti p q x y q0 k
    have := car_mono tr su re p p x y t0 (Int.le_refl _) k
    show carI tr su re p x - givI p q x ≤ carI tr su re p y - givI p q y
    omega
theorem pow_low (tr su re p q : Int) (t0 : 0 ≤ tr) (q0 : 0 ≤ q) : 0 ≤ powI tr su re p q := by
  by_cases h : re ≤ p
  · obtain ⟨⟨b, _, _, e⟩, _⟩ := pow_best tr su re p q t0 q0 h
    rw [← e]
    exact atI_nn _ _ _
  · unfold powI
    rw [if_pos (by omega)]
    exact Int.le_refl _
theorem at_mono {G G' C C' : Int → Int} {b : Int} (h : G b ≤ G' b) (k : C b ≤ C' b) : atI G C b ≤ atI G' C' b := topI_mono (Int.le_refl _) (lowI_mono h k)
theorem pow_flow (tr su re p q r : Int) (t0 : 0 ≤ tr) (q0 : 0 ≤ q) (h : q ≤ r) : powI tr su re p q ≤ powI tr su re p r := by
  by_cases hp : re ≤ p
  · exact (pow_best tr su re p q t0 q0 hp).mono (pow_best tr su re p r t0 (by omega) hp) (Int.le_refl _) fun b _ b1 => at_mono (watt_mono q r (p - b) h (by omega)) (Int.le_refl _)
  · unfold powI
    rw [if_pos (by omega), if_pos (by omega)]
    exact Int.le_refl _
theorem pow_transfer (tr ts su re p q : Int) (t0 : 0 ≤ tr) (q0 : 0 ≤ q) (h : tr ≤ ts) : powI tr su re p q ≤ powI ts su re p q := by
  by_cases hp : re ≤ p
  · refine (pow_best tr su re p q t0 q0 hp).mono (pow_best ts su re p q (by omega) q0 hp) (Int.le_refl _) fun b _ b1 => ?_
    by_cases hm : 0 ≤ meanI su re p b
    · exact at_mono (Int.le_refl _) (nearI_mono _ _ _ (by omega) (Int.mul_le_mul_of_nonneg_right h hm))
    · have : carI tr su re p b ≤ 0 := nearI_nonpos _ _ (by omega) (Int.mul_nonpos_of_nonneg_of_nonpos t0 (by omega))
      have := lowI_r (givI p q b) (carI tr su re p b)
      exact topI_le (atI_nn _ _ _) (Int.le_trans (by omega) (atI_nn _ _ _))
  · unfold powI
    rw [if_pos (by omega), if_pos (by omega)]
    exact Int.le_refl _
theorem pow_primary (tr su re p p' q : Int) (t0 : 0 ≤ tr) (q0 : 0 ≤ q) (h : p ≤ p') : powI tr su re p q ≤ powI tr su re p' q := by
  by_cases hp : re ≤ p
  · refine (pow_best tr su re p q t0 q0 hp).mono (pow_best tr su re p' q t0 q0 (by omega)) h fun b _ b1 => at_mono ?_ (car_mono _ _ _ _ _ _ _ t0 h (Int.le_refl _))
    show nearI (q * 4186 * (p - b)) 100000 ≤ nearI (q * 4186 * (p' - b)) 100000
    exact nearI_mono _ _ _ (by omega) (Int.mul_le_mul_of_nonneg_left (by omega) (Int.mul_nonneg q0 (by omega)))
  · have : powI tr su re p q = 0 := if_pos (by omega)
    rw [this]
    exact pow_low _ _ _ _ _ t0 q0
/-- the warmest return of a flow that has its power -/
def backI (tr su re p q : Int) : Int := lastI re p (fun b => decide (powI tr su re p q ≤ givI p q b))
theorem back_last (tr su re p q : Int) (t0 : 0 ≤ tr) (q0 : 0 ≤ q) (h : re ≤ p) : LastAt re p (atI (givI p q) (carI tr su re p)) (powI tr su re p q) (backI tr su re p q) :=
  last_back h (fun x y _ k _ => giv_anti p q x y q0 k) (fun x y _ k _ => car_mono _ _ _ _ _ _ _ t0 (Int.le_refl _) k) (giv_last p q) (pow_best _ _ _ _ _ t0 q0 h)

/-- sizes -/
theorem mean_bd (su re p b : Int) (h0 : -100000 ≤ p - su + b - re) (h1 : p - su + b - re ≤ 100000) : -100000 ≤ meanI su re p b ∧ meanI su re p b ≤ 100000 := nearI_lim _ _ _ h0 h1 (by omega)
theorem carnum_bd (tr m : Int) (t0 : 0 ≤ tr) (t1 : tr ≤ 100000) (m0 : -100000 ≤ m) (m1 : m ≤ 100000) : -10000000000 ≤ tr * m ∧ tr * m ≤ 10000000000 := mul_sgn tr m 100000 100000 t0 t1 m0 m1
theorem car_bd (tr su re p b : Int) (t0 : 0 ≤ tr) (t1 : tr ≤ 100000) (h0 : -100000 ≤ p - su + b - re) (h1 : p - su + b - re ≤ 100000) : -10000000000 ≤ carI tr su re p b ∧ carI tr su re p b ≤ 10000000000 := by
  have m := mean_bd su re p b h0 h1
  have n := carnum_bd tr _ t0 t1 m.1 m.2
  exact nearI_lim _ _ _ n.1 n.2 (by omega)
theorem giv_bd (p q b : Int) (q0 : -100000 ≤ q) (q1 : q ≤ 100000) (d0 : -25000 ≤ p - b) (d1 : p - b ≤ 25000) : -10465000000000 ≤ givI p q b ∧ givI p q b ≤ 10465000000000 := watt_bd q (p - b) q0 q1 d0 d1
end Go.Proofs.Ytdaedgdglammhab
