/-
  Plain numbers for chapters 2 and 3: nearest quotients grow, lines through points, the least place at which a rising function reaches a goal, drops, water and losses of pipes.
-/
import Derived.Test.YthmnfobhgeamiaaA4
namespace Go.Proofs.Ythmnfobhgeamiaa
open Go.ChangeShapes Go.WideShapes Go.ChangeAt Go.RowKit

theorem nearI_pos (a b : Int) (hb : 0 < b) : nearI a b = if a < 0 then -((b - 2 * a) / (2 * b)) else (2 * a + b) / (2 * b) := by
  unfold nearI; rw [if_neg (by omega)]
theorem nearI_neg (a b : Int) (hb : 0 < b) : nearI (-a) b = -nearI a b := by
  rw [nearI_pos _ _ hb, nearI_pos _ _ hb]
  by_cases h : a < 0
  · rw [if_neg (by omega), if_pos h, show 2 * -a + b = b - 2 * a by omega]; omega
  · by_cases h0 : a = 0
    · subst h0
      rw [if_neg (by omega), if_neg (by omega), Int.neg_zero, Int.mul_zero, Int.zero_add, Int.ediv_eq_zero_of_lt (by omega) (by omega)]; rfl
    · rw [if_pos (by omega), if_neg h, show b - 2 * -a = 2 * a + b by omega]
theorem nearI_nonneg (a b : Int) (hb : 0 < b) (ha : 0 ≤ a) : 0 ≤ nearI a b := by
  rw [nearI_pos _ _ hb, if_neg (by omega)]
  exact Int.ediv_nonneg (by omega) (by omega)
theorem nearI_nonpos (a b : Int) (hb : 0 < b) (ha : a ≤ 0) : nearI a b ≤ 0 := by
  have := nearI_nonneg (-a) b hb (by omega)
  rw [nearI_neg _ _ hb] at this
  omega
theorem nearI_mono (a c b : Int) (hb : 0 < b) (h : a ≤ c) : nearI a b ≤ nearI c b := by
  by_cases hc : c ≤ 0
  · have e1 := nearI_neg a b hb
    have e2 := nearI_neg c b hb
    have k : nearI (-c) b ≤ nearI (-a) b := by
      rw [nearI_pos _ _ hb, nearI_pos _ _ hb, if_neg (by omega), if_neg (by omega)]
      exact Int.ediv_le_ediv (by omega) (by omega)
    omega
  · by_cases ha : a ≤ 0
    · have h1 := nearI_nonpos a b hb ha
      have h2 := nearI_nonneg c b hb (by omega)
      omega
    · rw [nearI_pos _ _ hb, nearI_pos _ _ hb, if_neg (by omega), if_neg (by omega)]
      exact Int.ediv_le_ediv (by omega) (by omega)
theorem nearI_anti (a b c : Int) (ha : 0 ≤ a) (hb : 0 < b) (h : b ≤ c) : nearI a c ≤ nearI a b := by
  rw [nearI_pos _ _ hb, nearI_pos _ _ (by omega), if_neg (by omega), if_neg (by omega)]
  have hq := Int.mul_ediv_self_le (x := 2 * a + c) (k := 2 * c) (by omega)
  have hq0 : 0 ≤ (2 * a + c) / (2 * c) := Int.ediv_nonneg (by omega) (by omega)
  generalize (2 * a + c) / (2 * c) = q at *
  refine Int.le_ediv_of_mul_le (by omega) ?_
  by_cases h0 : q = 0
  · subst h0; omega
  · have hm : b * (2 * q - 1) ≤ c * (2 * q - 1) := Int.mul_le_mul_of_nonneg_right h (by omega)
    rw [Int.mul_sub, Int.mul_sub, Int.mul_one, Int.mul_one] at hm
    have e1 : 2 * c * q = c * (2 * q) := by rw [Int.mul_assoc, Int.mul_left_comm]
    have e2 : q * (2 * b) = b * (2 * q) := by rw [Int.mul_comm q, Int.mul_assoc, Int.mul_left_comm]
    rw [e1] at hq
    rw [e2]
    omega

theorem nearI_whole (c b : Int) (hb : 0 < b) : nearI (c * b) b = c := by
  have k : ∀ d : Int, 0 ≤ d → nearI (d * b) b = d := fun d hd => by
    rw [nearI_pos _ _ hb, if_neg (by have := Int.mul_nonneg hd (by omega : 0 ≤ b); omega)]
    rw [show 2 * (d * b) + b = b + 2 * b * d by rw [Int.mul_comm d b, Int.mul_assoc]; omega, Int.add_mul_ediv_left _ _ (by omega), Int.ediv_eq_zero_of_lt (by omega) (by omega)]
    omega
  by_cases h : 0 ≤ c
  · exact k c h
  · have := k (-c) (by omega)
    rw [Int.neg_mul, nearI_neg _ _ hb] at this
    omega
/-- a nearest quotient of a product lies within the product's factors -/
theorem nearI_part (d u b : Int) (hb : 0 < b) (hd : 0 ≤ d) (hu0 : 0 ≤ u) (hu : u ≤ b) : 0 ≤ nearI (d * u) b ∧ nearI (d * u) b ≤ d := by
  refine ⟨nearI_nonneg _ _ hb (Int.mul_nonneg hd hu0), ?_⟩
  have := nearI_mono (d * u) (d * b) b hb (Int.mul_le_mul_of_nonneg_left hu hd)
  rwa [nearI_whole _ _ hb] at this

theorem line_bd (x0 y0 x1 y1 x : Int) (hx : x0 < x1) (hy : y0 ≤ y1) : y0 ≤ lineI x0 y0 x1 y1 x ∧ lineI x0 y0 x1 y1 x ≤ y1 := by
  unfold lineI
  split
  · omega
  · split
    · omega
    · have := nearI_part (y1 - y0) (x - x0) (x1 - x0) (by omega) (by omega) (by omega) (by omega)
      omega
theorem line_mono (x0 y0 x1 y1 x z : Int) (hx : x0 < x1) (hy : y0 ≤ y1) (h : x ≤ z) : lineI x0 y0 x1 y1 x ≤ lineI x0 y0 x1 y1 z := by
  by_cases h0 : x ≤ x0
  · have := (line_bd x0 y0 x1 y1 z hx hy).1
    have e : lineI x0 y0 x1 y1 x = y0 := by unfold lineI; rw [if_pos (.inl h0)]
    omega
  · by_cases h1 : x1 ≤ z
    · have := (line_bd x0 y0 x1 y1 x hx hy).2
      have e : lineI x0 y0 x1 y1 z = y1 := by unfold lineI; rw [if_neg (by omega), if_pos h1]
      omega
    · have e1 : lineI x0 y0 x1 y1 x = y0 + nearI ((y1 - y0) * (x - x0)) (x1 - x0) := by unfold lineI; rw [if_neg (by omega), if_neg (by omega)]
      have e2 : lineI x0 y0 x1 y1 z = y0 + nearI ((y1 - y0) * (z - x0)) (x1 - x0) := by unfold lineI; rw [if_neg (by omega), if_neg (by omega)]
      have := nearI_mono ((y1 - y0) * (x - x0)) ((y1 - y0) * (z - x0)) (x1 - x0) (by omega) (Int.mul_le_mul_of_nonneg_left (by omega) (by omega))
      omega
theorem line_neg (x0 y0 x1 y1 x : Int) : lineI x0 (-y0) x1 (-y1) x = -lineI x0 y0 x1 y1 x := by
  unfold lineI
  split
  · rfl
  · split
    · rfl
    · rw [show (-y1 - -y0) * (x - x0) = -((y1 - y0) * (x - x0)) by rw [← Int.neg_mul]; congr 1; omega, nearI_neg _ _ (by omega)]
      omega

/-- the height at x of a line through points: the first part that reaches to x, or the last one -/
def curveL : List (Int × Int) → Int → Int
  | p :: q :: r, x => if x ≤ q.1 ∨ r = [] then lineI p.1 p.2 q.1 q.2 x else curveL (q :: r) x
  | [p], _ => p.2
  | [], _ => 0
/-- points that go to the right and never down -/
def Rises : List (Int × Int) → Prop
  | p :: q :: r => p.1 < q.1 ∧ p.2 ≤ q.2 ∧ Rises (q :: r)
  | _ => True
theorem curve_low (p : Int × Int) (l : List (Int × Int)) (x : Int) (h : Rises (p :: l)) : p.2 ≤ curveL (p :: l) x := by
  induction l generalizing p with
  | nil => exact Int.le_refl _
  | cons q r ih =>
    obtain ⟨h1, h2, h3⟩ := h
    unfold curveL
    split
    · exact (line_bd p.1 p.2 q.1 q.2 x h1 h2).1
    · have := ih q h3
      omega
theorem curve_mono (l : List (Int × Int)) (x z : Int) (h : Rises l) (hxz : x ≤ z) : curveL l x ≤ curveL l z := by
  match l with
  | [] => exact Int.le_refl _
  | [p] => exact Int.le_refl _
  | p :: q :: r =>
    obtain ⟨h1, h2, h3⟩ := h
    have ih := curve_mono (q :: r) x z h3 hxz
    unfold curveL
    by_cases hr : r = []
    · rw [if_pos (.inr hr), if_pos (.inr hr)]
      exact line_mono _ _ _ _ _ _ h1 h2 hxz
    · by_cases hz : z ≤ q.1
      · rw [if_pos (.inl (by omega)), if_pos (.inl hz)]
        exact line_mono _ _ _ _ _ _ h1 h2 hxz
      · rw [if_neg (c := z ≤ q.1 ∨ r = []) (by simp [hr]; omega)]
        by_cases hx : x ≤ q.1
        · rw [if_pos (.inl hx)]
          have a := (line_bd p.1 p.2 q.1 q.2 x h1 h2).2
          have b := curve_low q r z h3
          omega
        · rw [if_neg (by simp [hr]; omega)]
          exact ih
/-- the same line mirrored -/
def downL (l : List (Int × Int)) : List (Int × Int) := l.map fun p => (p.1, -p.2)
theorem curve_down (l : List (Int × Int)) (x : Int) : curveL (downL l) x = -curveL l x := by
  match l with
  | [] => rfl
  | [p] => rfl
  | p :: q :: r =>
    have ih := curve_down (q :: r) x
    have e : downL (p :: q :: r) = (p.1, -p.2) :: (q.1, -q.2) :: downL r := rfl
    have e' : downL (q :: r) = (q.1, -q.2) :: downL r := rfl
    rw [e]
    rw [e'] at ih
    unfold curveL
    have hn : downL r = [] ↔ r = [] := by unfold downL; simp
    by_cases hc : x ≤ q.1 ∨ r = []
    · rw [if_pos hc, if_pos (by simpa [hn] using hc)]
      exact line_neg _ _ _ _ _
    · rw [if_neg hc, if_neg (by simpa [hn] using hc)]
      exact ih
/-- the part that answers: it is the first one whose end is not left of x, or the last one -/
theorem curve_at (l : List (Int × Int)) (x : Int) (k : Nat) (hk : k + 1 < l.length) (hb : ∀ j, 1 ≤ j → j ≤ k → (l.getD j (0, 0)).1 < x) (he : x ≤ (l.getD (k + 1) (0, 0)).1 ∨ k + 2 = l.length) :
    curveL l x = lineI (l.getD k (0, 0)).1 (l.getD k (0, 0)).2 (l.getD (k + 1) (0, 0)).1 (l.getD (k + 1) (0, 0)).2 x := by
  induction k generalizing l with
  | zero =>
    match l, hk with
    | p :: q :: r, _ =>
      unfold curveL
      rw [if_pos (by
        rcases he with h | h
        · exact .inl (by simpa using h)
        · exact .inr (by simpa using h.symm))]
      rfl
  | succ k ih =>
    match l, hk with
    | p :: q :: r, hk =>
      have h1 := hb 1 (by omega) (by omega)
      unfold curveL
      rw [if_neg (by
        intro h
        rcases h with h | h
        · have : q.1 < x := by simpa using h1
          omega
        · subst h; simp at hk; omega)]
      have := ih (q :: r) (by simp at hk ⊢; omega) (fun j a b => by have := hb (j + 1) (by omega) (by omega); simpa using this) (by
        rcases he with h | h
        · exact .inl (by simpa using h)
        · exact .inr (by simp at h ⊢; omega))
      rw [this]
      simp

/-- how many places below n are still false, where a test that has come true stays so -/
def countF (p : Nat → Bool) (n : Nat) : Nat := (List.range n).countP fun i => !p i
theorem countF_spec (p : Nat → Bool) (n : Nat) (hm : ∀ a b, a ≤ b → b < n → p a = true → p b = true) :
    countF p n ≤ n ∧ (∀ j, j < countF p n → p j = false) ∧ (∀ j, countF p n ≤ j → j < n → p j = true) := by
  induction n with
  | zero => exact ⟨Nat.le_refl _, fun j h => by simp [countF] at h, fun j _ h => by omega⟩
  | succ n ih =>
    obtain ⟨h1, h2, h3⟩ := ih fun a b hab hb => hm a b hab (by omega)
    have e : countF p (n + 1) = countF p n + if p n = true then 0 else 1 := by
      unfold countF
      rw [List.range_succ, List.countP_append]
      cases h : p n <;> simp [h]
    cases h : p n with
    | true =>
      rw [h] at e
      simp at e
      rw [e]
      refine ⟨by omega, h2, fun j a b => ?_⟩
      by_cases hj : j = n
      · rw [hj]; exact h
      · exact h3 j a (by omega)
    | false =>
      rw [h] at e
      simp at e
      have hall : ∀ j, j ≤ n → p j = false := fun j hj => by
        cases hh : p j with
        | false => rfl
        | true => have := hm j n hj (by omega) hh; rw [h] at this; cases this
      have hc : countF p n = n := by
        by_cases hlt : countF p n < n
        · have := h3 (countF p n) (Nat.le_refl _) hlt
          rw [hall _ (by omega)] at this
          cases this
        · omega
      rw [e, hc]
      exact ⟨Nat.le_refl _, fun j hj => hall j (by omega), fun j a b => by omega⟩

/-- r is the least number from lo to hi at which F is at least goal, hi + 1 if there is none -/
def Least (lo hi goal : Int) (F : Int → Int) (r : Int) : Prop :=
  lo ≤ r ∧ r ≤ hi + 1 ∧ (∀ x, lo ≤ x → x < r → F x < goal) ∧ (r ≤ hi → goal ≤ F r)
theorem Least.eq {lo hi goal : Int} {F : Int → Int} {r s : Int} (h : Least lo hi goal F r) (k : Least lo hi goal F s) : r = s := by
  obtain ⟨a1, a2, a3, a4⟩ := h
  obtain ⟨b1, b2, b3, b4⟩ := k
  by_cases h1 : r < s
  · have := b3 r a1 h1
    have := a4 (by omega)
    omega
  · by_cases h2 : s < r
    · have := a3 s b1 h2
      have := b4 (by omega)
      omega
    · omega
/-- what a search by halves ends with: the place below fails, the place above does not -/
theorem least_of_pair {lo hi goal : Int} {F : Int → Int} {l h : Int} (hm : ∀ x y, lo ≤ x → x ≤ y → y ≤ hi → F x ≤ F y) (e : h = l + 1) (h0 : lo - 1 ≤ l) (h1 : h ≤ hi + 1)
    (hl : lo ≤ l → F l < goal) (hh : h ≤ hi → goal ≤ F h) : Least lo hi goal F h := by
  refine ⟨by omega, h1, fun x a b => ?_, hh⟩
  have k1 := hm x l a (by omega) (by omega)
  have k2 := hl (by omega)
  omega
theorem least_of_count {lo hi goal : Int} {F : Int → Int} {p : Nat → Bool} {n : Nat} (hn : (n : Int) = hi - lo + 1) (hp : ∀ i : Nat, i < n → p i = decide (goal ≤ F (lo + i))) (hm : ∀ x y, lo ≤ x → x ≤ y → y ≤ hi → F x ≤ F y) :
    Least lo hi goal F (lo + countF p n) := by
  have hmp : ∀ a b, a ≤ b → b < n → p a = true → p b = true := fun a b hab hb ha => by
    rw [hp a (by omega), decide_eq_true_eq] at ha
    rw [hp b hb, decide_eq_true_eq]
    have := hm (lo + a) (lo + b) (by omega) (by omega) (by omega)
    omega
  obtain ⟨c1, c2, c3⟩ := countF_spec p n hmp
  refine ⟨by omega, by omega, fun x a b => ?_, fun h => ?_⟩
  · have hx : x = lo + ((x - lo).toNat : Nat) := by omega
    have := c2 (x - lo).toNat (by omega)
    rw [hp _ (by omega), decide_eq_false_iff_not, ← hx] at this
    omega
  · have := c3 (countF p n) (Nat.le_refl _) (by omega)
    rw [hp _ (by omega), decide_eq_true_eq] at this
    exact this

theorem curve_high (l : List (Int × Int)) (x M : Int) (h : Rises l) (hM : ∀ p ∈ l, p.2 ≤ M) (h0 : l ≠ []) : curveL l x ≤ M := by
  match l with
  | [] => exact absurd rfl h0
  | [p] => exact hM p (by simp)
  | p :: q :: r =>
    obtain ⟨h1, h2, h3⟩ := h
    have ih := curve_high (q :: r) x M h3 (fun p hp => hM p (by simp at hp ⊢; exact .inr hp)) (by simp)
    unfold curveL
    split
    · have a := (line_bd p.1 p.2 q.1 q.2 x h1 h2).2
      have b := hM q (by simp)
      omega
    · exact ih

/-- the table of densities -/
def densPts : List (Int × Int) := [(0, 99984), (2000, 99820), (4000, 99220), (6000, 98320), (8000, 97180), (10000, 95835), (12000, 94310), (14000, 92610), (16000, 90745), (18000, 88700)]
/-- the table of boiling -/
def boilPts : List (Int × Int) := [(1000, 700), (2000, 1750), (10000, 4580), (50000, 8135), (101325, 9961), (200000, 12023), (400000, 14361), (600000, 15883), (1000000, 17988), (1200000, 18796)]
def densI (x : Int) : Int := curveL densPts x
def boilI (x : Int) : Int := curveL boilPts x
theorem boil_rises : Rises boilPts := by unfold boilPts; simp [Rises]
theorem dens_falls : Rises (downL densPts) := by unfold densPts downL; simp [Rises]
theorem boil_mono (x z : Int) (h : x ≤ z) : boilI x ≤ boilI z := curve_mono _ _ _ boil_rises h
theorem dens_mono (x z : Int) (h : x ≤ z) : densI z ≤ densI x := by
  have := curve_mono _ x z dens_falls h
  rw [curve_down, curve_down] at this
  unfold densI; omega
theorem boil_bd (x : Int) : 700 ≤ boilI x ∧ boilI x ≤ 18796 :=
  ⟨curve_low (1000, 700) _ x boil_rises, curve_high _ x 18796 boil_rises (by unfold boilPts; simp) (by unfold boilPts; simp)⟩
theorem dens_bd (x : Int) : 88700 ≤ densI x ∧ densI x ≤ 99984 := by
  have a : (-99984 : Int) ≤ curveL (downL densPts) x := curve_low (0, -99984) _ x dens_falls
  have b := curve_high _ x (-88700) dens_falls (by unfold densPts downL; simp) (by unfold densPts downL; simp)
  rw [curve_down] at a b
  unfold densI
  omega
theorem boil_top (x : Int) (h : 1200000 ≤ x) : boilI x = 18796 := by
  unfold boilI
  rw [curve_at boilPts x 8 (by decide) (fun j a b => by
    match j, a, b with
    | 1, _, _ | 2, _, _ | 3, _, _ | 4, _, _ | 5, _, _ | 6, _, _ | 7, _, _ | 8, _, _ => simp [boilPts]; omega) (.inr rfl)]
  simp [boilPts, lineI]
  omega

theorem absI_nn (n : Int) : 0 ≤ absI n := by unfold absI; split <;> omega
theorem absI_neg (n : Int) : absI (-n) = absI n := by unfold absI; split <;> split <;> omega
theorem absI_of (n : Int) (h : 0 ≤ n) : absI n = n := if_neg (by omega)
theorem absI_max (n : Int) : max n (-n) = absI n := by unfold absI; split <;> omega
theorem mul_range (a b A B : Int) (a0 : 0 ≤ a) (a1 : a ≤ A) (b0 : 0 ≤ b) (b1 : b ≤ B) : 0 ≤ a * b ∧ a * b ≤ A * B :=
  ⟨Int.mul_nonneg a0 b0, Int.mul_le_mul a1 b1 b0 (by omega)⟩
theorem mul_sgn (a b A B : Int) (a0 : 0 ≤ a) (a1 : a ≤ A) (b0 : -B ≤ b) (b1 : b ≤ B) : -(A * B) ≤ a * b ∧ a * b ≤ A * B := by
  by_cases h : 0 ≤ b
  · have := mul_range a b A B a0 a1 h b1
    omega
  · have := mul_range a (-b) A B a0 a1 (by omega) (by omega)
    rw [Int.mul_neg] at this
    omega
theorem sgn_mul (a b A B : Int) (a0 : -A ≤ a) (a1 : a ≤ A) (b0 : 0 ≤ b) (b1 : b ≤ B) : -(A * B) ≤ a * b ∧ a * b ≤ A * B := by
  have := mul_sgn b a B A b0 b1 a0 a1
  rw [Int.mul_comm a b, Int.mul_comm A B]
  exact this
theorem pow5_bd (d : Int) (h0 : 20 ≤ d) (h1 : d ≤ 1000) :
    (0 ≤ d * d ∧ d * d ≤ 1000000) ∧ (0 ≤ d * d * d ∧ d * d * d ≤ 1000000000) ∧ (0 ≤ d * d * d * d ∧ d * d * d * d ≤ 1000000000000) ∧ (0 < d * d * d * d * d ∧ d * d * d * d * d ≤ 1000000000000000) := by
  have a := mul_range d d 1000 1000 (by omega) h1 (by omega) h1
  have b := mul_range (d * d) d 1000000 1000 a.1 a.2 (by omega) h1
  have c := mul_range (d * d * d) d 1000000000 1000 b.1 b.2 (by omega) h1
  have e := mul_range (d * d * d * d) d 1000000000000 1000 c.1 c.2 (by omega) h1
  have p : 0 < d := by omega
  refine ⟨a, b, c, Int.mul_pos (Int.mul_pos (Int.mul_pos (Int.mul_pos p p) p) p) p, e.2⟩
theorem pow5_mono (d c : Int) (h0 : 20 ≤ d) (h : d ≤ c) : d * d * d * d * d ≤ c * c * c * c * c := by
  have a : d * d ≤ c * c := Int.mul_le_mul h h (by omega) (by omega)
  have a0 : 0 ≤ d * d := Int.mul_nonneg (by omega) (by omega)
  have b : d * d * d ≤ c * c * c := Int.mul_le_mul a h (by omega) (by omega)
  have b0 : 0 ≤ d * d * d := Int.mul_nonneg a0 (by omega)
  have e : d * d * d * d ≤ c * c * c * c := Int.mul_le_mul b h (by omega) (by omega)
  have e0 : 0 ≤ d * d * d * d := Int.mul_nonneg b0 (by omega)
  exact Int.mul_le_mul e h (by omega) (by omega)
theorem drop_num (L q : Int) (l0 : 0 ≤ L) (l1 : L ≤ 10000) (q0 : -100000 ≤ q) (q1 : q ≤ 100000) :
    (0 ≤ L * 16200 ∧ L * 16200 ≤ 162000000) ∧ (-16200000000000 ≤ L * 16200 * q ∧ L * 16200 * q ≤ 16200000000000) ∧
    (-1620000000000000000 ≤ L * 16200 * q * absI q ∧ L * 16200 * q * absI q ≤ 1620000000000000000) := by
  have a : 0 ≤ L * 16200 ∧ L * 16200 ≤ 162000000 := by omega
  have b := mul_sgn (L * 16200) q 162000000 100000 a.1 a.2 q0 q1
  have hq := absI_bd q 100000 q0 q1
  have c := sgn_mul (L * 16200 * q) (absI q) 16200000000000 100000 (by omega) (by omega) hq.1 hq.2
  exact ⟨a, by omega, by omega⟩
/-- the drop of a flow, before its limit is looked at -/
def dropI (L d q : Int) : Int := nearI (L * 16200 * q * absI q) (d * d * d * d * d)
theorem drop_neg (L d q : Int) (hd : 0 < d * d * d * d * d) : dropI L d (-q) = -dropI L d q := by
  unfold dropI
  rw [absI_neg, Int.mul_neg, Int.neg_mul, nearI_neg _ _ hd]
theorem drop_nn (L d q : Int) (hd : 0 < d * d * d * d * d) (hL : 0 ≤ L) (hq : 0 ≤ q) : 0 ≤ dropI L d q :=
  nearI_nonneg _ _ hd (Int.mul_nonneg (Int.mul_nonneg (by omega) hq) (absI_nn q))
theorem drop_abs (L d q : Int) (hd : 0 < d * d * d * d * d) (hL : 0 ≤ L) : absI (dropI L d q) = dropI L d (absI q) := by
  by_cases h : q < 0
  · have e : absI q = -q := if_pos h
    have k := drop_nn L d (-q) hd hL (by omega)
    rw [e, ← absI_of _ k, drop_neg _ _ _ hd, absI_neg]
  · rw [absI_of q (by omega), absI_of _ (drop_nn L d q hd hL (by omega))]
theorem drop_mono (L d q r : Int) (hd : 0 < d * d * d * d * d) (hL : 0 ≤ L) (hq : 0 ≤ q) (h : q ≤ r) : dropI L d q ≤ dropI L d r := by
  unfold dropI
  rw [absI_of q hq, absI_of r (by omega)]
  refine nearI_mono _ _ _ hd ?_
  exact Int.mul_le_mul (Int.mul_le_mul_of_nonneg_left h (by omega)) h hq (Int.mul_nonneg (by omega) (by omega))
theorem drop_anti (L d c q : Int) (h0 : 20 ≤ d) (h : d ≤ c) (hd : 0 < d * d * d * d * d) (hL : 0 ≤ L) (hq : 0 ≤ q) : dropI L c q ≤ dropI L d q :=
  nearI_anti _ _ _ (Int.mul_nonneg (Int.mul_nonneg (by omega) hq) (absI_nn q)) hd (pow5_mono d c h0 h)
theorem drop_zero (L d : Int) (hd : 0 < d * d * d * d * d) : dropI L d 0 = 0 := by
  have := nearI_whole 0 (d * d * d * d * d) hd
  unfold dropI
  rw [Int.mul_zero, Int.zero_mul]
  rwa [Int.zero_mul] at this
theorem nearI_lim (a b K : Int) (h0 : -K ≤ a) (h1 : a ≤ K) (hb : 0 < b) : -K ≤ nearI a b ∧ nearI a b ≤ K := by
  have k1 := nearI_mono a (K * b) b hb (by
    have : K * 1 ≤ K * b := Int.mul_le_mul_of_nonneg_left (by omega) (by omega)
    omega)
  have k2 := nearI_mono (-K * b) a b hb (by
    have : K * 1 ≤ K * b := Int.mul_le_mul_of_nonneg_left (by omega) (by omega)
    rw [Int.neg_mul]
    omega)
  rw [nearI_whole _ _ hb] at k1 k2
  exact ⟨k2, k1⟩
theorem drop_lim (L d q : Int) (l0 : 0 ≤ L) (l1 : L ≤ 10000) (q0 : -100000 ≤ q) (q1 : q ≤ 100000) (h0 : 20 ≤ d) (h1 : d ≤ 1000) :
    -1620000000000000000 ≤ dropI L d q ∧ dropI L d q ≤ 1620000000000000000 :=
  nearI_lim _ _ _ (drop_num L q l0 l1 q0 q1).2.2.1 (drop_num L q l0 l1 q0 q1).2.2.2 (pow5_bd d h0 h1).2.2.2.1
/-- the water in a pipe -/
def waterI (L d : Int) : Int := nearI (L * d * d * 7854) 10000
theorem water_num (L d : Int) (l0 : 0 ≤ L) (l1 : L ≤ 10000) (h0 : 20 ≤ d) (h1 : d ≤ 1000) :
    (0 ≤ L * d ∧ L * d ≤ 10000000) ∧ (0 ≤ L * d * d ∧ L * d * d ≤ 10000000000) ∧ (0 ≤ L * d * d * 7854 ∧ L * d * d * 7854 ≤ 78540000000000) := by
  have a := mul_range L d 10000 1000 l0 l1 (by omega) h1
  have b := mul_range (L * d) d 10000000 1000 a.1 a.2 (by omega) h1
  exact ⟨a, b, by omega⟩
theorem water_bd (L d : Int) (l0 : 0 ≤ L) (l1 : L ≤ 10000) (h0 : 20 ≤ d) (h1 : d ≤ 1000) : 0 ≤ waterI L d ∧ waterI L d ≤ 78540000000000 := by
  have a := water_num L d l0 l1 h0 h1
  exact ⟨nearI_nonneg _ _ (by omega) a.2.2.1, (nearI_lim _ 10000 78540000000000 (by omega) a.2.2.2 (by omega)).2⟩
/-- the heat that a pipe loses -/
def lossI (s L a b : Int) : Int := nearI (s * L * (a - b)) 100000
theorem loss_num (s L a b : Int) (s0 : 0 ≤ s) (s1 : s ≤ 5000) (l0 : 0 ≤ L) (l1 : L ≤ 10000) (a0 : -5000 ≤ a) (a1 : a ≤ 20000) (b0 : -5000 ≤ b) (b1 : b ≤ 20000) :
    (0 ≤ s * L ∧ s * L ≤ 50000000) ∧ (-1250000000000 ≤ s * L * (a - b) ∧ s * L * (a - b) ≤ 1250000000000) := by
  have h := mul_range s L 5000 10000 s0 s1 l0 l1
  have k := mul_sgn (s * L) (a - b) 50000000 25000 h.1 h.2 (by omega) (by omega)
  exact ⟨h, by omega⟩
theorem loss_bd (s L a b : Int) (s0 : 0 ≤ s) (s1 : s ≤ 5000) (l0 : 0 ≤ L) (l1 : L ≤ 10000) (a0 : -5000 ≤ a) (a1 : a ≤ 20000) (b0 : -5000 ≤ b) (b1 : b ≤ 20000) :
    -1250000000000 ≤ lossI s L a b ∧ lossI s L a b ≤ 1250000000000 := by
  have h := (loss_num s L a b s0 s1 l0 l1 a0 a1 b0 b1).2
  exact nearI_lim _ _ _ h.1 h.2 (by omega)
theorem loss_neg (s L a b : Int) : lossI s L b a = -lossI s L a b := by
  unfold lossI
  rw [← nearI_neg _ _ (by omega), ← Int.mul_neg]
  congr 2
  omega
end Go.Proofs.Ythmnfobhgeamiaa
