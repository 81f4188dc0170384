/-
  The law FnBasics: the plain maths of it.
-/
import Derived.Test.YtgakfpmeedmodaaDoorA4
import Derived.Test.YtgakfpmeedmodaaDoorB4
import Derived.Test.YtgakfpmeedmodaaDoorR1
namespace Go.Proofs.YtgakfpmeedmodaaDoor
open Go.ChangeShapes Go.WideShapes Go.ChangeAt Go.RowKit

theorem root_ex : ∀ N : Nat, ∃ R : Nat, R * R ≤ N ∧ N < (R + 1) * (R + 1) := by
  intro N
  induction N with
  | zero => exact ⟨0, by omega, by omega⟩
  | succ N ih =>
    obtain ⟨R, h1, h2⟩ := ih
    by_cases h : N + 1 < (R + 1) * (R + 1)
    · exact ⟨R, by omega, h⟩
    · refine ⟨R + 1, by omega, ?_⟩
      have e : (R + 1 + 1) * (R + 1 + 1) = (R + 1) * (R + 1) + 2 * R + 3 := by
        rw [Nat.mul_add, Nat.add_mul]; omega
      omega
theorem root_neg (a : Int) (h : a < 0) : rootI a = 0 := rootI_eq a 0 (.inl ⟨h, rfl⟩)
theorem root_pos (a : Int) (h : 0 ≤ a) (h1 : a ≤ 4000000000) : 0 ≤ rootI a ∧ rootI a ≤ 70000 ∧ rootI a * rootI a ≤ a ∧ a < (rootI a + 1) * (rootI a + 1) := by
  obtain ⟨N, rfl⟩ := Int.eq_ofNat_of_zero_le h
  obtain ⟨R, g1, g2⟩ := root_ex N
  have e1 : (R : Int) * R ≤ N := by exact_mod_cast g1
  have e2 : (N : Int) < (R + 1) * (R + 1) := by exact_mod_cast g2
  rw [rootI_eq (N : Int) (R : Int) (.inr ⟨h, by omega, e1, e2⟩)]
  refine ⟨by omega, ?_, e1, e2⟩
  by_cases hc : (R : Int) ≤ 70000
  · exact hc
  · have : (70001 : Int) * 70001 ≤ R * R := Int.mul_le_mul (by omega) (by omega) (by omega) (by omega)
    omega
theorem near_half (a b : Int) (hb : 0 < b) : nearI a b * b * 2 ≤ 2 * a + b ∧ 2 * a - b ≤ nearI a b * b * 2 := by
  have key : ∀ c : Int, (2 * c + b) / (2 * b) * b * 2 ≤ 2 * c + b ∧ 2 * c - b ≤ (2 * c + b) / (2 * b) * b * 2 := by
    intro c
    have h1 := Int.emod_add_mul_ediv (2 * c + b) (2 * b)
    have h2 := Int.emod_nonneg (2 * c + b) (by omega : 2 * b ≠ 0)
    have h3 := Int.emod_lt_of_pos (2 * c + b) (by omega : 0 < 2 * b)
    have e : 2 * b * ((2 * c + b) / (2 * b)) = (2 * c + b) / (2 * b) * b * 2 := by
      rw [Int.mul_assoc, Int.mul_comm 2, Int.mul_comm b]
    rw [e] at h1
    omega
  unfold nearI
  rw [if_neg (by omega)]
  split
  · have := key (-a)
    rw [show 2 * -a + b = b - 2 * a by omega] at this
    rw [Int.neg_mul, Int.neg_mul]
    omega
  · exact key a
theorem near_neg (a b : Int) (hb : 0 < b) : nearI (-a) b = -nearI a b := by
  by_cases h0 : a = 0
  · subst h0
    rw [Int.neg_zero, nearI_zero b (by omega)]; rfl
  · unfold nearI
    simp only [if_neg (show ¬ b < 0 by omega)]
    by_cases h : a < 0
    · rw [if_neg (by omega), if_pos h, Int.neg_neg, show 2 * -a + b = b - 2 * a by omega]
    · rw [if_pos (by omega), if_neg h, show b - 2 * -a = 2 * a + b by omega]
theorem div_fact (a b : Int) (ha0 : -4000000000 ≤ a) (ha1 : a ≤ 4000000000) (hb : 0 < b) (hb1 : b ≤ 5000) :
    divRoundI (-a) b = -divRoundI a b ∧ divRoundI a b * b * 2 ≤ 2 * a + b ∧ 2 * a - b ≤ divRoundI a b * b * 2 ∧ -4000000001 ≤ divRoundI a b ∧ divRoundI a b ≤ 4000000001 := by
  have e : divRoundI a b = nearI a b := if_neg (by omega)
  have e' : divRoundI (-a) b = nearI (-a) b := if_neg (by omega)
  have := near_half a b hb
  have h2 := nearI_bd a b 4000000000 ha0 ha1 (by omega)
  rw [e, e', near_neg a b hb]
  exact ⟨rfl, this.1, this.2, by omega, by omega⟩
theorem blend_at (y z x : Int) (hy0 : -2500 ≤ y) (hy1 : y < 2500) (hz0 : -2500 ≤ z) (hz1 : z < 2500) : blendI 0 y 1000 z x = lineI 0 y 1000 z x := by
  unfold blendI
  rw [if_pos]
  rw [inB_true (by omega), inB_true (by omega), inB_true (by omega), inB_true (by omega)]; rfl
theorem blend_fact (y z x : Int) (hy0 : -2500 ≤ y) (hy1 : y < 2500) (hz0 : -2500 ≤ z) (hz1 : z < 2500) (hx0 : 0 ≤ x) (hx1 : x < 1000) :
    (y ≤ blendI 0 y 1000 z x ∧ blendI 0 y 1000 z x ≤ z ∨ z ≤ blendI 0 y 1000 z x ∧ blendI 0 y 1000 z x ≤ y) ∧ blendI 0 y 1000 z 0 = y ∧ blendI 0 y 1000 z 1000 = z := by
  rw [blend_at y z x hy0 hy1 hz0 hz1, blend_at y z 0 hy0 hy1 hz0 hz1, blend_at y z 1000 hy0 hy1 hz0 hz1]
  refine ⟨?_, ?_, ?_⟩
  · unfold lineI
    split
    · omega
    · rw [if_neg (by omega)]
      rw [Int.sub_zero, Int.sub_zero]
      unfold nearI
      rw [if_neg (by omega)]
      by_cases hd : y ≤ z
      · have p0 : 0 ≤ (z - y) * x := Int.mul_nonneg (by omega) hx0
        have p1 : (z - y) * x ≤ (z - y) * 999 := Int.mul_le_mul_of_nonneg_left (by omega) (by omega)
        generalize (z - y) * x = m at *
        rw [if_neg (by omega)]
        omega
      · have p0 : (z - y) * x ≤ 0 := Int.mul_nonpos_of_nonpos_of_nonneg (by omega) hx0
        have p1 : (z - y) * 999 ≤ (z - y) * x := Int.mul_le_mul_of_nonpos_left (by omega) (by omega)
        generalize (z - y) * x = m at *
        split <;> omega
  · unfold lineI; rw [if_pos (by omega)]
  · unfold lineI; rw [if_neg (by omega), if_pos (by omega)]

theorem nDigits_le (k : Nat) : ∀ u, u < 10 ^ (k + 1) → Lib.nDigits u ≤ k + 1 := by
  induction k with
  | zero => intro u h; rw [Lib.nDigits_small (by omega)]; omega
  | succ k ih =>
    intro u h
    by_cases h10 : u < 10
    · rw [Lib.nDigits_small h10]; omega
    · rw [Lib.nDigits_big h10]
      have := ih (u / 10) (by rw [Nat.pow_succ] at h; omega)
      omega
theorem readDec_text (z : Int) (h : inV z = true) : readDec (Lib.itoa z) = some z := by
  have hb := inB_iff.1 h
  refine readDec_itoa z ?_
  rw [(mag_itoa z).1, Lib.decDigits_length]
  have := nDigits_le 17 z.natAbs (by omega)
  omega
theorem itoa_no_comma (z : Int) : (44 : UInt8) ∉ Lib.itoa z := by
  have hd : ∀ u, (44 : UInt8) ∉ Lib.decDigits u := fun u hm => by
    have := List.all_eq_true.1 (dec_all u) _ hm
    exact absurd this (by decide)
  unfold Lib.itoa
  split
  · intro hm
    rcases List.mem_cons.1 hm with h | h
    · exact absurd h (by decide)
    · exact hd _ h
  · exact hd _
theorem splitGo_app (b : UInt8) (p : List UInt8) : ∀ (cur rest : List UInt8), b ∉ p → splitGo b cur (p ++ rest) = splitGo b (cur ++ p) rest := by
  induction p with
  | nil => intro cur rest _; simp
  | cons c r ih =>
    intro cur rest hn
    rw [List.cons_append, splitGo, if_neg (fun e => hn (by rw [e]; exact List.mem_cons_self)), ih _ _ (fun h => hn (List.mem_cons_of_mem _ h))]
    simp
theorem split_join (b : UInt8) (ps : List (List UInt8)) : ∀ p, (∀ q ∈ p :: ps, b ∉ q) → splitGo b [] (Lib.join (p :: ps) [b]) = p :: ps := by
  induction ps with
  | nil =>
    intro p h
    have := splitGo_app b p [] [] (h p List.mem_cons_self)
    rw [List.append_nil] at this
    rw [Lib.join_one, this]
    rfl
  | cons q r ih =>
    intro p h
    rw [join_more, splitGo_app b p [] _ (h p List.mem_cons_self)]
    show splitGo b ([] ++ p) (b :: Lib.join (q :: r) [b]) = _
    rw [splitGo, if_pos rfl, ih q (fun x hx => h x (List.mem_cons_of_mem _ hx))]
    rfl
theorem split_comma (zs : List Int) (h0 : 0 < zs.length) : splitGo 44 [] (commaL zs) = zs.map Lib.itoa := by
  cases zs with
  | nil => simp at h0
  | cons a r =>
    unfold commaL
    rw [List.map_cons]
    refine split_join 44 _ _ fun q hq => ?_
    rw [← List.map_cons] at hq
    obtain ⟨z, _, rfl⟩ := List.mem_map.1 hq
    exact itoa_no_comma z
theorem vals_itoa (zs : List Int) (h : zs.all inV = true) : (zs.map Lib.itoa).map valP = zs ∧ (zs.map Lib.itoa).all okP = true := by
  induction zs with
  | nil => exact ⟨rfl, rfl⟩
  | cons a r ih =>
    rw [List.all_cons, Bool.and_eq_true] at h
    have := ih h.2
    have hr := readDec_text a h.1
    have hv : valP (Lib.itoa a) = a := by unfold valP; rw [hr]; rfl
    have hn : numP (Lib.itoa a) = true := by unfold numP; rw [hr]; rfl
    refine ⟨by rw [List.map_cons, List.map_cons, this.1, hv], ?_⟩
    rw [List.map_cons, List.all_cons, this.2]
    unfold okP
    rw [hn, hv, h.1]; rfl
theorem read_list (zs : List Int) (h : fitsL zs = true) (h0 : 0 < zs.length) : readL (listL zs) = some zs := by
  have hf := fitsL_true h
  have hl : listL zs = commaL zs := by unfold listL; rw [if_pos h, if_neg (by omega)]
  have hs := split_comma zs h0
  have hv := vals_itoa zs hf.1
  rw [hl]
  unfold readL
  have hne : commaL zs ≠ [45] := fun e => by
    rw [e] at hs
    have e1 : splitGo 44 [] [45] = [[45]] := rfl
    rw [e1] at hs
    have h2 := hv.2
    rw [← hs] at h2
    exact absurd h2 (by decide)
  rw [if_neg hne, hs, if_pos ⟨by rw [List.length_map]; exact hf.2, hv.2⟩, hv.1]
theorem listL_size (zs : List Int) (h : fitsL zs = true) : (listL zs).length ≤ 1408 := by
  have hf := fitsL_true h
  unfold listL
  rw [if_pos h]
  split
  · simp
  · have := commaL_bd zs hf.1
    omega
theorem fits_five (a b c d e : Int) (ha : -4000000000 ≤ a ∧ a ≤ 4000000000) (hb : -4000000000 ≤ b ∧ b ≤ 4000000000) (hc : -4000000000 ≤ c ∧ c ≤ 4000000000) (hd : -4000000000 ≤ d ∧ d ≤ 4000000000) (he : -4000000000 ≤ e ∧ e ≤ 4000000000) : fitsL [a, b, c, d, e] = true := by
  unfold fitsL inV
  simp only [List.all_cons, List.all_nil]
  rw [inB_true (by omega), inB_true (by omega), inB_true (by omega), inB_true (by omega), inB_true (by omega)]
  rfl
end Go.Proofs.YtgakfpmeedmodaaDoor
