/-
  What a law wants to know of mixes, volumes, heads and energies.
-/
import Derived.Test.YtgdafgnjaogmeabW7
import Derived.Test.YtgdafgnjaogmeabW5
namespace Go.Proofs.Ytgdafgnjaogmeab
open Go.ChangeShapes Go.WideShapes Go.ChangeAt Go.RowKit Go.Shelf
set_option linter.unusedSimpArgs false


theorem near_halfM (a b : Int) (hb : 0 < b) : nearI a b * b * 2 ≤ 2 * a + b ∧ 2 * a - b ≤ nearI a b * b * 2 := by
  have key : ∀ c : Int, (2 * c + b) / (2 * b) * b * 2 ≤ 2 * c + b ∧ 2 * c - b ≤ (2 * c + b) / (2 * b) * b * 2 := by
    intro c
    have h1 := Int.emod_add_mul_ediv (2 * c + b) (2 * b)
    have h2 := Int.emod_nonneg (2 * c + b) (by omega : 2 * b ≠ 0)
    have h3 := Int.emod_lt_of_pos (2 * c + b) (by omega : 0 < 2 * b)
    have e : 2 * b * ((2 * c + b) / (2 * b)) = (2 * c + b) / (2 * b) * b * 2 := by
      rw [Int.mul_assoc, Int.mul_comm 2, Int.mul_comm b]
    rw [e] at h1
    omega
  unfold nearI
  rw [if_neg (by omega)]
  split
  · have := key (-a)
    rw [show 2 * -a + b = b - 2 * a by omega] at this
    rw [Int.neg_mul, Int.neg_mul]
    omega
  · exact key a
theorem near_negM (a b : Int) (hb : 0 < b) : nearI (-a) b = -nearI a b := by
  by_cases h0 : a = 0
  · subst h0
    rw [Int.neg_zero, nearI_zero b (by omega)]; rfl
  · unfold nearI
    simp only [if_neg (show ¬ b < 0 by omega)]
    by_cases h : a < 0
    · rw [if_neg (by omega), if_pos h, Int.neg_neg, show 2 * -a + b = b - 2 * a by omega]
    · rw [if_pos (by omega), if_neg h, show b - 2 * -a = 2 * a + b by omega]
/-- what a law wants to know of a mix: it lies between -/
theorem mix_between {fs ts : List Int} (h : mixC fs ts = 0) (lo hi : Int) (hb : ∀ j, j < ts.length → lo ≤ ts.getD j 0 ∧ ts.getD j 0 ≤ hi) : lo ≤ mixV fs ts ∧ mixV fs ts ≤ hi := by
  by_cases hB : mixB fs ts = true
  · by_cases hw : mixW fs fs.length = 0
    · rw [(mix_none fs ts hB hw).2] at h; cases h
    · obtain ⟨-, hl, hbd⟩ := mixB_bd fs ts hB
      rw [(mix_yes fs ts hB hw).1]
      have key : ∀ k, k ≤ fs.length → lo * mixW fs k ≤ mixH fs ts k ∧ mixH fs ts k ≤ hi * mixW fs k ∧ 0 ≤ mixW fs k := by
        intro k
        induction k with
        | zero => intro _; simp [mixW, mixH]
        | succ k ih =>
          intro hk
          obtain ⟨a, b, c⟩ := ih (by omega)
          obtain ⟨⟨f0, f1⟩, -⟩ := hbd k (by omega)
          obtain ⟨t0, t1⟩ := hb k (by omega)
          have m1 : lo * fs.getD k 0 ≤ fs.getD k 0 * ts.getD k 0 := by rw [Int.mul_comm lo]; exact Int.mul_le_mul_of_nonneg_left t0 f0
          have m2 : fs.getD k 0 * ts.getD k 0 ≤ hi * fs.getD k 0 := by rw [Int.mul_comm hi]; exact Int.mul_le_mul_of_nonneg_left t1 f0
          unfold mixW mixH
          rw [Int.mul_add, Int.mul_add]
          exact ⟨by omega, by omega, by omega⟩
      obtain ⟨a, b, c⟩ := key fs.length (Nat.le_refl _)
      have hp : 0 < mixW fs fs.length := by omega
      have h1 := nearI_mono (lo * mixW fs fs.length) _ _ hp a
      have h2 := nearI_mono _ (hi * mixW fs fs.length) _ hp b
      rw [nearI_whole _ _ hp] at h1 h2
      exact ⟨h1, h2⟩
  · have hB : mixB fs ts = false := by simpa only [Bool.not_eq_true] using hB
    rw [(mix_no fs ts hB).2] at h; cases h
theorem mixC_len {fs ts : List Int} (h : mixC fs ts = 0) : ts.length ≤ 64 := by
  by_cases hB : mixB fs ts = true
  · obtain ⟨h1, h2, -⟩ := mixB_bd fs ts hB
    omega
  · have hB : mixB fs ts = false := by simpa only [Bool.not_eq_true] using hB
    rw [(mix_no fs ts hB).2] at h; cases h
theorem vol_fact (v f t : Int) (h : volC v f t = 0) : volC v f f = 0 ∧ volV v f f = v ∧ (f ≤ t → v ≤ volV v f t) ∧ (t ≤ f → volV v f t ≤ v) := by
  unfold volC at h
  by_cases hc : (inB v 0 1000000000 && inB f 0 18000 && inB t 0 18000) = true
  · simp only [Bool.and_eq_true] at hc
    obtain ⟨⟨h1, h2⟩, h3⟩ := hc
    have hv := inB_iff.1 h1
    have df := dens_bd f
    have dt := dens_bd t
    have e1 : volV v f f = v := by
      unfold volV
      rw [h1, h2]
      exact nearI_whole v (densI f) (by omega)
    refine ⟨by unfold volC; rw [h1, h2]; rfl, e1, fun hle => ?_, fun hle => ?_⟩
    · unfold volV
      rw [h1, h2, h3]
      have hm := dens_mono f t hle
      have := nearI_mono (v * densI t) (v * densI f) (densI t) (by omega) (Int.mul_le_mul_of_nonneg_left hm hv.1)
      rw [nearI_whole v (densI t) (by omega)] at this
      exact this
    · unfold volV
      rw [h1, h2, h3]
      have hm := dens_mono t f hle
      have := nearI_mono (v * densI f) (v * densI t) (densI t) (by omega) (Int.mul_le_mul_of_nonneg_left hm hv.1)
      rw [nearI_whole v (densI t) (by omega)] at this
      exact this
  · rw [if_neg hc] at h; cases h
theorem head_fact (h t : Int) : headC (-h) t = headC h t ∧ headV (-h) t = -headV h t := by
  have e : inB (-h) (-200000) 200000 = inB h (-200000) 200000 := by
    unfold inB
    rw [decide_eq_decide]
    omega
  unfold headC headV
  rw [e]
  refine ⟨rfl, ?_⟩
  split
  · rw [Int.mul_neg, Int.neg_mul, near_negM _ _ (by omega)]
  · rfl
theorem en_fact (p m : Int) : (enC p m ≠ 0 → enV p m = 0) ∧ (enC p m = 0 → enC p (m.tdiv 2) = 0 ∧ enC p (m - m.tdiv 2) = 0 ∧ -1 ≤ enV p m - enV p (m.tdiv 2) - enV p (m - m.tdiv 2) ∧ enV p m - enV p (m.tdiv 2) - enV p (m - m.tdiv 2) ≤ 1) := by
  constructor
  · intro h
    unfold enC at h
    unfold enV
    split
    · rename_i hc; rw [if_pos hc] at h; exact absurd rfl h
    · rfl
  · intro h
    unfold enC at h
    by_cases hc : (inB p 0 100000000 && inB m 0 1000000) = true
    · simp only [Bool.and_eq_true] at hc
      obtain ⟨h1, h2⟩ := hc
      have hm := inB_iff.1 h2
      have ht : m.tdiv 2 = m / 2 := Int.tdiv_eq_ediv_of_nonneg hm.1
      rw [ht]
      have h3 : inB (m / 2) 0 1000000 = true := inB_true (by omega)
      have h4 : inB (m - m / 2) 0 1000000 = true := inB_true (by omega)
      refine ⟨by unfold enC; rw [h1, h3]; rfl, by unfold enC; rw [h1, h4]; rfl, ?_⟩
      have e : enV p m = nearI (p * m) 60 := by unfold enV; rw [h1, h2]; rfl
      have e1 : enV p (m / 2) = nearI (p * (m / 2)) 60 := by unfold enV; rw [h1, h3]; rfl
      have e2 : enV p (m - m / 2) = nearI (p * (m - m / 2)) 60 := by unfold enV; rw [h1, h4]; rfl
      rw [e, e1, e2]
      have k := near_halfM (p * m) 60 (by omega)
      have k1 := near_halfM (p * (m / 2)) 60 (by omega)
      have k2 := near_halfM (p * (m - m / 2)) 60 (by omega)
      have hs : p * m = p * (m / 2) + p * (m - m / 2) := by rw [← Int.mul_add]; congr 1; omega
      omega
    · rw [if_neg hc] at h; cases h

end Go.Proofs.Ytgdafgnjaogmeab
