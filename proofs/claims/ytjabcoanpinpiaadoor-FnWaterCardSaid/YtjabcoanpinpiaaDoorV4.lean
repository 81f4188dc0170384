/-
  Reading a temperature: the model's way.
-/
import Derived.Test.YtjabcoanpinpiaaDoorV3
import Derived.Test.YtjabcoanpinpiaaDoorS1
namespace Go.Proofs.YtjabcoanpinpiaaDoor
open Go.ChangeShapes Go.WideShapes Go.ChangeAt Go.RowKit

theorem nDigits_three (u : Nat) (h : u < 1000) : Lib.nDigits u ≤ 3 := by
  by_cases h1 : u < 10
  · rw [Lib.nDigits_small h1]; omega
  · rw [Lib.nDigits_big h1]
    by_cases h2 : u / 10 < 10
    · rw [Lib.nDigits_small h2]; omega
    · rw [Lib.nDigits_big h2, Lib.nDigits_small (by omega)]; omega
theorem mag_deg (t : Int) : magOf (degL t) = Lib.itoa (absI t / 100) ++ [46, UInt8.ofNat (48 + (absI t / 10 % 10).toNat), UInt8.ofNat (48 + (absI t % 10).toNat)] ∧ ((degL t).head? = some 45 ↔ t < 0) := by
  have h := absI_nn0 t
  have hd := itoa_dg (absI t / 100) (by omega)
  have e : degL t = (if t < 0 then [45] else []) ++ (Lib.itoa (absI t / 100) ++ [46, UInt8.ofNat (48 + (absI t / 10 % 10).toNat), UInt8.ofNat (48 + (absI t % 10).toNat)]) := by
    unfold degL
    rw [dgt_itoa (absI t / 10 % 10) (by omega) (by omega), dgt_itoa (absI t % 10) (by omega) (by omega)]
    rfl
  rw [e]
  by_cases hn : t < 0
  · rw [if_pos hn]
    exact ⟨rfl, ⟨fun _ => hn, fun _ => rfl⟩⟩
  · rw [if_neg hn, List.nil_append]
    have hh : (Lib.itoa (absI t / 100) ++ [46, UInt8.ofNat (48 + (absI t / 10 % 10).toNat), UInt8.ofNat (48 + (absI t % 10).toNat)]).head? ≠ some 45 := by
      match hq : Lib.itoa (absI t / 100), hd with
      | c :: r, hd =>
        intro e
        have : c = 45 := by simpa using e
        rw [this] at hd
        exact absurd hd.1 (by simp [isDg])
    refine ⟨?_, ⟨fun k => absurd k hh, fun k => absurd k hn⟩⟩
    unfold magOf
    rw [if_neg hh]
/-- where l is the text of a temperature, what lies behind its sign falls into the full degrees, a point and two digits -/
theorem deg_shape {l : List UInt8} {t : Int} (ht : inB t (-99999) 99999 = true) (h : degL t = l) :
    ∃ Q x y, magOf l = Q ++ [46, x, y] ∧ isDg x = true ∧ isDg y = true ∧ Q ≠ [] ∧ readDec Q = some (absI t / 100) ∧ (x.toNat : Int) = 48 + absI t / 10 % 10 ∧ (y.toNat : Int) = 48 + absI t % 10 ∧ (l.head? = some 45 ↔ t < 0) := by
  have hb := inB_iff.1 ht
  have ha := absI_bd t 99999 hb.1 hb.2
  obtain ⟨h1, h2⟩ := mag_deg t
  rw [h] at h1 h2
  have hd := itoa_dg (absI t / 100) (by omega)
  have hx : (UInt8.ofNat (48 + (absI t / 10 % 10).toNat)).toNat = 48 + (absI t / 10 % 10).toNat := toNat_dg _ (by omega)
  have hy : (UInt8.ofNat (48 + (absI t % 10).toNat)).toNat = 48 + (absI t % 10).toNat := toNat_dg _ (by omega)
  refine ⟨_, _, _, h1, ?_, ?_, hd.2.1, ?_, by rw [hx]; omega, by rw [hy]; omega, h2⟩
  · unfold isDg; rw [hx]; exact decide_eq_true (by omega)
  · unfold isDg; rw [hy]; exact decide_eq_true (by omega)
  · apply readDec_itoa
    have := itoa_small (absI t / 100) (by omega) (by omega)
    have h3 := (mag_itoa (absI t / 100)).1
    rw [h3]
    have hl : (Lib.decDigits (absI t / 100).natAbs).length ≤ 18 := by
      rw [Lib.decDigits_length]
      have := nDigits_three (absI t / 100).natAbs (by omega)
      omega
    exact hl

theorem leaf_of {l : List UInt8} (h : ∀ t, inB t (-99999) 99999 = true → degL t = l → False) : DegOf l none := ⟨fun t e => (by cases e), fun _ t ht hl => h t ht hl⟩
theorem shape_at {M Q : List UInt8} {x y : UInt8} (h : M = Q ++ [46, x, y]) : M.length = Q.length + 3 ∧ M[M.length - 3]? = some 46 ∧ M[M.length - 2]? = some x ∧ M[M.length - 1]? = some y ∧ M.take (M.length - 3) = Q := by
  subst h
  have hl : (Q ++ [46, x, y]).length = Q.length + 3 := by simp
  rw [hl]
  refine ⟨rfl, ?_, ?_, ?_, ?_⟩
  · rw [show Q.length + 3 - 3 = Q.length by omega, List.getElem?_append_right (by omega)]; simp
  · rw [show Q.length + 3 - 2 = Q.length + 1 by omega, List.getElem?_append_right (by omega)]; simp
  · rw [show Q.length + 3 - 1 = Q.length + 2 by omega, List.getElem?_append_right (by omega)]; simp
  · rw [show Q.length + 3 - 3 = Q.length by omega]; simp
theorem mag_le (l : List UInt8) : (magOf l).length ≤ l.length := by
  unfold magOf
  by_cases h : l.head? = some 45
  · rw [if_pos h, List.length_drop]; omega
  · rw [if_neg h]; exact Nat.le_refl _
theorem byte_at (R : ByteArray) (k : Nat) (h : k < R.size) : R.data.toList[k]? = some R[k] := by
  rw [List.getElem?_eq_getElem (by rw [size_list]; exact h), getE_list]
theorem readDec_bd {l : List UInt8} {v : Int} (h : readDec l = some v) : -1000000000000000000 < v ∧ v < 1000000000000000000 := (readDec_some h).2.2
end Go.Proofs.YtjabcoanpinpiaaDoor
