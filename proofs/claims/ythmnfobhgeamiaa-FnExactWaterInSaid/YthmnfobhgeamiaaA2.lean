/-
  Quotients: impl.nearest, spec.l01Div and both DivRound answer the nearest quotient.
-/
import Derived.Test.YthmnfobhgeamiaaA1
namespace Go.Proofs.Ythmnfobhgeamiaa
open Go.ChangeShapes Go.WideShapes Go.ChangeAt Go.RowKit

/-- the nearest quotient, halves away from 0, as the document's chapter 1 has it -/
def nearI (a b : Int) : Int :=
  if b < 0 then (if -a < 0 then -((-b - 2 * -a) / (2 * -b)) else (2 * -a + -b) / (2 * -b))
  else (if a < 0 then -((b - 2 * a) / (2 * b)) else (2 * a + b) / (2 * b))

theorem div_bd (p q : Int) (hp : 0 ≤ p) (hq : 1 ≤ q) : 0 ≤ p / q ∧ p / q ≤ p :=
  ⟨Int.ediv_nonneg hp (by omega), Int.ediv_le_self _ hp⟩
theorem tdiv_bd (a b K : Int) (h0 : -K ≤ a) (h1 : a ≤ K) : -K ≤ a.tdiv b ∧ a.tdiv b ≤ K := by
  have h := Int.natAbs_tdiv_le_natAbs a b
  omega
theorem tmod_bd (a b K : Int) (h0 : -K ≤ a) (h1 : a ≤ K) : -K ≤ a.tmod b ∧ a.tmod b ≤ K := by
  have h := Int.natAbs_tmod a b
  have h2 := Nat.mod_le a.natAbs b.natAbs
  omega
theorem l01Div_any (a b : Int) (w : World) (ha0 : -2305843009213693952 ≤ a) (ha1 : a ≤ 2305843009213693952) (hb0 : -2305843009213693952 ≤ b) (hb1 : b ≤ 2305843009213693952) (hb : b ≠ 0) :
    Calls Try.prog 58 #[.int .i64 a, .int .i64 b] w fun e w' => e = .returned (.int .i64 (nearI a b)) ∧ w = w' := by
  have H : Hid (nearI a b = _) := Lib.hid (by unfold nearI; rfl)
  by_cases hbn : b < 0
  · by_cases han : -a < 0
    · rw [if_pos hbn, if_pos han] at H
      have hd := div_bd (-b - 2 * -a) (2 * -b) (by omega) (by omega)
      go_enter Try.func58, Try.ntmps58
      go_wp2
      go_ret
      exact ⟨by rw [H.out]; rfl, rfl⟩
    · rw [if_pos hbn, if_neg han] at H
      go_enter Try.func58, Try.ntmps58
      go_wp2
      go_ret
      exact ⟨by rw [H.out]; rfl, rfl⟩
  · by_cases han : a < 0
    · rw [if_neg hbn, if_pos han] at H
      have hd := div_bd (b - 2 * a) (2 * b) (by omega) (by omega)
      go_enter Try.func58, Try.ntmps58
      go_wp2
      go_ret
      exact ⟨by rw [H.out]; rfl, rfl⟩
    · rw [if_neg hbn, if_neg han] at H
      go_enter Try.func58, Try.ntmps58
      go_wp2
      go_ret
      exact ⟨by rw [H.out]; rfl, rfl⟩

theorem nearest_zero (a : Int) (w : World)  :
    Calls Try.prog 60 #[.int .i64 a, .int .i64 0] w fun e w' => e = .returned (.int .i64 0) ∧ Drawn w w' := by
  go_enter Try.func60, Try.ntmps60
  go_wp2
  go_ret
  exact ⟨rfl, Drawn.rfl' _⟩

theorem near_pos (A B : Int) (hB : 0 < B) : (2 * A + B) / (2 * B) = if 2 * (A % B) < B then A / B else A / B + 1 := by
  have h1 := Int.mul_ediv_add_emod A B
  have h2 := Int.emod_nonneg A (by omega : B ≠ 0)
  have h3 := Int.emod_lt_of_pos A hB
  generalize A / B = Q at *
  generalize A % B = R at *
  have e : 2 * A + B = 2 * R + B + 2 * B * Q := by rw [← h1, Int.mul_add, Int.mul_assoc]; omega
  rw [e, Int.add_mul_ediv_left _ _ (by omega)]
  split
  · rw [Int.ediv_eq_zero_of_lt (by omega) (by omega)]; omega
  · have : (2 * R + B) / (2 * B) = 1 := by
      have e2 : 2 * R + B = 2 * R - B + 2 * B * 1 := by omega
      rw [e2, Int.add_mul_ediv_left _ _ (by omega), Int.ediv_eq_zero_of_lt (by omega) (by omega)]; omega
    omega

theorem nearI_eq (a b : Int) (hb : b ≠ 0) : nearI a b =
    if 2 * absI (a.tmod b) < absI b then a.tdiv b else if (decide (a < 0)) = (decide (b < 0)) then a.tdiv b + 1 else a.tdiv b - 1 := by
  have hq : ((a.tmod b).natAbs : Int) = (a.natAbs : Int) % (b.natAbs : Int) := by rw [Int.natAbs_tmod]; rfl
  have hB : 0 < (b.natAbs : Int) := by omega
  have hN := near_pos (a.natAbs : Int) (b.natAbs : Int) hB
  rw [absI_nat, absI_nat, hq]
  unfold nearI
  by_cases ha : a < 0 <;> by_cases hbn : b < 0
  · have e1 : (a.natAbs : Int) = -a := by omega
    have e2 : (b.natAbs : Int) = -b := by omega
    rw [e1, e2] at hN ⊢
    rw [if_pos hbn, if_neg (by omega), hN]
    have e3 : a.tdiv b = -a / -b := by rw [← Int.tdiv_eq_ediv_of_nonneg (by omega), Int.neg_tdiv_neg]
    simp [ha, hbn, e3]
  · have e1 : (a.natAbs : Int) = -a := by omega
    have e2 : (b.natAbs : Int) = b := by omega
    rw [e1, e2] at hN ⊢
    rw [if_neg hbn, if_pos ha, show b - 2 * a = 2 * -a + b by omega, hN]
    have e3 : a.tdiv b = -(-a / b) := by rw [← Int.tdiv_eq_ediv_of_nonneg (by omega), Int.neg_tdiv]; omega
    rw [e3]
    have hd : ¬ (decide (a < 0) = decide (b < 0)) := by simp [ha, hbn]
    rw [if_neg hd]
    split <;> omega
  · have e1 : (a.natAbs : Int) = a := by omega
    have e2 : (b.natAbs : Int) = -b := by omega
    rw [e1, e2] at hN ⊢
    have e3 : a.tdiv b = -(a / -b) := by rw [← Int.tdiv_eq_ediv_of_nonneg (by omega), Int.tdiv_neg]; omega
    rw [e3]
    have hd : ¬ (decide (a < 0) = decide (b < 0)) := by simp [ha, hbn]
    rw [if_pos hbn, if_neg hd]
    by_cases h0 : a = 0
    · subst h0
      rw [if_neg (by omega), show 2 * -(0 : Int) + -b = 2 * 0 + -b by omega, hN]
      simp
      omega
    · rw [if_pos (by omega), show -b - 2 * -a = 2 * a + -b by omega, hN]
      split <;> omega
  · have e1 : (a.natAbs : Int) = a := by omega
    have e2 : (b.natAbs : Int) = b := by omega
    rw [e1, e2] at hN ⊢
    have e3 : a.tdiv b = a / b := Int.tdiv_eq_ediv_of_nonneg (by omega)
    have hd : (decide (a < 0) = decide (b < 0)) := by simp [ha, hbn]
    rw [e3, if_neg hbn, if_neg ha, if_pos hd, hN]

theorem wrap_u64 (n : Int) (h0 : 0 ≤ n) (h1 : n < 18446744073709551616) : IntKind.u64.wrap n = n := by
  simp only [IntKind.wrap, IntKind.signed, IntKind.bits]
  simp
  omega

theorem nearest_any (a b : Int) (w : World) (ha0 : -2305843009213693952 ≤ a) (ha1 : a ≤ 2305843009213693952) (hb0 : -2305843009213693952 ≤ b) (hb1 : b ≤ 2305843009213693952) (hb : b ≠ 0) :
    Calls Try.prog 60 #[.int .i64 a, .int .i64 b] w fun e w' => e = .returned (.int .i64 (nearI a b)) ∧ Drawn w w' := by
  have hbz : (b == 0) = false := by simpa using hb
  have hd := tdiv_bd a b 2305843009213693952 ha0 ha1
  have hm := tmod_bd a b 2305843009213693952 ha0 ha1
  have hE := nearI_eq a b hb
  have HE := Lib.hid hE
  clear hE
  have hr := absI_bd (a.tmod b) 2305843009213693952 hm.1 hm.2
  have hw : IntKind.u64.wrap (2 * absI (a.tmod b)) = 2 * absI (a.tmod b) := wrap_u64 _ (by omega) (by omega)
  by_cases ht : 2 * absI (a.tmod b) < absI b
  · rw [if_pos ht] at HE
    go_enter Try.func60, Try.ntmps60
    go_wp2
    go_quiet ((go_at_call 80; exact quiet_same (size_any _ _ (by omega) (by omega))))
    go_wp2_with (go_at_call 80; refine (size_any _ _ (by omega) (by omega)).mono ?_; rintro e w' ⟨rfl, rfl⟩)
    go_ret
    exact ⟨by rw [HE.out]; rfl, ⟨_, rfl⟩⟩
  · rw [if_neg ht] at HE
    by_cases hs : (decide (a < 0)) = (decide (b < 0))
    · rw [if_pos hs] at HE
      have hs' : (decide (a < 0) == decide (b < 0)) = true := by simp [hs]
      clear hs
      go_enter Try.func60, Try.ntmps60
      go_wp2
      go_quiet ((go_at_call 80; exact quiet_same (size_any _ _ (by omega) (by omega))))
      go_wp2_with (go_at_call 80; refine (size_any _ _ (by omega) (by omega)).mono ?_; rintro e w' ⟨rfl, rfl⟩)
      go_ret
      exact ⟨by rw [HE.out]; rfl, ⟨_, rfl⟩⟩
    · rw [if_neg hs] at HE
      have hs' : (decide (a < 0) == decide (b < 0)) = false := by simpa using hs
      clear hs
      go_enter Try.func60, Try.ntmps60
      go_wp2
      go_quiet ((go_at_call 80; exact quiet_same (size_any _ _ (by omega) (by omega))))
      go_wp2_with (go_at_call 80; refine (size_any _ _ (by omega) (by omega)).mono ?_; rintro e w' ⟨rfl, rfl⟩)
      go_ret
      exact ⟨by rw [HE.out]; rfl, ⟨_, rfl⟩⟩
end Go.Proofs.Ythmnfobhgeamiaa
