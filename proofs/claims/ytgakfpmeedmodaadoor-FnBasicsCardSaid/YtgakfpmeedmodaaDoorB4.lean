/-
  RootOf of the program and of the model: the greatest number whose square is at most n.
-/
import Derived.Test.YtgakfpmeedmodaaDoorA1
import Derived.Test.YtgakfpmeedmodaaDoorShelf
namespace Go.Proofs.YtgakfpmeedmodaaDoor
open Go.ChangeShapes Go.WideShapes Go.ChangeAt Go.RowKit

def IsRoot (n r : Int) : Prop := (n < 0 ∧ r = 0) ∨ (0 ≤ n ∧ 0 ≤ r ∧ r * r ≤ n ∧ n < (r + 1) * (r + 1))
theorem isRoot_unique (n r s : Int) (h : IsRoot n r) (k : IsRoot n s) : r = s := by
  rcases h with ⟨h0, rfl⟩ | ⟨h0, h1, h2, h3⟩
  · rcases k with ⟨_, rfl⟩ | ⟨k0, _⟩
    · rfl
    · omega
  · rcases k with ⟨k0, _⟩ | ⟨k0, k1, k2, k3⟩
    · omega
    · rcases Int.lt_trichotomy r s with e | e | e
      · have : (r + 1) * (r + 1) ≤ s * s := Int.mul_le_mul (by omega) (by omega) (by omega) (by omega)
        omega
      · exact e
      · have : (s + 1) * (s + 1) ≤ r * r := Int.mul_le_mul (by omega) (by omega) (by omega) (by omega)
        omega
open Classical in
noncomputable def rootI (n : Int) : Int := if h : ∃ r, IsRoot n r then h.choose else 0
theorem rootI_eq (n r : Int) (h : IsRoot n r) : rootI n = r := by
  unfold rootI
  have hx : ∃ r, IsRoot n r := ⟨r, h⟩
  rw [dif_pos hx]
  exact isRoot_unique n _ _ hx.choose_spec h

theorem sq_le (m M : Int) (h0 : 0 ≤ m) (h1 : m ≤ M) : 0 ≤ m * m ∧ m * m ≤ M * M :=
  ⟨Int.mul_nonneg h0 h0, Int.mul_le_mul h1 h1 h0 (by omega)⟩

theorem bitLenAux_bd : ∀ (f x : Nat), x < 2 ^ f → x < 2 ^ Lib.bitLenAux f x ∧ Lib.bitLenAux f x ≤ f ∧ (x ≠ 0 → 1 ≤ Lib.bitLenAux f x) := by
  intro f
  induction f with
  | zero => intro x hx; simp [Lib.bitLenAux] at *; omega
  | succ f ih =>
    intro x hx
    unfold Lib.bitLenAux
    by_cases h0 : x = 0
    · subst h0; simp
    · rw [if_neg h0]
      obtain ⟨h1, h2, h3⟩ := ih (x / 2) (by rw [Nat.pow_succ] at hx; omega)
      refine ⟨?_, by omega, fun _ => by omega⟩
      rw [Nat.add_comm, Nat.pow_succ]
      omega

theorem wrap_pow (k : Nat) (h : k ≤ 32) : IntKind.u64.wrap ((2 : Int) ^ k) = ((2 ^ k : Nat) : Int) := by
  have hp : 2 ^ k ≤ 2 ^ 32 := Nat.pow_le_pow_right (by omega) h
  have e : (2 : Int) ^ k = ((2 ^ k : Nat) : Int) := by simp
  rw [e, IntKind.wrap_u64]
  generalize 2 ^ k = m at *
  omega

/-- what holds of the root so far, R, and of the next bit, half of 2 ^ J -/
def RootAt (N J R B : Nat) : Prop := B = 2 ^ J / 2 ∧ R % 2 ^ J = 0 ∧ R + 2 ^ J ≤ 4294967296 ∧ R * R ≤ N ∧ N < (R + 2 ^ J) * (R + 2 ^ J)
theorem rootAt_start (N L : Nat) (h0 : 1 ≤ L) (h1 : L ≤ 64) (h : N < 2 ^ L) : RootAt N ((L - 1) / 2 + 1) 0 (2 ^ ((L - 1) / 2)) := by
  refine ⟨by rw [Nat.pow_succ]; omega, by simp, ?_, by simp, ?_⟩
  · have : 2 ^ ((L - 1) / 2 + 1) ≤ 2 ^ 32 := Nat.pow_le_pow_right (by omega) (by omega)
    omega
  · rw [Nat.zero_add, ← Nat.pow_add]
    exact Nat.lt_of_lt_of_le h (Nat.pow_le_pow_right (by omega) (by omega))
theorem rootAt_zero (N J R : Nat) (h : RootAt N J R 0) : R * R ≤ N ∧ N < (R + 1) * (R + 1) := by
  obtain ⟨hB, _, _, h1, h2⟩ := h
  cases J with
  | zero => exact ⟨h1, h2⟩
  | succ j => have := Nat.two_pow_pos j; rw [Nat.pow_succ] at hB; omega
theorem rootAt_facts (N J R B : Nat) (h : RootAt N J R B) (hB : 0 < B) : R + B < 4294967296 ∧ R ||| B = R + B ∧ ∃ j, J = j + 1 ∧ B = 2 ^ j := by
  obtain ⟨e, hm, hb, _, _⟩ := h
  cases J with
  | zero => simp at e; omega
  | succ j =>
    have hp := Nat.two_pow_pos j
    have e2 : B = 2 ^ j := by rw [Nat.pow_succ] at e; omega
    refine ⟨by rw [Nat.pow_succ] at hb; omega, ?_, j, rfl, e2⟩
    have hlt : B < 2 ^ (j + 1) := by rw [Nat.pow_succ]; omega
    have hq : R = 2 ^ (j + 1) * (R / 2 ^ (j + 1)) := by
      have := Nat.div_add_mod R (2 ^ (j + 1))
      omega
    rw [hq, ← Nat.two_pow_add_eq_or_of_lt hlt]
theorem rootAt_take (N J R B : Nat) (h : RootAt N J R B) (hB : 0 < B) (ht : (R + B) * (R + B) ≤ N) : ∃ j, RootAt N j (R + B) (B / 2) := by
  obtain ⟨_, _, j, rfl, rfl⟩ := rootAt_facts N J R B h hB
  obtain ⟨e, hm, hb, h1, h2⟩ := h
  have hs : 2 ^ (j + 1) = 2 ^ j + 2 ^ j := by rw [Nat.pow_succ]; omega
  refine ⟨j, rfl, ?_, by omega, ht, by rw [Nat.add_assoc, ← hs]; exact h2⟩
  have : R % 2 ^ j = 0 := Nat.mod_eq_zero_of_dvd (Nat.dvd_trans ⟨2, by rw [Nat.pow_succ]⟩ (Nat.dvd_of_mod_eq_zero hm))
  rw [Nat.add_mod_right]; exact this
theorem rootAt_leave (N J R B : Nat) (h : RootAt N J R B) (hB : 0 < B) (ht : ¬ (R + B) * (R + B) ≤ N) : ∃ j, RootAt N j R (B / 2) := by
  obtain ⟨_, _, j, rfl, rfl⟩ := rootAt_facts N J R B h hB
  obtain ⟨e, hm, hb, h1, h2⟩ := h
  have hs : 2 ^ (j + 1) = 2 ^ j + 2 ^ j := by rw [Nat.pow_succ]; omega
  exact ⟨j, rfl, Nat.mod_eq_zero_of_dvd (Nat.dvd_trans ⟨2, by rw [Nat.pow_succ]⟩ (Nat.dvd_of_mod_eq_zero hm)), by omega, h1, by omega⟩

theorem implRootOf_any (n : Int) (w : World) (hn : n ≤ 9223372036854775807) :
    Calls Tryd.prog 10 #[.int .i64 n] w fun e w' => e = .returned (.int .i64 (rootI n)) ∧ w = w' := by
  by_cases hz : n ≤ 0
  · have HR : Hid (rootI n = 0) := Lib.hid (rootI_eq n 0 (by
      by_cases h : n < 0
      · exact .inl ⟨h, rfl⟩
      · exact .inr ⟨by omega, by omega, by omega, by omega⟩))
    go_enter Tryd.func10, Tryd.ntmps10
    go_wp2
    go_ret
    exact ⟨by rw [HR.out]; rfl, rfl⟩
  · obtain ⟨N, rfl⟩ := Int.eq_ofNat_of_zero_le (by omega : 0 ≤ n)
    have hL := bitLenAux_bd 64 N (by omega)
    have hL' : Lib.bitLenAux 64 N = Lib.bitLen N := rfl
    rw [hL'] at hL
    obtain ⟨hL1, hL2, hL3⟩ := hL
    have hL4 := hL3 (by omega)
    clear hL' hL3
    have hcall := (Tryd.bits_Len64 (N : Int) w (by omega) (by omega)).mono fun e w' (h : _ ∧ w' = w) => (⟨h.1, h.2.symm⟩ : _ ∧ w = w')
    rw [Int.toNat_natCast] at hcall
    have HC := Lib.hid hcall
    clear hcall
    generalize Lib.bitLen N = L at *
    have HS := Lib.hid (rootAt_start N L hL4 hL2 hL1)
    have hsh := Lib.hid (wrap_pow ((L - 1) / 2) (by omega))
    generalize hB0 : 2 ^ ((L - 1) / 2) = B0 at *
    clear hL1 hB0
    go_enter Tryd.func10, Tryd.ntmps10
    go_wp2_with (go_at_call 30; refine (HC.out).mono ?_; rintro e w' ⟨rfl, rfl⟩)
    go_loop [4, 5, 6] (fun r b _ => ∃ J R B : Nat, r = .int .u64 R ∧ b = .int .u64 B ∧ Hid (RootAt N J R B)) (fun _ b _ => (intOf b).toNat)
    case atStart => exact ⟨_, 0, B0, rfl, by rw [hsh.out], HS⟩
    case round =>
      obtain ⟨J, R, B, rfl, rfl, HA⟩ := hrel
      clear hsh HS HC
      by_cases hB : 0 < B
      · obtain ⟨hf1, hf2, hf3⟩ := rootAt_facts N J R B HA.out hB
        have hB2 : Hid (IntKind.u64.wrap ((B : Int) / 2) = ((B / 2 : Nat) : Int)) := Lib.hid (by rw [IntKind.wrap_u64]; omega)
        clear hf3
        have ht1 := rootAt_take N J R B HA.out hB
        have ht2 := rootAt_leave N J R B HA.out hB
        have hor : bits .or .u64 (R : Int) (B : Int) = ((R + B : Nat) : Int) := by rw [bits_or_u64_nat R B (by omega) (by omega), hf2]
        clear hf2
        generalize hT : R + B = T at *
        clear hT
        have hsq := sq_le (T : Int) 4294967295 (by omega) (by omega)
        have hw : IntKind.u64.wrap ((T : Int) * (T : Int)) = (T : Int) * (T : Int) := by rw [IntKind.wrap_u64]; omega
        by_cases ht : (T : Int) * (T : Int) ≤ (N : Int)
        · obtain ⟨j, hj⟩ := ht1 (by exact_mod_cast ht)
          have Hj := Lib.hid hj
          clear hj ht1 ht2
          go_wp2
          go_round
          case rel => exact ⟨_, _, _, rfl, by rw [hB2.out], Hj⟩
          case measure => simp only [intOf]; rw [hB2.out]; omega
        · obtain ⟨j, hj⟩ := ht2 (fun h => ht (by exact_mod_cast h))
          have Hj := Lib.hid hj
          clear hj ht1 ht2
          go_wp2
          go_round
          case rel => exact ⟨_, _, _, rfl, by rw [hB2.out], Hj⟩
          case measure => simp only [intOf]; rw [hB2.out]; omega
      · have e : B = 0 := by omega
        subst e
        obtain ⟨h1, h2⟩ := rootAt_zero N J R HA.out
        have HR : Hid (rootI (N : Int) = (R : Int)) := Lib.hid (rootI_eq _ _ (.inr ⟨by omega, by omega, by exact_mod_cast h1, by exact_mod_cast h2⟩))
        have hb : R + 2 ^ J ≤ 4294967296 := HA.out.2.2.1
        have hR : R ≤ 4294967296 := Nat.le_trans (Nat.le_add_right _ _) hb
        clear h1 h2 hb
        go_wp2
        go_ret
        exact ⟨by rw [HR.out]; rfl, rfl⟩
end Go.Proofs.YtgakfpmeedmodaaDoor
