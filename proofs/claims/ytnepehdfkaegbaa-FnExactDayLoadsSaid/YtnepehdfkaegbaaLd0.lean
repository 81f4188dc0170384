/-
  Chapter 5: a quotient that is rounded up; WaterFor of both sides.
-/
import Derived.Test.YtnepehdfkaegbaaW3
namespace Go.Proofs.Ytnepehdfkaegbaa
open Go.ChangeShapes Go.WideShapes Go.ChangeAt Go.RowKit


theorem roundedUp_any (a b : Int) (w : World) (a0 : 0 ≤ a) (a1 : a ≤ 2305843009213693952) (b0 : 1 ≤ b) (b1 : b ≤ 2305843009213693952) :
    Calls Try.prog 58 #[.int .i64 a, .int .i64 b] w fun e w' => e = .returned (.int .i64 ((a + b - 1) / b)) ∧ Drawn w w' := by
  have h0 : 0 ≤ a + b - 1 := by omega
  go_enter Try.func58, Try.ntmps58
  go_wp2
  go_ret
  exact ⟨rfl, Drawn.rfl' _⟩

def flowI (l d : Int) : Int := (l * 100000 + 4186 * d - 1) / (4186 * d)
theorem flow_bd (l d : Int) (l0 : 0 ≤ l) (l1 : l ≤ 100000000) (d0 : 1 ≤ d) (d1 : d ≤ 25000) : 0 ≤ flowI l d ∧ flowI l d ≤ 10000104650000 := by
  unfold flowI
  have := div_bd (l * 100000 + 4186 * d - 1) (4186 * d) (by omega) (by omega)
  omega
theorem l05Water_any (l a b : Int) (w : World) (l0 : 0 ≤ l) (l1 : l ≤ 100000000) (d0 : 1 ≤ a - b) (d1 : a - b ≤ 25000) :
    Calls Try.prog 89 #[.int .i64 l, .int .i64 a, .int .i64 b] w fun e w' => e = .returned (.int .i64 (flowI l (a - b))) ∧ Drawn w w' := by
  have h0 : 0 ≤ l * 100000 + 4186 * (a - b) - 1 := by omega
  go_enter Try.func89, Try.ntmps89
  go_wp2
  go_ret
  first | exact ⟨rfl, Drawn.rfl' _⟩ | exact ⟨rfl, ⟨_, rfl⟩⟩

def wfB (l a b : Int) : Bool := inB l 0 100000000 && inB a (-5000) 20000 && inB b (-5000) 20000
def wfV (l a b : Int) : Int := if wfB l a b && !decide (a ≤ b) && decide (flowI l (a - b) ≤ 100000) then flowI l (a - b) else 0
def wfC (l a b : Int) : Int := if wfB l a b then (if a ≤ b then 6 else if flowI l (a - b) ≤ 100000 then 0 else 3) else 2

theorem specWaterFor_any (l a b : Int) (w : World) : Calls Try.prog 48 #[.int .i64 l, .int .i64 a, .int .i64 b] w fun e w' => e = .returned (.tuple #[.int .i64 (wfV l a b), .int .i64 (wfC l a b)]) ∧ Below w.heap.size w w' := by
  have hb : Below w.heap.size w w := Below.refl _ _
  by_cases h1 : inB l 0 100000000 = true
  · skip
    by_cases h2 : inB a (-5000) 20000 = true
    · skip
      by_cases h3 : inB b (-5000) 20000 = true
      · skip
        by_cases h4 : a ≤ b
        · skip
          have hv : wfV l a b = 0 := by unfold wfV wfB; simp [*]
          have hc : wfC l a b = 6 := by unfold wfC wfB; simp [*]
          rw [hv, hc]
          clear hv hc
          go_enter Try.func48, Try.ntmps48
          go_wp2_with (first | (go_at_call 83; refine (in_any _ _ _ _).mono ?_; rintro e w' ⟨rfl, rfl⟩) | (go_at_call 88; refine (l03Degrees_any _ _).mono ?_; rintro e w' ⟨rfl, rfl⟩))
          go_ret2
          first | exact ⟨rfl, hb⟩ | exact ⟨rfl, (bal hb _)⟩ | exact ⟨rfl, (bal (bal hb _) _)⟩ | exact ⟨rfl, (bal (bal (bal hb _) _) _)⟩ | exact ⟨rfl, (bal (bal (bal (bal hb _) _) _) _)⟩ | exact ⟨rfl, (bal (bal (bal (bal (bal hb _) _) _) _) _)⟩
        · have k1 := inB_iff.1 h1
          have k2 := inB_iff.1 h2
          have k3 := inB_iff.1 h3
          have h4n : b < a := by omega
          have hq := flow_bd l (a - b) k1.1 k1.2 (by omega) (by omega)
          by_cases h5 : flowI l (a - b) ≤ 100000
          · skip
            have hv : wfV l a b = flowI l (a - b) := by unfold wfV wfB; simp [*]
            have hc : wfC l a b = 0 := by unfold wfC wfB; simp [*]
            rw [hv, hc]
            clear hv hc
            have HQ := Lib.hid (fun wx => l05Water_any l a b wx k1.1 k1.2 (by omega) (by omega))
            generalize flowI l (a - b) = q at *
            go_enter Try.func48, Try.ntmps48
            go_wp2_with (first | (go_at_call 83; refine (in_any _ _ _ _).mono ?_; rintro e w' ⟨rfl, rfl⟩) | (go_at_call 88; refine (l03Degrees_any _ _).mono ?_; rintro e w' ⟨rfl, rfl⟩) | (go_at_call 89; refine (HQ.out _).mono ?_; rintro e w' ⟨rfl, ⟨nq, rfl⟩⟩; have hb := below_drewN hb nq))
            go_ret2
            first | exact ⟨rfl, hb⟩ | exact ⟨rfl, (bal hb _)⟩ | exact ⟨rfl, (bal (bal hb _) _)⟩ | exact ⟨rfl, (bal (bal (bal hb _) _) _)⟩ | exact ⟨rfl, (bal (bal (bal (bal hb _) _) _) _)⟩ | exact ⟨rfl, (bal (bal (bal (bal (bal hb _) _) _) _) _)⟩
          · have h5n : 100000 < flowI l (a - b) := by omega
            have hv : wfV l a b = 0 := by unfold wfV wfB; simp [*]
            have hc : wfC l a b = 3 := by unfold wfC wfB; simp [*]
            rw [hv, hc]
            clear hv hc
            have HQ := Lib.hid (fun wx => l05Water_any l a b wx k1.1 k1.2 (by omega) (by omega))
            generalize flowI l (a - b) = q at *
            go_enter Try.func48, Try.ntmps48
            go_wp2_with (first | (go_at_call 83; refine (in_any _ _ _ _).mono ?_; rintro e w' ⟨rfl, rfl⟩) | (go_at_call 88; refine (l03Degrees_any _ _).mono ?_; rintro e w' ⟨rfl, rfl⟩) | (go_at_call 89; refine (HQ.out _).mono ?_; rintro e w' ⟨rfl, ⟨nq, rfl⟩⟩; have hb := below_drewN hb nq))
            go_ret2
            first | exact ⟨rfl, hb⟩ | exact ⟨rfl, (bal hb _)⟩ | exact ⟨rfl, (bal (bal hb _) _)⟩ | exact ⟨rfl, (bal (bal (bal hb _) _) _)⟩ | exact ⟨rfl, (bal (bal (bal (bal hb _) _) _) _)⟩ | exact ⟨rfl, (bal (bal (bal (bal (bal hb _) _) _) _) _)⟩
      · have h3' : (inB b (-5000) 20000) = false := by simpa using h3
        have hv : wfV l a b = 0 := by unfold wfV wfB; simp [*]
        have hc : wfC l a b = 2 := by unfold wfC wfB; simp [*]
        rw [hv, hc]
        clear hv hc
        go_enter Try.func48, Try.ntmps48
        go_wp2_with (first | (go_at_call 83; refine (in_any _ _ _ _).mono ?_; rintro e w' ⟨rfl, rfl⟩) | (go_at_call 88; refine (l03Degrees_any _ _).mono ?_; rintro e w' ⟨rfl, rfl⟩))
        go_ret2
        first | exact ⟨rfl, hb⟩ | exact ⟨rfl, (bal hb _)⟩ | exact ⟨rfl, (bal (bal hb _) _)⟩ | exact ⟨rfl, (bal (bal (bal hb _) _) _)⟩ | exact ⟨rfl, (bal (bal (bal (bal hb _) _) _) _)⟩ | exact ⟨rfl, (bal (bal (bal (bal (bal hb _) _) _) _) _)⟩
    · have h2' : (inB a (-5000) 20000) = false := by simpa using h2
      have hv : wfV l a b = 0 := by unfold wfV wfB; simp [*]
      have hc : wfC l a b = 2 := by unfold wfC wfB; simp [*]
      rw [hv, hc]
      clear hv hc
      go_enter Try.func48, Try.ntmps48
      go_wp2_with (first | (go_at_call 83; refine (in_any _ _ _ _).mono ?_; rintro e w' ⟨rfl, rfl⟩) | (go_at_call 88; refine (l03Degrees_any _ _).mono ?_; rintro e w' ⟨rfl, rfl⟩))
      go_ret2
      first | exact ⟨rfl, hb⟩ | exact ⟨rfl, (bal hb _)⟩ | exact ⟨rfl, (bal (bal hb _) _)⟩ | exact ⟨rfl, (bal (bal (bal hb _) _) _)⟩ | exact ⟨rfl, (bal (bal (bal (bal hb _) _) _) _)⟩ | exact ⟨rfl, (bal (bal (bal (bal (bal hb _) _) _) _) _)⟩
  · have h1' : (inB l 0 100000000) = false := by simpa using h1
    have hv : wfV l a b = 0 := by unfold wfV wfB; simp [*]
    have hc : wfC l a b = 2 := by unfold wfC wfB; simp [*]
    rw [hv, hc]
    clear hv hc
    go_enter Try.func48, Try.ntmps48
    go_wp2_with (first | (go_at_call 83; refine (in_any _ _ _ _).mono ?_; rintro e w' ⟨rfl, rfl⟩) | (go_at_call 88; refine (l03Degrees_any _ _).mono ?_; rintro e w' ⟨rfl, rfl⟩))
    go_ret2
    first | exact ⟨rfl, hb⟩ | exact ⟨rfl, (bal hb _)⟩ | exact ⟨rfl, (bal (bal hb _) _)⟩ | exact ⟨rfl, (bal (bal (bal hb _) _) _)⟩ | exact ⟨rfl, (bal (bal (bal (bal hb _) _) _) _)⟩ | exact ⟨rfl, (bal (bal (bal (bal (bal hb _) _) _) _) _)⟩

theorem implWaterFor_any (l a b : Int) (w : World) : Calls Try.prog 21 #[.int .i64 l, .int .i64 a, .int .i64 b] w fun e w' => e = .returned (.tuple #[.int .i64 (wfV l a b), .int .i64 (wfC l a b)]) ∧ Below w.heap.size w w' := by
  have hb : Below w.heap.size w w := Below.refl _ _
  by_cases h1 : inB l 0 100000000 = true
  · skip
    by_cases h2 : inB a (-5000) 20000 = true
    · skip
      by_cases h3 : inB b (-5000) 20000 = true
      · skip
        by_cases h4 : a ≤ b
        · skip
          have hv : wfV l a b = 0 := by unfold wfV wfB; simp [*]
          have hc : wfC l a b = 6 := by unfold wfC wfB; simp [*]
          rw [hv, hc]
          clear hv hc
          go_enter Try.func21, Try.ntmps21
          go_wp2_with (first | (go_at_call 56; refine (isLoad_any _ _).mono ?_; rintro e w' ⟨rfl, hb'⟩; first | have hb := bnext hb hb' | have hb := bnext (bal hb _) hb' | have hb := bnext (bal (bal hb _) _) hb' | have hb := bnext (bal (bal (bal hb _) _) _) hb' | have hb := bnext (bal (bal (bal (bal hb _) _) _) _) hb' | have hb := bnext (bal (bal (bal (bal (bal hb _) _) _) _) _) hb') | (go_at_call 57; refine (isTemperature_any _ _).mono ?_; rintro e w' ⟨rfl, hb'⟩; first | have hb := bnext hb hb' | have hb := bnext (bal hb _) hb' | have hb := bnext (bal (bal hb _) _) hb' | have hb := bnext (bal (bal (bal hb _) _) _) hb' | have hb := bnext (bal (bal (bal (bal hb _) _) _) _) hb' | have hb := bnext (bal (bal (bal (bal (bal hb _) _) _) _) _) hb') | (go_at_call 59; refine (isFlow_any _ _).mono ?_; rintro e w' ⟨rfl, hb'⟩; first | have hb := bnext hb hb' | have hb := bnext (bal hb _) hb' | have hb := bnext (bal (bal hb _) _) hb' | have hb := bnext (bal (bal (bal hb _) _) _) hb' | have hb := bnext (bal (bal (bal (bal hb _) _) _) _) hb' | have hb := bnext (bal (bal (bal (bal (bal hb _) _) _) _) _) hb'))
          go_ret2
          first | exact ⟨rfl, hb⟩ | exact ⟨rfl, (bal hb _)⟩ | exact ⟨rfl, (bal (bal hb _) _)⟩ | exact ⟨rfl, (bal (bal (bal hb _) _) _)⟩ | exact ⟨rfl, (bal (bal (bal (bal hb _) _) _) _)⟩ | exact ⟨rfl, (bal (bal (bal (bal (bal hb _) _) _) _) _)⟩
        · have k1 := inB_iff.1 h1
          have k2 := inB_iff.1 h2
          have k3 := inB_iff.1 h3
          have h4n : b < a := by omega
          have hq := flow_bd l (a - b) k1.1 k1.2 (by omega) (by omega)
          by_cases h5 : flowI l (a - b) ≤ 100000
          · skip
            have hv : wfV l a b = flowI l (a - b) := by unfold wfV wfB; simp [*]
            have hc : wfC l a b = 0 := by unfold wfC wfB; simp [*]
            rw [hv, hc]
            clear hv hc
            have HQ := Lib.hid (fun wx => (show Calls Try.prog 58 #[.int .i64 (l * 100000), .int .i64 (4186 * (a - b))] wx fun e w' => e = .returned (.int .i64 (flowI l (a - b))) ∧ Drawn wx w' from roundedUp_any (l * 100000) (4186 * (a - b)) wx (by omega) (by omega) (by omega) (by omega)))
            generalize flowI l (a - b) = q at *
            have e5 : inB q (-100000) 100000 = true := inB_true ⟨by omega, by omega⟩
            go_enter Try.func21, Try.ntmps21
            go_wp2_with (first | (go_at_call 56; refine (isLoad_any _ _).mono ?_; rintro e w' ⟨rfl, hb'⟩; first | have hb := bnext hb hb' | have hb := bnext (bal hb _) hb' | have hb := bnext (bal (bal hb _) _) hb' | have hb := bnext (bal (bal (bal hb _) _) _) hb' | have hb := bnext (bal (bal (bal (bal hb _) _) _) _) hb' | have hb := bnext (bal (bal (bal (bal (bal hb _) _) _) _) _) hb') | (go_at_call 57; refine (isTemperature_any _ _).mono ?_; rintro e w' ⟨rfl, hb'⟩; first | have hb := bnext hb hb' | have hb := bnext (bal hb _) hb' | have hb := bnext (bal (bal hb _) _) hb' | have hb := bnext (bal (bal (bal hb _) _) _) hb' | have hb := bnext (bal (bal (bal (bal hb _) _) _) _) hb' | have hb := bnext (bal (bal (bal (bal (bal hb _) _) _) _) _) hb') | (go_at_call 59; refine (isFlow_any _ _).mono ?_; rintro e w' ⟨rfl, hb'⟩; first | have hb := bnext hb hb' | have hb := bnext (bal hb _) hb' | have hb := bnext (bal (bal hb _) _) hb' | have hb := bnext (bal (bal (bal hb _) _) _) hb' | have hb := bnext (bal (bal (bal (bal hb _) _) _) _) hb' | have hb := bnext (bal (bal (bal (bal (bal hb _) _) _) _) _) hb') | (go_at_call 58; refine (HQ.out _).mono ?_; rintro e w' ⟨rfl, ⟨nq, rfl⟩⟩; have hb := below_drewN hb nq))
            go_ret2
            first | exact ⟨rfl, hb⟩ | exact ⟨rfl, (bal hb _)⟩ | exact ⟨rfl, (bal (bal hb _) _)⟩ | exact ⟨rfl, (bal (bal (bal hb _) _) _)⟩ | exact ⟨rfl, (bal (bal (bal (bal hb _) _) _) _)⟩ | exact ⟨rfl, (bal (bal (bal (bal (bal hb _) _) _) _) _)⟩
          · have h5n : 100000 < flowI l (a - b) := by omega
            have hv : wfV l a b = 0 := by unfold wfV wfB; simp [*]
            have hc : wfC l a b = 3 := by unfold wfC wfB; simp [*]
            rw [hv, hc]
            clear hv hc
            have HQ := Lib.hid (fun wx => (show Calls Try.prog 58 #[.int .i64 (l * 100000), .int .i64 (4186 * (a - b))] wx fun e w' => e = .returned (.int .i64 (flowI l (a - b))) ∧ Drawn wx w' from roundedUp_any (l * 100000) (4186 * (a - b)) wx (by omega) (by omega) (by omega) (by omega)))
            generalize flowI l (a - b) = q at *
            have e5 : inB q (-100000) 100000 = false := inB_false (by omega)
            go_enter Try.func21, Try.ntmps21
            go_wp2_with (first | (go_at_call 56; refine (isLoad_any _ _).mono ?_; rintro e w' ⟨rfl, hb'⟩; first | have hb := bnext hb hb' | have hb := bnext (bal hb _) hb' | have hb := bnext (bal (bal hb _) _) hb' | have hb := bnext (bal (bal (bal hb _) _) _) hb' | have hb := bnext (bal (bal (bal (bal hb _) _) _) _) hb' | have hb := bnext (bal (bal (bal (bal (bal hb _) _) _) _) _) hb') | (go_at_call 57; refine (isTemperature_any _ _).mono ?_; rintro e w' ⟨rfl, hb'⟩; first | have hb := bnext hb hb' | have hb := bnext (bal hb _) hb' | have hb := bnext (bal (bal hb _) _) hb' | have hb := bnext (bal (bal (bal hb _) _) _) hb' | have hb := bnext (bal (bal (bal (bal hb _) _) _) _) hb' | have hb := bnext (bal (bal (bal (bal (bal hb _) _) _) _) _) hb') | (go_at_call 59; refine (isFlow_any _ _).mono ?_; rintro e w' ⟨rfl, hb'⟩; first | have hb := bnext hb hb' | have hb := bnext (bal hb _) hb' | have hb := bnext (bal (bal hb _) _) hb' | have hb := bnext (bal (bal (bal hb _) _) _) hb' | have hb := bnext (bal (bal (bal (bal hb _) _) _) _) hb' | have hb := bnext (bal (bal (bal (bal (bal hb _) _) _) _) _) hb') | (go_at_call 58; refine (HQ.out _).mono ?_; rintro e w' ⟨rfl, ⟨nq, rfl⟩⟩; have hb := below_drewN hb nq))
            go_ret2
            first | exact ⟨rfl, hb⟩ | exact ⟨rfl, (bal hb _)⟩ | exact ⟨rfl, (bal (bal hb _) _)⟩ | exact ⟨rfl, (bal (bal (bal hb _) _) _)⟩ | exact ⟨rfl, (bal (bal (bal (bal hb _) _) _) _)⟩ | exact ⟨rfl, (bal (bal (bal (bal (bal hb _) _) _) _) _)⟩
      · have h3' : (inB b (-5000) 20000) = false := by simpa using h3
        have hv : wfV l a b = 0 := by unfold wfV wfB; simp [*]
        have hc : wfC l a b = 2 := by unfold wfC wfB; simp [*]
        rw [hv, hc]
        clear hv hc
        go_enter Try.func21, Try.ntmps21
        go_wp2_with (first | (go_at_call 56; refine (isLoad_any _ _).mono ?_; rintro e w' ⟨rfl, hb'⟩; first | have hb := bnext hb hb' | have hb := bnext (bal hb _) hb' | have hb := bnext (bal (bal hb _) _) hb' | have hb := bnext (bal (bal (bal hb _) _) _) hb' | have hb := bnext (bal (bal (bal (bal hb _) _) _) _) hb' | have hb := bnext (bal (bal (bal (bal (bal hb _) _) _) _) _) hb') | (go_at_call 57; refine (isTemperature_any _ _).mono ?_; rintro e w' ⟨rfl, hb'⟩; first | have hb := bnext hb hb' | have hb := bnext (bal hb _) hb' | have hb := bnext (bal (bal hb _) _) hb' | have hb := bnext (bal (bal (bal hb _) _) _) hb' | have hb := bnext (bal (bal (bal (bal hb _) _) _) _) hb' | have hb := bnext (bal (bal (bal (bal (bal hb _) _) _) _) _) hb') | (go_at_call 59; refine (isFlow_any _ _).mono ?_; rintro e w' ⟨rfl, hb'⟩; first | have hb := bnext hb hb' | have hb := bnext (bal hb _) hb' | have hb := bnext (bal (bal hb _) _) hb' | have hb := bnext (bal (bal (bal hb _) _) _) hb' | have hb := bnext (bal (bal (bal (bal hb _) _) _) _) hb' | have hb := bnext (bal (bal (bal (bal (bal hb _) _) _) _) _) hb'))
        go_ret2
        first | exact ⟨rfl, hb⟩ | exact ⟨rfl, (bal hb _)⟩ | exact ⟨rfl, (bal (bal hb _) _)⟩ | exact ⟨rfl, (bal (bal (bal hb _) _) _)⟩ | exact ⟨rfl, (bal (bal (bal (bal hb _) _) _) _)⟩ | exact ⟨rfl, (bal (bal (bal (bal (bal hb _) _) _) _) _)⟩
    · have h2' : (inB a (-5000) 20000) = false := by simpa using h2
      have hv : wfV l a b = 0 := by unfold wfV wfB; simp [*]
      have hc : wfC l a b = 2 := by unfold wfC wfB; simp [*]
      rw [hv, hc]
      clear hv hc
      go_enter Try.func21, Try.ntmps21
      go_wp2_with (first | (go_at_call 56; refine (isLoad_any _ _).mono ?_; rintro e w' ⟨rfl, hb'⟩; first | have hb := bnext hb hb' | have hb := bnext (bal hb _) hb' | have hb := bnext (bal (bal hb _) _) hb' | have hb := bnext (bal (bal (bal hb _) _) _) hb' | have hb := bnext (bal (bal (bal (bal hb _) _) _) _) hb' | have hb := bnext (bal (bal (bal (bal (bal hb _) _) _) _) _) hb') | (go_at_call 57; refine (isTemperature_any _ _).mono ?_; rintro e w' ⟨rfl, hb'⟩; first | have hb := bnext hb hb' | have hb := bnext (bal hb _) hb' | have hb := bnext (bal (bal hb _) _) hb' | have hb := bnext (bal (bal (bal hb _) _) _) hb' | have hb := bnext (bal (bal (bal (bal hb _) _) _) _) hb' | have hb := bnext (bal (bal (bal (bal (bal hb _) _) _) _) _) hb') | (go_at_call 59; refine (isFlow_any _ _).mono ?_; rintro e w' ⟨rfl, hb'⟩; first | have hb := bnext hb hb' | have hb := bnext (bal hb _) hb' | have hb := bnext (bal (bal hb _) _) hb' | have hb := bnext (bal (bal (bal hb _) _) _) hb' | have hb := bnext (bal (bal (bal (bal hb _) _) _) _) hb' | have hb := bnext (bal (bal (bal (bal (bal hb _) _) _) _) _) hb'))
      go_ret2
      first | exact ⟨rfl, hb⟩ | exact ⟨rfl, (bal hb _)⟩ | exact ⟨rfl, (bal (bal hb _) _)⟩ | exact ⟨rfl, (bal (bal (bal hb _) _) _)⟩ | exact ⟨rfl, (bal (bal (bal (bal hb _) _) _) _)⟩ | exact ⟨rfl, (bal (bal (bal (bal (bal hb _) _) _) _) _)⟩
  · have h1' : (inB l 0 100000000) = false := by simpa using h1
    have hv : wfV l a b = 0 := by unfold wfV wfB; simp [*]
    have hc : wfC l a b = 2 := by unfold wfC wfB; simp [*]
    rw [hv, hc]
    clear hv hc
    go_enter Try.func21, Try.ntmps21
    go_wp2_with (first | (go_at_call 56; refine (isLoad_any _ _).mono ?_; rintro e w' ⟨rfl, hb'⟩; first | have hb := bnext hb hb' | have hb := bnext (bal hb _) hb' | have hb := bnext (bal (bal hb _) _) hb' | have hb := bnext (bal (bal (bal hb _) _) _) hb' | have hb := bnext (bal (bal (bal (bal hb _) _) _) _) hb' | have hb := bnext (bal (bal (bal (bal (bal hb _) _) _) _) _) hb') | (go_at_call 57; refine (isTemperature_any _ _).mono ?_; rintro e w' ⟨rfl, hb'⟩; first | have hb := bnext hb hb' | have hb := bnext (bal hb _) hb' | have hb := bnext (bal (bal hb _) _) hb' | have hb := bnext (bal (bal (bal hb _) _) _) hb' | have hb := bnext (bal (bal (bal (bal hb _) _) _) _) hb' | have hb := bnext (bal (bal (bal (bal (bal hb _) _) _) _) _) hb') | (go_at_call 59; refine (isFlow_any _ _).mono ?_; rintro e w' ⟨rfl, hb'⟩; first | have hb := bnext hb hb' | have hb := bnext (bal hb _) hb' | have hb := bnext (bal (bal hb _) _) hb' | have hb := bnext (bal (bal (bal hb _) _) _) hb' | have hb := bnext (bal (bal (bal (bal hb _) _) _) _) hb' | have hb := bnext (bal (bal (bal (bal (bal hb _) _) _) _) _) hb'))
    go_ret2
    first | exact ⟨rfl, hb⟩ | exact ⟨rfl, (bal hb _)⟩ | exact ⟨rfl, (bal (bal hb _) _)⟩ | exact ⟨rfl, (bal (bal (bal hb _) _) _)⟩ | exact ⟨rfl, (bal (bal (bal (bal hb _) _) _) _)⟩ | exact ⟨rfl, (bal (bal (bal (bal (bal hb _) _) _) _) _)⟩

end Go.Proofs.Ytnepehdfkaegbaa
