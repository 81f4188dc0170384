/-
  PumpPower on both sides.
-/
import Derived.Test.YtdfohpdhghdpkaaP3
namespace Go.Proofs.Ytdfohpdhghdpkaa
open Go.ChangeShapes Go.WideShapes Go.ChangeAt Go.RowKit


def ppV (h : Int) (q : Int) : Int := if inB h 0 100000000 && inB q (-100000) 100000 then nearI (h * absI q) 1000000 else 0
def ppC (h : Int) (q : Int) : Int := if inB h 0 100000000 && inB q (-100000) 100000 then 0 else 2

theorem specPumpPower_any (h : Int) (q : Int) (w : World) : Calls Try.prog 38 #[.int .i64 h, .int .i64 q] w fun e w' => e = .returned (.tuple #[.int .i64 (ppV h q), .int .i64 (ppC h q)]) ∧ Below w.heap.size w w' := by
  have hb : Below w.heap.size w w := Below.refl _ _
  by_cases h1 : inB h 0 100000000 = true
  · skip
    by_cases h2 : inB q (-100000) 100000 = true
    · skip
      have hv : ppV h q = nearI (h * absI q) 1000000 := by unfold ppV; simp [*]
      have hc : ppC h q = 0 := by unfold ppC; simp [*]
      rw [hv, hc]
      clear hv hc
      have k1 := inB_iff.1 h1
      have k2 := inB_iff.1 h2
      have ha := absI_nn q
      have hb2 : absI q ≤ 100000 := by unfold absI; split <;> omega
      have k3 := mul_range h (absI q) 100000000 100000 k1.1 k1.2 ha hb2
      go_enter Try.func38, Try.ntmps38
      go_wp2_with (first | (go_at_call 78; refine (l03Press_any _ _).mono ?_; rintro e w' ⟨rfl, rfl⟩) | (go_at_call 83; refine (l03Flow_any _ _).mono ?_; rintro e w' ⟨rfl, rfl⟩) | (go_at_call 85; refine (l03Abs_any _ _ (by omega) (by omega)).mono ?_; rintro e w' ⟨rfl, rfl⟩) | (go_at_call 84; refine (l01Div_any _ _ _ (by omega) (by omega) (by omega) (by omega) (by omega)).mono ?_; rintro e w' ⟨rfl, rfl⟩))
      go_ret2
      first | exact ⟨rfl, hb⟩ | exact ⟨rfl, (bal hb _)⟩ | exact ⟨rfl, (bal (bal hb _) _)⟩ | exact ⟨rfl, (bal (bal (bal hb _) _) _)⟩ | exact ⟨rfl, (bal (bal (bal (bal hb _) _) _) _)⟩ | exact ⟨rfl, (bal (bal (bal (bal (bal hb _) _) _) _) _)⟩
    · have h2' : (inB q (-100000) 100000) = false := by simpa using h2
      have hv : ppV h q = 0 := by unfold ppV; simp [*]
      have hc : ppC h q = 2 := by unfold ppC; simp [*]
      rw [hv, hc]
      clear hv hc
      go_enter Try.func38, Try.ntmps38
      go_wp2_with (first | (go_at_call 78; refine (l03Press_any _ _).mono ?_; rintro e w' ⟨rfl, rfl⟩) | (go_at_call 83; refine (l03Flow_any _ _).mono ?_; rintro e w' ⟨rfl, rfl⟩) | (go_at_call 85; refine (l03Abs_any _ _ (by omega) (by omega)).mono ?_; rintro e w' ⟨rfl, rfl⟩) | (go_at_call 84; refine (l01Div_any _ _ _ (by omega) (by omega) (by omega) (by omega) (by omega)).mono ?_; rintro e w' ⟨rfl, rfl⟩))
      go_ret2
      first | exact ⟨rfl, hb⟩ | exact ⟨rfl, (bal hb _)⟩ | exact ⟨rfl, (bal (bal hb _) _)⟩ | exact ⟨rfl, (bal (bal (bal hb _) _) _)⟩ | exact ⟨rfl, (bal (bal (bal (bal hb _) _) _) _)⟩ | exact ⟨rfl, (bal (bal (bal (bal (bal hb _) _) _) _) _)⟩
  · have h1' : (inB h 0 100000000) = false := by simpa using h1
    have hv : ppV h q = 0 := by unfold ppV; simp [*]
    have hc : ppC h q = 2 := by unfold ppC; simp [*]
    rw [hv, hc]
    clear hv hc
    go_enter Try.func38, Try.ntmps38
    go_wp2_with (first | (go_at_call 78; refine (l03Press_any _ _).mono ?_; rintro e w' ⟨rfl, rfl⟩) | (go_at_call 83; refine (l03Flow_any _ _).mono ?_; rintro e w' ⟨rfl, rfl⟩) | (go_at_call 85; refine (l03Abs_any _ _ (by omega) (by omega)).mono ?_; rintro e w' ⟨rfl, rfl⟩) | (go_at_call 84; refine (l01Div_any _ _ _ (by omega) (by omega) (by omega) (by omega) (by omega)).mono ?_; rintro e w' ⟨rfl, rfl⟩))
    go_ret2
    first | exact ⟨rfl, hb⟩ | exact ⟨rfl, (bal hb _)⟩ | exact ⟨rfl, (bal (bal hb _) _)⟩ | exact ⟨rfl, (bal (bal (bal hb _) _) _)⟩ | exact ⟨rfl, (bal (bal (bal (bal hb _) _) _) _)⟩ | exact ⟨rfl, (bal (bal (bal (bal (bal hb _) _) _) _) _)⟩

theorem implPumpPower_any (h : Int) (q : Int) (w : World) : Calls Try.prog 39 #[.int .i64 h, .int .i64 q] w fun e w' => e = .returned (.tuple #[.int .i64 (ppV h q), .int .i64 (ppC h q)]) ∧ Below w.heap.size w w' := by
  have hb : Below w.heap.size w w := Below.refl _ _
  by_cases h1 : inB h 0 100000000 = true
  · skip
    by_cases h2 : inB q (-100000) 100000 = true
    · skip
      have hv : ppV h q = nearI (h * absI q) 1000000 := by unfold ppV; simp [*]
      have hc : ppC h q = 0 := by unfold ppC; simp [*]
      rw [hv, hc]
      clear hv hc
      have k1 := inB_iff.1 h1
      have k2 := inB_iff.1 h2
      have ha := absI_nn q
      have hb2 : absI q ≤ 100000 := by unfold absI; split <;> omega
      have k3 := mul_range h (absI q) 100000000 100000 k1.1 k1.2 ha hb2
      go_enter Try.func39, Try.ntmps39
      go_wp2_with (first | (go_at_call 81; refine (isPressure_any _ _).mono ?_; rintro e w' ⟨rfl, hb'⟩; first | have hb := bnext hb hb' | have hb := bnext (bal hb _) hb' | have hb := bnext (bal (bal hb _) _) hb' | have hb := bnext (bal (bal (bal hb _) _) _) hb' | have hb := bnext (bal (bal (bal (bal hb _) _) _) _) hb' | have hb := bnext (bal (bal (bal (bal (bal hb _) _) _) _) _) hb') | (go_at_call 86; refine (isFlow_any _ _).mono ?_; rintro e w' ⟨rfl, hb'⟩; first | have hb := bnext hb hb' | have hb := bnext (bal hb _) hb' | have hb := bnext (bal (bal hb _) _) hb' | have hb := bnext (bal (bal (bal hb _) _) _) hb' | have hb := bnext (bal (bal (bal (bal hb _) _) _) _) hb' | have hb := bnext (bal (bal (bal (bal (bal hb _) _) _) _) _) hb') | (go_at_call 88; refine (absolute_any _ _ (by omega) (by omega)).mono ?_; rintro e w' ⟨rfl, rfl⟩) | (go_at_call 87; refine (nearest_any _ _ _ (by omega) (by omega) (by omega) (by omega) (by omega)).mono ?_; rintro e w' ⟨rfl, ⟨nq, rfl⟩⟩; have hb := below_drewN hb nq))
      go_ret2
      first | exact ⟨rfl, hb⟩ | exact ⟨rfl, (bal hb _)⟩ | exact ⟨rfl, (bal (bal hb _) _)⟩ | exact ⟨rfl, (bal (bal (bal hb _) _) _)⟩ | exact ⟨rfl, (bal (bal (bal (bal hb _) _) _) _)⟩ | exact ⟨rfl, (bal (bal (bal (bal (bal hb _) _) _) _) _)⟩
    · have h2' : (inB q (-100000) 100000) = false := by simpa using h2
      have hv : ppV h q = 0 := by unfold ppV; simp [*]
      have hc : ppC h q = 2 := by unfold ppC; simp [*]
      rw [hv, hc]
      clear hv hc
      go_enter Try.func39, Try.ntmps39
      go_wp2_with (first | (go_at_call 81; refine (isPressure_any _ _).mono ?_; rintro e w' ⟨rfl, hb'⟩; first | have hb := bnext hb hb' | have hb := bnext (bal hb _) hb' | have hb := bnext (bal (bal hb _) _) hb' | have hb := bnext (bal (bal (bal hb _) _) _) hb' | have hb := bnext (bal (bal (bal (bal hb _) _) _) _) hb' | have hb := bnext (bal (bal (bal (bal (bal hb _) _) _) _) _) hb') | (go_at_call 86; refine (isFlow_any _ _).mono ?_; rintro e w' ⟨rfl, hb'⟩; first | have hb := bnext hb hb' | have hb := bnext (bal hb _) hb' | have hb := bnext (bal (bal hb _) _) hb' | have hb := bnext (bal (bal (bal hb _) _) _) hb' | have hb := bnext (bal (bal (bal (bal hb _) _) _) _) hb' | have hb := bnext (bal (bal (bal (bal (bal hb _) _) _) _) _) hb') | (go_at_call 88; refine (absolute_any _ _ (by omega) (by omega)).mono ?_; rintro e w' ⟨rfl, rfl⟩) | (go_at_call 87; refine (nearest_any _ _ _ (by omega) (by omega) (by omega) (by omega) (by omega)).mono ?_; rintro e w' ⟨rfl, ⟨nq, rfl⟩⟩; have hb := below_drewN hb nq))
      go_ret2
      first | exact ⟨rfl, hb⟩ | exact ⟨rfl, (bal hb _)⟩ | exact ⟨rfl, (bal (bal hb _) _)⟩ | exact ⟨rfl, (bal (bal (bal hb _) _) _)⟩ | exact ⟨rfl, (bal (bal (bal (bal hb _) _) _) _)⟩ | exact ⟨rfl, (bal (bal (bal (bal (bal hb _) _) _) _) _)⟩
  · have h1' : (inB h 0 100000000) = false := by simpa using h1
    have hv : ppV h q = 0 := by unfold ppV; simp [*]
    have hc : ppC h q = 2 := by unfold ppC; simp [*]
    rw [hv, hc]
    clear hv hc
    go_enter Try.func39, Try.ntmps39
    go_wp2_with (first | (go_at_call 81; refine (isPressure_any _ _).mono ?_; rintro e w' ⟨rfl, hb'⟩; first | have hb := bnext hb hb' | have hb := bnext (bal hb _) hb' | have hb := bnext (bal (bal hb _) _) hb' | have hb := bnext (bal (bal (bal hb _) _) _) hb' | have hb := bnext (bal (bal (bal (bal hb _) _) _) _) hb' | have hb := bnext (bal (bal (bal (bal (bal hb _) _) _) _) _) hb') | (go_at_call 86; refine (isFlow_any _ _).mono ?_; rintro e w' ⟨rfl, hb'⟩; first | have hb := bnext hb hb' | have hb := bnext (bal hb _) hb' | have hb := bnext (bal (bal hb _) _) hb' | have hb := bnext (bal (bal (bal hb _) _) _) hb' | have hb := bnext (bal (bal (bal (bal hb _) _) _) _) hb' | have hb := bnext (bal (bal (bal (bal (bal hb _) _) _) _) _) hb') | (go_at_call 88; refine (absolute_any _ _ (by omega) (by omega)).mono ?_; rintro e w' ⟨rfl, rfl⟩) | (go_at_call 87; refine (nearest_any _ _ _ (by omega) (by omega) (by omega) (by omega) (by omega)).mono ?_; rintro e w' ⟨rfl, ⟨nq, rfl⟩⟩; have hb := below_drewN hb nq))
    go_ret2
    first | exact ⟨rfl, hb⟩ | exact ⟨rfl, (bal hb _)⟩ | exact ⟨rfl, (bal (bal hb _) _)⟩ | exact ⟨rfl, (bal (bal (bal hb _) _) _)⟩ | exact ⟨rfl, (bal (bal (bal (bal hb _) _) _) _)⟩ | exact ⟨rfl, (bal (bal (bal (bal (bal hb _) _) _) _) _)⟩

end Go.Proofs.Ytdfohpdhghdpkaa
