/-
  Chapter 2: what both sides answer where no search is made: densities, boiling, margins, powers, volumes, pressures of heights, energies.
-/
import Derived.Test.YtgdafgnjaogmeabW2
namespace Go.Proofs.Ytgdafgnjaogmeab
open Go.ChangeShapes Go.WideShapes Go.ChangeAt Go.RowKit


theorem bal {w a : World} (h : Below w.heap.size w a) (o : Obj) : Below w.heap.size w (a.alloc o) := h.alloc h.size o
theorem one64 (lo hi a : Int) (w : World) (t : TypeId) (h : lo ≤ hi) :
    Calls Try.prog 46 #[.int .i64 lo, .int .i64 hi, .slice (some ⟨w.heap.size, 0, none⟩) 1 1] (w.alloc (.cells #[.int .i64 a] t))
      fun e w' => e = .returned (.bool (inB a lo hi)) ∧ Below w.heap.size w w' :=
  (within64_one lo hi a w t h).mono fun _ _ ⟨he, hw⟩ => ⟨he, hw ▸ bal (Below.refl _ _) _⟩
theorem one64At (n : Nat) (lo hi a : Int) (w : World) (t : TypeId) (hn : n = w.heap.size) (h : lo ≤ hi) :
    Calls Try.prog 46 #[.int .i64 lo, .int .i64 hi, .slice (some ⟨n, 0, none⟩) 1 1] (w.alloc (.cells #[.int .i64 a] t))
      fun e w' => e = .returned (.bool (inB a lo hi)) ∧ Below w.heap.size w w' := by
  subst hn
  exact one64 lo hi a w t h
theorem two64 (lo hi a b : Int) (w : World) (t : TypeId) (h : lo ≤ hi) :
    Calls Try.prog 46 #[.int .i64 lo, .int .i64 hi, .slice (some ⟨w.heap.size, 0, none⟩) 2 2] (w.alloc (.cells #[.int .i64 a, .int .i64 b] t))
      fun e w' => e = .returned (.bool (inB a lo hi && inB b lo hi)) ∧ Below w.heap.size w w' :=
  (within_two lo hi a b w t h).mono fun _ _ ⟨he, hw⟩ => ⟨he, hw ▸ bal (Below.refl _ _) _⟩
theorem two64At (n : Nat) (lo hi a b : Int) (w : World) (t : TypeId) (hn : n = w.heap.size) (h : lo ≤ hi) :
    Calls Try.prog 46 #[.int .i64 lo, .int .i64 hi, .slice (some ⟨n, 0, none⟩) 2 2] (w.alloc (.cells #[.int .i64 a, .int .i64 b] t))
      fun e w' => e = .returned (.bool (inB a lo hi && inB b lo hi)) ∧ Below w.heap.size w w' := by
  subst hn
  exact two64 lo hi a b w t h

theorem l02Flow_any (n : Int) (w : World) : Calls Try.prog 93 #[.int .i64 n] w fun e w' => e = .returned (.bool (inB n 0 100000)) ∧ w = w' := by
  go_enter Try.func93, Try.ntmps93
  go_wp2_with ((go_at_call 94; refine (in_any _ _ _ _).mono ?_; rintro e w' ⟨rfl, rfl⟩))
  go_ret
  exact ⟨rfl, rfl⟩

theorem isNode_any (n : Int) (w : World) : Calls Try.prog 140 #[.int .i64 n] w fun e w' => e = .returned (.bool (inB n 0 15)) ∧ Below w.heap.size w w' := by
  have hb : Below w.heap.size w w := Below.refl _ _
  go_enter Try.func140, Try.ntmps140
  go_wp2_with ((go_at_call 46; refine (one64At _ _ _ _ _ _ (by simp) (by omega)).mono ?_; rintro e w' ⟨rfl, hb'⟩; first | have hb := bnext hb hb' | have hb := bnext (bal hb _) hb' | have hb := bnext (bal (bal hb _) _) hb' | have hb := bnext (bal (bal (bal hb _) _) _) hb' | have hb := bnext (bal (bal (bal (bal hb _) _) _) _) hb' | have hb := bnext (bal (bal (bal (bal (bal hb _) _) _) _) _) hb'))
  go_ret
  first | exact ⟨rfl, hb⟩ | exact ⟨rfl, (bal hb _)⟩ | exact ⟨rfl, (bal (bal hb _) _)⟩ | exact ⟨rfl, (bal (bal (bal hb _) _) _)⟩ | exact ⟨rfl, (bal (bal (bal (bal hb _) _) _) _)⟩ | exact ⟨rfl, (bal (bal (bal (bal (bal hb _) _) _) _) _)⟩

theorem isLoss_any (n : Int) (w : World) : Calls Try.prog 141 #[.int .i64 n] w fun e w' => e = .returned (.bool (inB n 0 5000)) ∧ Below w.heap.size w w' := by
  have hb : Below w.heap.size w w := Below.refl _ _
  go_enter Try.func141, Try.ntmps141
  go_wp2_with ((go_at_call 46; refine (one64At _ _ _ _ _ _ (by simp) (by omega)).mono ?_; rintro e w' ⟨rfl, hb'⟩; first | have hb := bnext hb hb' | have hb := bnext (bal hb _) hb' | have hb := bnext (bal (bal hb _) _) hb' | have hb := bnext (bal (bal (bal hb _) _) _) hb' | have hb := bnext (bal (bal (bal (bal hb _) _) _) _) hb' | have hb := bnext (bal (bal (bal (bal (bal hb _) _) _) _) _) hb'))
  go_ret
  first | exact ⟨rfl, hb⟩ | exact ⟨rfl, (bal hb _)⟩ | exact ⟨rfl, (bal (bal hb _) _)⟩ | exact ⟨rfl, (bal (bal (bal hb _) _) _)⟩ | exact ⟨rfl, (bal (bal (bal (bal hb _) _) _) _)⟩ | exact ⟨rfl, (bal (bal (bal (bal (bal hb _) _) _) _) _)⟩

def densV (t : Int) : Int := if inB t 0 18000 then densI t else 0
def densC (t : Int) : Int := if inB t 0 18000 then 0 else 2

theorem implWaterDensity_any (t : Int) (w : World) : Calls Try.prog 86 #[.int .i64 t] w fun e w' => e = .returned (.tuple #[.int .i64 (densV t), .int .i64 (densC t)]) ∧ Below w.heap.size w w' := by
  have hb : Below w.heap.size w w := Below.refl _ _
  by_cases h1 : inB t 0 18000 = true
  · skip
    have hv : densV t = densI t := by unfold densV; simp [*]
    have hc : densC t = 0 := by unfold densC; simp [*]
    rw [hv, hc]
    clear hv hc
    go_enter Try.func86, Try.ntmps86
    go_wp2_with (first | (go_at_call 46; refine (one64At _ _ _ _ _ _ (by simp) (by omega)).mono ?_; rintro e w' ⟨rfl, hb'⟩; first | have hb := bnext hb hb' | have hb := bnext (bal hb _) hb' | have hb := bnext (bal (bal hb _) _) hb' | have hb := bnext (bal (bal (bal hb _) _) _) hb' | have hb := bnext (bal (bal (bal (bal hb _) _) _) _) hb' | have hb := bnext (bal (bal (bal (bal (bal hb _) _) _) _) _) hb') | (go_at_call 83; refine (densities_any _).mono ?_; rintro e w' ⟨rfl, hb'⟩; first | have hb := bnext hb hb' | have hb := bnext (bal hb _) hb' | have hb := bnext (bal (bal hb _) _) hb' | have hb := bnext (bal (bal (bal hb _) _) _) hb' | have hb := bnext (bal (bal (bal (bal hb _) _) _) _) hb' | have hb := bnext (bal (bal (bal (bal (bal hb _) _) _) _) _) hb') | (go_at_call 85; refine (densAt_any _ _).mono ?_; rintro e w' ⟨rfl, hb'⟩; first | have hb := bnext hb hb' | have hb := bnext (bal hb _) hb' | have hb := bnext (bal (bal hb _) _) hb' | have hb := bnext (bal (bal (bal hb _) _) _) hb' | have hb := bnext (bal (bal (bal (bal hb _) _) _) _) hb' | have hb := bnext (bal (bal (bal (bal (bal hb _) _) _) _) _) hb'))
    go_ret2
    first | exact ⟨rfl, hb⟩ | exact ⟨rfl, (bal hb _)⟩ | exact ⟨rfl, (bal (bal hb _) _)⟩ | exact ⟨rfl, (bal (bal (bal hb _) _) _)⟩ | exact ⟨rfl, (bal (bal (bal (bal hb _) _) _) _)⟩ | exact ⟨rfl, (bal (bal (bal (bal (bal hb _) _) _) _) _)⟩
  · have h1' : (inB t 0 18000) = false := by simpa using h1
    have hv : densV t = 0 := by unfold densV; simp [*]
    have hc : densC t = 2 := by unfold densC; simp [*]
    rw [hv, hc]
    clear hv hc
    go_enter Try.func86, Try.ntmps86
    go_wp2_with (first | (go_at_call 46; refine (one64At _ _ _ _ _ _ (by simp) (by omega)).mono ?_; rintro e w' ⟨rfl, hb'⟩; first | have hb := bnext hb hb' | have hb := bnext (bal hb _) hb' | have hb := bnext (bal (bal hb _) _) hb' | have hb := bnext (bal (bal (bal hb _) _) _) hb' | have hb := bnext (bal (bal (bal (bal hb _) _) _) _) hb' | have hb := bnext (bal (bal (bal (bal (bal hb _) _) _) _) _) hb') | (go_at_call 83; refine (densities_any _).mono ?_; rintro e w' ⟨rfl, hb'⟩; first | have hb := bnext hb hb' | have hb := bnext (bal hb _) hb' | have hb := bnext (bal (bal hb _) _) hb' | have hb := bnext (bal (bal (bal hb _) _) _) hb' | have hb := bnext (bal (bal (bal (bal hb _) _) _) _) hb' | have hb := bnext (bal (bal (bal (bal (bal hb _) _) _) _) _) hb') | (go_at_call 85; refine (densAt_any _ _).mono ?_; rintro e w' ⟨rfl, hb'⟩; first | have hb := bnext hb hb' | have hb := bnext (bal hb _) hb' | have hb := bnext (bal (bal hb _) _) hb' | have hb := bnext (bal (bal (bal hb _) _) _) hb' | have hb := bnext (bal (bal (bal (bal hb _) _) _) _) hb' | have hb := bnext (bal (bal (bal (bal (bal hb _) _) _) _) _) hb'))
    go_ret2
    first | exact ⟨rfl, hb⟩ | exact ⟨rfl, (bal hb _)⟩ | exact ⟨rfl, (bal (bal hb _) _)⟩ | exact ⟨rfl, (bal (bal (bal hb _) _) _)⟩ | exact ⟨rfl, (bal (bal (bal (bal hb _) _) _) _)⟩ | exact ⟨rfl, (bal (bal (bal (bal (bal hb _) _) _) _) _)⟩

def boilV (p : Int) : Int := if inB p 1000 1200000 then boilI p else 0
def boilC (p : Int) : Int := if inB p 1000 1200000 then 0 else 2

theorem implWaterDensity_yes (t : Int) (w : World) (h : inB t 0 18000 = true) : Calls Try.prog 86 #[.int .i64 t] w fun e w' => e = .returned (.tuple #[.int .i64 (densI t), .int .i64 (0)]) ∧ Below w.heap.size w w' := by
  have k := implWaterDensity_any t w
  unfold densV densC at k
  simpa [h] using k

theorem implWaterDensity_no (t : Int) (w : World) (h : inB t 0 18000 = false) : Calls Try.prog 86 #[.int .i64 t] w fun e w' => e = .returned (.tuple #[.int .i64 (0), .int .i64 (2)]) ∧ Below w.heap.size w w' := by
  have k := implWaterDensity_any t w
  unfold densV densC at k
  simpa [h] using k

def margV (p : Int) (t : Int) : Int := if inB p 1000 1200000 && inB t 0 18000 then boilI p - t else 0
def margC (p : Int) (t : Int) : Int := if inB p 1000 1200000 && inB t 0 18000 then 0 else 2

/-- both are temperatures of water and the second is no higher -/
def coolB (a b : Int) : Bool := inB a 0 18000 && inB b 0 a
/-- watts that a flow gives off over a difference -/
def wattI (q d : Int) : Int := nearI (q * 4186 * d) 100000
theorem watt_num (q d : Int) (q0 : -100000 ≤ q) (q1 : q ≤ 100000) (d0 : -25000 ≤ d) (d1 : d ≤ 25000) : -10465000000000 ≤ q * 4186 * d ∧ q * 4186 * d ≤ 10465000000000 := by
  by_cases h : 0 ≤ q
  · have := mul_sgn (q * 4186) d 418600000 25000 (by omega) (by omega) d0 d1
    omega
  · have := mul_sgn (-q * 4186) d 418600000 25000 (by omega) (by omega) d0 d1
    rw [Int.neg_mul, Int.neg_mul] at this
    omega
theorem watt_bd (q d : Int) (q0 : -100000 ≤ q) (q1 : q ≤ 100000) (d0 : -25000 ≤ d) (d1 : d ≤ 25000) : -10465000000000 ≤ wattI q d ∧ wattI q d ≤ 10465000000000 :=
  nearI_lim _ _ _ (watt_num q d q0 q1 d0 d1).1 (watt_num q d q0 q1 d0 d1).2 (by omega)
def hpV (q : Int) (a : Int) (b : Int) : Int := if inB q 0 100000 && inB a 0 18000 && inB b 0 a then wattI q (a - b) else 0
def hpC (q : Int) (a : Int) (b : Int) : Int := if inB q 0 100000 && inB a 0 18000 && inB b 0 a then 0 else 2

def enV (p : Int) (m : Int) : Int := if inB p 0 100000000 && inB m 0 1000000 then nearI (p * m) 60 else 0
def enC (p : Int) (m : Int) : Int := if inB p 0 100000000 && inB m 0 1000000 then 0 else 2

theorem implEnergyOf_any (p : Int) (m : Int) (w : World) : Calls Try.prog 34 #[.int .i64 p, .int .i64 m] w fun e w' => e = .returned (.tuple #[.int .i64 (enV p m), .int .i64 (enC p m)]) ∧ Below w.heap.size w w' := by
  have hb : Below w.heap.size w w := Below.refl _ _
  by_cases h1 : inB p 0 100000000 = true
  · skip
    by_cases h2 : inB m 0 1000000 = true
    · skip
      have hv : enV p m = nearI (p * m) 60 := by unfold enV; simp [*]
      have hc : enC p m = 0 := by unfold enC; simp [*]
      rw [hv, hc]
      clear hv hc
      have k1 := inB_iff.1 h1
      have k2 := inB_iff.1 h2
      have k3 := mul_range p m 100000000 1000000 k1.1 k1.2 k2.1 k2.2
      go_enter Try.func34, Try.ntmps34
      go_wp2_with (first | (go_at_call 46; refine (one64At _ _ _ _ _ _ (by simp) (by omega)).mono ?_; rintro e w' ⟨rfl, hb'⟩; first | have hb := bnext hb hb' | have hb := bnext (bal hb _) hb' | have hb := bnext (bal (bal hb _) _) hb' | have hb := bnext (bal (bal (bal hb _) _) _) hb' | have hb := bnext (bal (bal (bal (bal hb _) _) _) _) hb' | have hb := bnext (bal (bal (bal (bal (bal hb _) _) _) _) _) hb') | (go_at_call 84; refine (nearest_any _ _ _ (by omega) (by omega) (by omega) (by omega) (by omega)).mono ?_; rintro e w' ⟨rfl, ⟨nq, rfl⟩⟩; have hb := below_drewN hb nq))
      go_ret2
      first | exact ⟨rfl, hb⟩ | exact ⟨rfl, (bal hb _)⟩ | exact ⟨rfl, (bal (bal hb _) _)⟩ | exact ⟨rfl, (bal (bal (bal hb _) _) _)⟩ | exact ⟨rfl, (bal (bal (bal (bal hb _) _) _) _)⟩ | exact ⟨rfl, (bal (bal (bal (bal (bal hb _) _) _) _) _)⟩
    · have h2' : (inB m 0 1000000) = false := by simpa using h2
      have hv : enV p m = 0 := by unfold enV; simp [*]
      have hc : enC p m = 2 := by unfold enC; simp [*]
      rw [hv, hc]
      clear hv hc
      go_enter Try.func34, Try.ntmps34
      go_wp2_with (first | (go_at_call 46; refine (one64At _ _ _ _ _ _ (by simp) (by omega)).mono ?_; rintro e w' ⟨rfl, hb'⟩; first | have hb := bnext hb hb' | have hb := bnext (bal hb _) hb' | have hb := bnext (bal (bal hb _) _) hb' | have hb := bnext (bal (bal (bal hb _) _) _) hb' | have hb := bnext (bal (bal (bal (bal hb _) _) _) _) hb' | have hb := bnext (bal (bal (bal (bal (bal hb _) _) _) _) _) hb') | (go_at_call 84; refine (nearest_any _ _ _ (by omega) (by omega) (by omega) (by omega) (by omega)).mono ?_; rintro e w' ⟨rfl, ⟨nq, rfl⟩⟩; have hb := below_drewN hb nq))
      go_ret2
      first | exact ⟨rfl, hb⟩ | exact ⟨rfl, (bal hb _)⟩ | exact ⟨rfl, (bal (bal hb _) _)⟩ | exact ⟨rfl, (bal (bal (bal hb _) _) _)⟩ | exact ⟨rfl, (bal (bal (bal (bal hb _) _) _) _)⟩ | exact ⟨rfl, (bal (bal (bal (bal (bal hb _) _) _) _) _)⟩
  · have h1' : (inB p 0 100000000) = false := by simpa using h1
    have hv : enV p m = 0 := by unfold enV; simp [*]
    have hc : enC p m = 2 := by unfold enC; simp [*]
    rw [hv, hc]
    clear hv hc
    go_enter Try.func34, Try.ntmps34
    go_wp2_with (first | (go_at_call 46; refine (one64At _ _ _ _ _ _ (by simp) (by omega)).mono ?_; rintro e w' ⟨rfl, hb'⟩; first | have hb := bnext hb hb' | have hb := bnext (bal hb _) hb' | have hb := bnext (bal (bal hb _) _) hb' | have hb := bnext (bal (bal (bal hb _) _) _) hb' | have hb := bnext (bal (bal (bal (bal hb _) _) _) _) hb' | have hb := bnext (bal (bal (bal (bal (bal hb _) _) _) _) _) hb') | (go_at_call 84; refine (nearest_any _ _ _ (by omega) (by omega) (by omega) (by omega) (by omega)).mono ?_; rintro e w' ⟨rfl, ⟨nq, rfl⟩⟩; have hb := below_drewN hb nq))
    go_ret2
    first | exact ⟨rfl, hb⟩ | exact ⟨rfl, (bal hb _)⟩ | exact ⟨rfl, (bal (bal hb _) _)⟩ | exact ⟨rfl, (bal (bal (bal hb _) _) _)⟩ | exact ⟨rfl, (bal (bal (bal (bal hb _) _) _) _)⟩ | exact ⟨rfl, (bal (bal (bal (bal (bal hb _) _) _) _) _)⟩

def volV (v : Int) (a : Int) (b : Int) : Int := if inB v 0 1000000000 && inB a 0 18000 && inB b 0 18000 then nearI (v * densI a) (densI b) else 0
def volC (v : Int) (a : Int) (b : Int) : Int := if inB v 0 1000000000 && inB a 0 18000 && inB b 0 18000 then 0 else 2

def headV (h : Int) (t : Int) : Int := if inB h (-200000) 200000 && inB t 0 18000 then nearI (densI t * h * 981) 1000000 else 0
def headC (h : Int) (t : Int) : Int := if inB h (-200000) 200000 && inB t 0 18000 then 0 else 2

theorem implHeadPressure_any (h : Int) (t : Int) (w : World) : Calls Try.prog 32 #[.int .i64 h, .int .i64 t] w fun e w' => e = .returned (.tuple #[.int .i64 (headV h t), .int .i64 (headC h t)]) ∧ Below w.heap.size w w' := by
  have hb : Below w.heap.size w w := Below.refl _ _
  by_cases h2 : inB t 0 18000 = true
  · skip
    by_cases h1 : inB h (-200000) 200000 = true
    · skip
      have hv : headV h t = nearI (densI t * h * 981) 1000000 := by unfold headV; simp [*]
      have hc : headC h t = 0 := by unfold headC; simp [*]
      rw [hv, hc]
      clear hv hc
      have k1 := inB_iff.1 h1
      have d1 := dens_bd t
      have k3 := mul_sgn (densI t) h 99984 200000 (by omega) d1.2 k1.1 k1.2
      go_enter Try.func32, Try.ntmps32
      go_wp2_with (first | (go_at_call 46; refine (one64At _ _ _ _ _ _ (by simp) (by omega)).mono ?_; rintro e w' ⟨rfl, hb'⟩; first | have hb := bnext hb hb' | have hb := bnext (bal hb _) hb' | have hb := bnext (bal (bal hb _) _) hb' | have hb := bnext (bal (bal (bal hb _) _) _) hb' | have hb := bnext (bal (bal (bal (bal hb _) _) _) _) hb' | have hb := bnext (bal (bal (bal (bal (bal hb _) _) _) _) _) hb') | (go_at_call 84; refine (nearest_any _ _ _ (by omega) (by omega) (by omega) (by omega) (by omega)).mono ?_; rintro e w' ⟨rfl, ⟨nq, rfl⟩⟩; have hb := below_drewN hb nq) | (go_at_call 86; refine (implWaterDensity_yes _ _ (by assumption)).mono ?_; rintro e w' ⟨rfl, hb'⟩; first | have hb := bnext hb hb' | have hb := bnext (bal hb _) hb' | have hb := bnext (bal (bal hb _) _) hb' | have hb := bnext (bal (bal (bal hb _) _) _) hb' | have hb := bnext (bal (bal (bal (bal hb _) _) _) _) hb' | have hb := bnext (bal (bal (bal (bal (bal hb _) _) _) _) _) hb') | (go_at_call 86; refine (implWaterDensity_no _ _ (by assumption)).mono ?_; rintro e w' ⟨rfl, hb'⟩; first | have hb := bnext hb hb' | have hb := bnext (bal hb _) hb' | have hb := bnext (bal (bal hb _) _) hb' | have hb := bnext (bal (bal (bal hb _) _) _) hb' | have hb := bnext (bal (bal (bal (bal hb _) _) _) _) hb' | have hb := bnext (bal (bal (bal (bal (bal hb _) _) _) _) _) hb'))
      go_ret2
      first | exact ⟨rfl, hb⟩ | exact ⟨rfl, (bal hb _)⟩ | exact ⟨rfl, (bal (bal hb _) _)⟩ | exact ⟨rfl, (bal (bal (bal hb _) _) _)⟩ | exact ⟨rfl, (bal (bal (bal (bal hb _) _) _) _)⟩ | exact ⟨rfl, (bal (bal (bal (bal (bal hb _) _) _) _) _)⟩
    · have h1' : (inB h (-200000) 200000) = false := by simpa using h1
      have hv : headV h t = 0 := by unfold headV; simp [*]
      have hc : headC h t = 2 := by unfold headC; simp [*]
      rw [hv, hc]
      clear hv hc
      go_enter Try.func32, Try.ntmps32
      go_wp2_with (first | (go_at_call 46; refine (one64At _ _ _ _ _ _ (by simp) (by omega)).mono ?_; rintro e w' ⟨rfl, hb'⟩; first | have hb := bnext hb hb' | have hb := bnext (bal hb _) hb' | have hb := bnext (bal (bal hb _) _) hb' | have hb := bnext (bal (bal (bal hb _) _) _) hb' | have hb := bnext (bal (bal (bal (bal hb _) _) _) _) hb' | have hb := bnext (bal (bal (bal (bal (bal hb _) _) _) _) _) hb') | (go_at_call 84; refine (nearest_any _ _ _ (by omega) (by omega) (by omega) (by omega) (by omega)).mono ?_; rintro e w' ⟨rfl, ⟨nq, rfl⟩⟩; have hb := below_drewN hb nq) | (go_at_call 86; refine (implWaterDensity_yes _ _ (by assumption)).mono ?_; rintro e w' ⟨rfl, hb'⟩; first | have hb := bnext hb hb' | have hb := bnext (bal hb _) hb' | have hb := bnext (bal (bal hb _) _) hb' | have hb := bnext (bal (bal (bal hb _) _) _) hb' | have hb := bnext (bal (bal (bal (bal hb _) _) _) _) hb' | have hb := bnext (bal (bal (bal (bal (bal hb _) _) _) _) _) hb') | (go_at_call 86; refine (implWaterDensity_no _ _ (by assumption)).mono ?_; rintro e w' ⟨rfl, hb'⟩; first | have hb := bnext hb hb' | have hb := bnext (bal hb _) hb' | have hb := bnext (bal (bal hb _) _) hb' | have hb := bnext (bal (bal (bal hb _) _) _) hb' | have hb := bnext (bal (bal (bal (bal hb _) _) _) _) hb' | have hb := bnext (bal (bal (bal (bal (bal hb _) _) _) _) _) hb'))
      go_ret2
      first | exact ⟨rfl, hb⟩ | exact ⟨rfl, (bal hb _)⟩ | exact ⟨rfl, (bal (bal hb _) _)⟩ | exact ⟨rfl, (bal (bal (bal hb _) _) _)⟩ | exact ⟨rfl, (bal (bal (bal (bal hb _) _) _) _)⟩ | exact ⟨rfl, (bal (bal (bal (bal (bal hb _) _) _) _) _)⟩
  · have h2' : (inB t 0 18000) = false := by simpa using h2
    have hv : headV h t = 0 := by unfold headV; simp [*]
    have hc : headC h t = 2 := by unfold headC; simp [*]
    rw [hv, hc]
    clear hv hc
    go_enter Try.func32, Try.ntmps32
    go_wp2_with (first | (go_at_call 46; refine (one64At _ _ _ _ _ _ (by simp) (by omega)).mono ?_; rintro e w' ⟨rfl, hb'⟩; first | have hb := bnext hb hb' | have hb := bnext (bal hb _) hb' | have hb := bnext (bal (bal hb _) _) hb' | have hb := bnext (bal (bal (bal hb _) _) _) hb' | have hb := bnext (bal (bal (bal (bal hb _) _) _) _) hb' | have hb := bnext (bal (bal (bal (bal (bal hb _) _) _) _) _) hb') | (go_at_call 84; refine (nearest_any _ _ _ (by omega) (by omega) (by omega) (by omega) (by omega)).mono ?_; rintro e w' ⟨rfl, ⟨nq, rfl⟩⟩; have hb := below_drewN hb nq) | (go_at_call 86; refine (implWaterDensity_yes _ _ (by assumption)).mono ?_; rintro e w' ⟨rfl, hb'⟩; first | have hb := bnext hb hb' | have hb := bnext (bal hb _) hb' | have hb := bnext (bal (bal hb _) _) hb' | have hb := bnext (bal (bal (bal hb _) _) _) hb' | have hb := bnext (bal (bal (bal (bal hb _) _) _) _) hb' | have hb := bnext (bal (bal (bal (bal (bal hb _) _) _) _) _) hb') | (go_at_call 86; refine (implWaterDensity_no _ _ (by assumption)).mono ?_; rintro e w' ⟨rfl, hb'⟩; first | have hb := bnext hb hb' | have hb := bnext (bal hb _) hb' | have hb := bnext (bal (bal hb _) _) hb' | have hb := bnext (bal (bal (bal hb _) _) _) hb' | have hb := bnext (bal (bal (bal (bal hb _) _) _) _) hb' | have hb := bnext (bal (bal (bal (bal (bal hb _) _) _) _) _) hb'))
    go_ret2
    first | exact ⟨rfl, hb⟩ | exact ⟨rfl, (bal hb _)⟩ | exact ⟨rfl, (bal (bal hb _) _)⟩ | exact ⟨rfl, (bal (bal (bal hb _) _) _)⟩ | exact ⟨rfl, (bal (bal (bal (bal hb _) _) _) _)⟩ | exact ⟨rfl, (bal (bal (bal (bal (bal hb _) _) _) _) _)⟩

def hfV (q : Int) (a : Int) (b : Int) : Int := if inB q (-100000) 100000 && inB a (-5000) 20000 && inB b (-5000) 20000 then wattI q (a - b) else 0
def hfC (q : Int) (a : Int) (b : Int) : Int := if inB q (-100000) 100000 && inB a (-5000) 20000 && inB b (-5000) 20000 then 0 else 2

end Go.Proofs.Ytgdafgnjaogmeab
