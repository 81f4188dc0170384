/-
  Chapter 2: what both sides answer where no search is made: densities, boiling, margins, powers, volumes, pressures of heights, energies.
-/
import Derived.Test.YtnepehdfkaegbaaW2
namespace Go.Proofs.Ytnepehdfkaegbaa
open Go.ChangeShapes Go.WideShapes Go.ChangeAt Go.RowKit


theorem bal {w a : World} (h : Below w.heap.size w a) (o : Obj) : Below w.heap.size w (a.alloc o) := h.alloc h.size o
theorem one64 (lo hi a : Int) (w : World) (t : TypeId) (h : lo ≤ hi) :
    Calls Try.prog 86 #[.int .i64 lo, .int .i64 hi, .slice (some ⟨w.heap.size, 0, none⟩) 1 1] (w.alloc (.cells #[.int .i64 a] t))
      fun e w' => e = .returned (.bool (inB a lo hi)) ∧ Below w.heap.size w w' :=
  (within64_one lo hi a w t h).mono fun _ _ ⟨he, hw⟩ => ⟨he, hw ▸ bal (Below.refl _ _) _⟩
theorem one64At (n : Nat) (lo hi a : Int) (w : World) (t : TypeId) (hn : n = w.heap.size) (h : lo ≤ hi) :
    Calls Try.prog 86 #[.int .i64 lo, .int .i64 hi, .slice (some ⟨n, 0, none⟩) 1 1] (w.alloc (.cells #[.int .i64 a] t))
      fun e w' => e = .returned (.bool (inB a lo hi)) ∧ Below w.heap.size w w' := by
  subst hn
  exact one64 lo hi a w t h
theorem two64 (lo hi a b : Int) (w : World) (t : TypeId) (h : lo ≤ hi) :
    Calls Try.prog 86 #[.int .i64 lo, .int .i64 hi, .slice (some ⟨w.heap.size, 0, none⟩) 2 2] (w.alloc (.cells #[.int .i64 a, .int .i64 b] t))
      fun e w' => e = .returned (.bool (inB a lo hi && inB b lo hi)) ∧ Below w.heap.size w w' :=
  (within_two lo hi a b w t h).mono fun _ _ ⟨he, hw⟩ => ⟨he, hw ▸ bal (Below.refl _ _) _⟩
theorem two64At (n : Nat) (lo hi a b : Int) (w : World) (t : TypeId) (hn : n = w.heap.size) (h : lo ≤ hi) :
    Calls Try.prog 86 #[.int .i64 lo, .int .i64 hi, .slice (some ⟨n, 0, none⟩) 2 2] (w.alloc (.cells #[.int .i64 a, .int .i64 b] t))
      fun e w' => e = .returned (.bool (inB a lo hi && inB b lo hi)) ∧ Below w.heap.size w w' := by
  subst hn
  exact two64 lo hi a b w t h

theorem l03Degrees_any (n : Int) (w : World) : Calls Try.prog 88 #[.int .i64 n] w fun e w' => e = .returned (.bool (inB n (-5000) 20000)) ∧ w = w' := by
  go_enter Try.func88, Try.ntmps88
  go_wp2_with ((go_at_call 83; refine (in_any _ _ _ _).mono ?_; rintro e w' ⟨rfl, rfl⟩))
  go_ret
  exact ⟨rfl, rfl⟩

theorem l05Outdoor_any (n : Int) (w : World) : Calls Try.prog 68 #[.int .i64 n] w fun e w' => e = .returned (.bool (inB n (-4000) 4500)) ∧ w = w' := by
  go_enter Try.func68, Try.ntmps68
  go_wp2_with ((go_at_call 83; refine (in_any _ _ _ _).mono ?_; rintro e w' ⟨rfl, rfl⟩))
  go_ret
  exact ⟨rfl, rfl⟩

theorem l05Hour_any (n : Int) (w : World) : Calls Try.prog 69 #[.int .i64 n] w fun e w' => e = .returned (.bool (inB n 0 23)) ∧ w = w' := by
  go_enter Try.func69, Try.ntmps69
  go_wp2_with ((go_at_call 83; refine (in_any _ _ _ _).mono ?_; rintro e w' ⟨rfl, rfl⟩))
  go_ret
  exact ⟨rfl, rfl⟩

theorem isNode_any (n : Int) (w : World) : Calls Try.prog 110 #[.int .i64 n] w fun e w' => e = .returned (.bool (inB n 0 15)) ∧ Below w.heap.size w w' := by
  have hb : Below w.heap.size w w := Below.refl _ _
  go_enter Try.func110, Try.ntmps110
  go_wp2_with ((go_at_call 86; refine (one64At _ _ _ _ _ _ (by simp) (by omega)).mono ?_; rintro e w' ⟨rfl, hb'⟩; first | have hb := bnext hb hb' | have hb := bnext (bal hb _) hb' | have hb := bnext (bal (bal hb _) _) hb' | have hb := bnext (bal (bal (bal hb _) _) _) hb' | have hb := bnext (bal (bal (bal (bal hb _) _) _) _) hb' | have hb := bnext (bal (bal (bal (bal (bal hb _) _) _) _) _) hb'))
  go_ret
  first | exact ⟨rfl, hb⟩ | exact ⟨rfl, (bal hb _)⟩ | exact ⟨rfl, (bal (bal hb _) _)⟩ | exact ⟨rfl, (bal (bal (bal hb _) _) _)⟩ | exact ⟨rfl, (bal (bal (bal (bal hb _) _) _) _)⟩ | exact ⟨rfl, (bal (bal (bal (bal (bal hb _) _) _) _) _)⟩

theorem isOutdoor_any (n : Int) (w : World) : Calls Try.prog 66 #[.int .i64 n] w fun e w' => e = .returned (.bool (inB n (-4000) 4500)) ∧ Below w.heap.size w w' := by
  have hb : Below w.heap.size w w := Below.refl _ _
  go_enter Try.func66, Try.ntmps66
  go_wp2_with ((go_at_call 86; refine (one64At _ _ _ _ _ _ (by simp) (by omega)).mono ?_; rintro e w' ⟨rfl, hb'⟩; first | have hb := bnext hb hb' | have hb := bnext (bal hb _) hb' | have hb := bnext (bal (bal hb _) _) hb' | have hb := bnext (bal (bal (bal hb _) _) _) hb' | have hb := bnext (bal (bal (bal (bal hb _) _) _) _) hb' | have hb := bnext (bal (bal (bal (bal (bal hb _) _) _) _) _) hb'))
  go_ret
  first | exact ⟨rfl, hb⟩ | exact ⟨rfl, (bal hb _)⟩ | exact ⟨rfl, (bal (bal hb _) _)⟩ | exact ⟨rfl, (bal (bal (bal hb _) _) _)⟩ | exact ⟨rfl, (bal (bal (bal (bal hb _) _) _) _)⟩ | exact ⟨rfl, (bal (bal (bal (bal (bal hb _) _) _) _) _)⟩

theorem isHour_any (n : Int) (w : World) : Calls Try.prog 62 #[.int .i64 n] w fun e w' => e = .returned (.bool (inB n 0 23)) ∧ Below w.heap.size w w' := by
  have hb : Below w.heap.size w w := Below.refl _ _
  go_enter Try.func62, Try.ntmps62
  go_wp2_with ((go_at_call 86; refine (one64At _ _ _ _ _ _ (by simp) (by omega)).mono ?_; rintro e w' ⟨rfl, hb'⟩; first | have hb := bnext hb hb' | have hb := bnext (bal hb _) hb' | have hb := bnext (bal (bal hb _) _) hb' | have hb := bnext (bal (bal (bal hb _) _) _) hb' | have hb := bnext (bal (bal (bal (bal hb _) _) _) _) hb' | have hb := bnext (bal (bal (bal (bal (bal hb _) _) _) _) _) hb'))
  go_ret
  first | exact ⟨rfl, hb⟩ | exact ⟨rfl, (bal hb _)⟩ | exact ⟨rfl, (bal (bal hb _) _)⟩ | exact ⟨rfl, (bal (bal (bal hb _) _) _)⟩ | exact ⟨rfl, (bal (bal (bal (bal hb _) _) _) _)⟩ | exact ⟨rfl, (bal (bal (bal (bal (bal hb _) _) _) _) _)⟩

theorem isLoad_any (n : Int) (w : World) : Calls Try.prog 56 #[.int .i64 n] w fun e w' => e = .returned (.bool (inB n 0 100000000)) ∧ Below w.heap.size w w' := by
  have hb : Below w.heap.size w w := Below.refl _ _
  go_enter Try.func56, Try.ntmps56
  go_wp2_with ((go_at_call 86; refine (one64At _ _ _ _ _ _ (by simp) (by omega)).mono ?_; rintro e w' ⟨rfl, hb'⟩; first | have hb := bnext hb hb' | have hb := bnext (bal hb _) hb' | have hb := bnext (bal (bal hb _) _) hb' | have hb := bnext (bal (bal (bal hb _) _) _) hb' | have hb := bnext (bal (bal (bal (bal hb _) _) _) _) hb' | have hb := bnext (bal (bal (bal (bal (bal hb _) _) _) _) _) hb'))
  go_ret
  first | exact ⟨rfl, hb⟩ | exact ⟨rfl, (bal hb _)⟩ | exact ⟨rfl, (bal (bal hb _) _)⟩ | exact ⟨rfl, (bal (bal (bal hb _) _) _)⟩ | exact ⟨rfl, (bal (bal (bal (bal hb _) _) _) _)⟩ | exact ⟨rfl, (bal (bal (bal (bal (bal hb _) _) _) _) _)⟩

theorem isFlow_any (n : Int) (w : World) : Calls Try.prog 59 #[.int .i64 n] w fun e w' => e = .returned (.bool (inB n (-100000) 100000)) ∧ Below w.heap.size w w' := by
  have hb : Below w.heap.size w w := Below.refl _ _
  go_enter Try.func59, Try.ntmps59
  go_wp2_with ((go_at_call 86; refine (one64At _ _ _ _ _ _ (by simp) (by omega)).mono ?_; rintro e w' ⟨rfl, hb'⟩; first | have hb := bnext hb hb' | have hb := bnext (bal hb _) hb' | have hb := bnext (bal (bal hb _) _) hb' | have hb := bnext (bal (bal (bal hb _) _) _) hb' | have hb := bnext (bal (bal (bal (bal hb _) _) _) _) hb' | have hb := bnext (bal (bal (bal (bal (bal hb _) _) _) _) _) hb'))
  go_ret
  first | exact ⟨rfl, hb⟩ | exact ⟨rfl, (bal hb _)⟩ | exact ⟨rfl, (bal (bal hb _) _)⟩ | exact ⟨rfl, (bal (bal (bal hb _) _) _)⟩ | exact ⟨rfl, (bal (bal (bal (bal hb _) _) _) _)⟩ | exact ⟨rfl, (bal (bal (bal (bal (bal hb _) _) _) _) _)⟩

theorem isTemperature_any (n : Int) (w : World) : Calls Try.prog 57 #[.int .i64 n] w fun e w' => e = .returned (.bool (inB n (-5000) 20000)) ∧ Below w.heap.size w w' := by
  have hb : Below w.heap.size w w := Below.refl _ _
  go_enter Try.func57, Try.ntmps57
  go_wp2_with ((go_at_call 86; refine (one64At _ _ _ _ _ _ (by simp) (by omega)).mono ?_; rintro e w' ⟨rfl, hb'⟩; first | have hb := bnext hb hb' | have hb := bnext (bal hb _) hb' | have hb := bnext (bal (bal hb _) _) hb' | have hb := bnext (bal (bal (bal hb _) _) _) hb' | have hb := bnext (bal (bal (bal (bal hb _) _) _) _) hb' | have hb := bnext (bal (bal (bal (bal (bal hb _) _) _) _) _) hb'))
  go_ret
  first | exact ⟨rfl, hb⟩ | exact ⟨rfl, (bal hb _)⟩ | exact ⟨rfl, (bal (bal hb _) _)⟩ | exact ⟨rfl, (bal (bal (bal hb _) _) _)⟩ | exact ⟨rfl, (bal (bal (bal (bal hb _) _) _) _)⟩ | exact ⟨rfl, (bal (bal (bal (bal (bal hb _) _) _) _) _)⟩

def densV (t : Int) : Int := if inB t 0 18000 then densI t else 0
def densC (t : Int) : Int := if inB t 0 18000 then 0 else 2

def boilV (p : Int) : Int := if inB p 1000 1200000 then boilI p else 0
def boilC (p : Int) : Int := if inB p 1000 1200000 then 0 else 2

def margV (p : Int) (t : Int) : Int := if inB p 1000 1200000 && inB t 0 18000 then boilI p - t else 0
def margC (p : Int) (t : Int) : Int := if inB p 1000 1200000 && inB t 0 18000 then 0 else 2

/-- both are temperatures of water and the second is no higher -/
def coolB (a b : Int) : Bool := inB a 0 18000 && inB b 0 a
/-- watts that a flow gives off over a difference -/
def wattI (q d : Int) : Int := nearI (q * 4186 * d) 100000
theorem watt_num (q d : Int) (q0 : -100000 ≤ q) (q1 : q ≤ 100000) (d0 : -25000 ≤ d) (d1 : d ≤ 25000) : -10465000000000 ≤ q * 4186 * d ∧ q * 4186 * d ≤ 10465000000000 := by
  by_cases h : 0 ≤ q
  · have := mul_sgn (q * 4186) d 418600000 25000 (by omega) (by omega) d0 d1
    omega
  · have := mul_sgn (-q * 4186) d 418600000 25000 (by omega) (by omega) d0 d1
    rw [Int.neg_mul, Int.neg_mul] at this
    omega
theorem watt_bd (q d : Int) (q0 : -100000 ≤ q) (q1 : q ≤ 100000) (d0 : -25000 ≤ d) (d1 : d ≤ 25000) : -10465000000000 ≤ wattI q d ∧ wattI q d ≤ 10465000000000 :=
  nearI_lim _ _ _ (watt_num q d q0 q1 d0 d1).1 (watt_num q d q0 q1 d0 d1).2 (by omega)
theorem wattsOf_any (q d : Int) (w : World) (q0 : -100000 ≤ q) (q1 : q ≤ 100000) (d0 : -25000 ≤ d) (d1 : d ≤ 25000) :
    Calls Try.prog 60 #[.int .i64 q, .int .i64 d] w fun e w' => e = .returned (.int .i64 (wattI q d)) ∧ Drawn w w' := by
  have hn := watt_num q d q0 q1 d0 d1
  unfold wattI
  rw [Int.mul_comm q 4186] at hn ⊢
  go_enter Try.func60, Try.ntmps60
  go_wp2_with ((go_at_call 54; refine (nearest_any _ _ _ (by omega) (by omega) (by omega) (by omega) (by omega)).mono ?_; rintro e w' ⟨rfl, ⟨nq, rfl⟩⟩))
  go_ret
  exact ⟨rfl, ⟨_, rfl⟩⟩

def hpV (q : Int) (a : Int) (b : Int) : Int := if inB q 0 100000 && inB a 0 18000 && inB b 0 a then wattI q (a - b) else 0
def hpC (q : Int) (a : Int) (b : Int) : Int := if inB q 0 100000 && inB a 0 18000 && inB b 0 a then 0 else 2

def enV (p : Int) (m : Int) : Int := if inB p 0 100000000 && inB m 0 1000000 then nearI (p * m) 60 else 0
def enC (p : Int) (m : Int) : Int := if inB p 0 100000000 && inB m 0 1000000 then 0 else 2

def volV (v : Int) (a : Int) (b : Int) : Int := if inB v 0 1000000000 && inB a 0 18000 && inB b 0 18000 then nearI (v * densI a) (densI b) else 0
def volC (v : Int) (a : Int) (b : Int) : Int := if inB v 0 1000000000 && inB a 0 18000 && inB b 0 18000 then 0 else 2

def headV (h : Int) (t : Int) : Int := if inB h (-200000) 200000 && inB t 0 18000 then nearI (densI t * h * 981) 1000000 else 0
def headC (h : Int) (t : Int) : Int := if inB h (-200000) 200000 && inB t 0 18000 then 0 else 2

def hfV (q : Int) (a : Int) (b : Int) : Int := if inB q (-100000) 100000 && inB a (-5000) 20000 && inB b (-5000) 20000 then wattI q (a - b) else 0
def hfC (q : Int) (a : Int) (b : Int) : Int := if inB q (-100000) 100000 && inB a (-5000) 20000 && inB b (-5000) 20000 then 0 else 2

theorem implHeatFlow_any (q : Int) (a : Int) (b : Int) (w : World) : Calls Try.prog 22 #[.int .i64 q, .int .i64 a, .int .i64 b] w fun e w' => e = .returned (.tuple #[.int .i64 (hfV q a b), .int .i64 (hfC q a b)]) ∧ Below w.heap.size w w' := by
  have hb : Below w.heap.size w w := Below.refl _ _
  by_cases h1 : inB q (-100000) 100000 = true
  · skip
    by_cases h2 : inB a (-5000) 20000 = true
    · skip
      by_cases h3 : inB b (-5000) 20000 = true
      · skip
        have hv : hfV q a b = wattI q (a - b) := by unfold hfV; simp [*]
        have hc : hfC q a b = 0 := by unfold hfC; simp [*]
        rw [hv, hc]
        clear hv hc
        have k1 := inB_iff.1 h1
        have k2 := inB_iff.1 h2
        have k3 := inB_iff.1 h3
        go_enter Try.func22, Try.ntmps22
        go_wp2_with (first | (go_at_call 59; refine (isFlow_any _ _).mono ?_; rintro e w' ⟨rfl, hb'⟩; first | have hb := bnext hb hb' | have hb := bnext (bal hb _) hb' | have hb := bnext (bal (bal hb _) _) hb' | have hb := bnext (bal (bal (bal hb _) _) _) hb' | have hb := bnext (bal (bal (bal (bal hb _) _) _) _) hb' | have hb := bnext (bal (bal (bal (bal (bal hb _) _) _) _) _) hb') | (go_at_call 57; refine (isTemperature_any _ _).mono ?_; rintro e w' ⟨rfl, hb'⟩; first | have hb := bnext hb hb' | have hb := bnext (bal hb _) hb' | have hb := bnext (bal (bal hb _) _) hb' | have hb := bnext (bal (bal (bal hb _) _) _) hb' | have hb := bnext (bal (bal (bal (bal hb _) _) _) _) hb' | have hb := bnext (bal (bal (bal (bal (bal hb _) _) _) _) _) hb') | (go_at_call 60; refine (wattsOf_any _ _ _ (by omega) (by omega) (by omega) (by omega)).mono ?_; rintro e w' ⟨rfl, ⟨nq, rfl⟩⟩; have hb := below_drewN hb nq))
        go_ret2
        first | exact ⟨rfl, hb⟩ | exact ⟨rfl, (bal hb _)⟩ | exact ⟨rfl, (bal (bal hb _) _)⟩ | exact ⟨rfl, (bal (bal (bal hb _) _) _)⟩ | exact ⟨rfl, (bal (bal (bal (bal hb _) _) _) _)⟩ | exact ⟨rfl, (bal (bal (bal (bal (bal hb _) _) _) _) _)⟩
      · have h3' : (inB b (-5000) 20000) = false := by simpa using h3
        have hv : hfV q a b = 0 := by unfold hfV; simp [*]
        have hc : hfC q a b = 2 := by unfold hfC; simp [*]
        rw [hv, hc]
        clear hv hc
        go_enter Try.func22, Try.ntmps22
        go_wp2_with (first | (go_at_call 59; refine (isFlow_any _ _).mono ?_; rintro e w' ⟨rfl, hb'⟩; first | have hb := bnext hb hb' | have hb := bnext (bal hb _) hb' | have hb := bnext (bal (bal hb _) _) hb' | have hb := bnext (bal (bal (bal hb _) _) _) hb' | have hb := bnext (bal (bal (bal (bal hb _) _) _) _) hb' | have hb := bnext (bal (bal (bal (bal (bal hb _) _) _) _) _) hb') | (go_at_call 57; refine (isTemperature_any _ _).mono ?_; rintro e w' ⟨rfl, hb'⟩; first | have hb := bnext hb hb' | have hb := bnext (bal hb _) hb' | have hb := bnext (bal (bal hb _) _) hb' | have hb := bnext (bal (bal (bal hb _) _) _) hb' | have hb := bnext (bal (bal (bal (bal hb _) _) _) _) hb' | have hb := bnext (bal (bal (bal (bal (bal hb _) _) _) _) _) hb') | (go_at_call 60; refine (wattsOf_any _ _ _ (by omega) (by omega) (by omega) (by omega)).mono ?_; rintro e w' ⟨rfl, ⟨nq, rfl⟩⟩; have hb := below_drewN hb nq))
        go_ret2
        first | exact ⟨rfl, hb⟩ | exact ⟨rfl, (bal hb _)⟩ | exact ⟨rfl, (bal (bal hb _) _)⟩ | exact ⟨rfl, (bal (bal (bal hb _) _) _)⟩ | exact ⟨rfl, (bal (bal (bal (bal hb _) _) _) _)⟩ | exact ⟨rfl, (bal (bal (bal (bal (bal hb _) _) _) _) _)⟩
    · have h2' : (inB a (-5000) 20000) = false := by simpa using h2
      have hv : hfV q a b = 0 := by unfold hfV; simp [*]
      have hc : hfC q a b = 2 := by unfold hfC; simp [*]
      rw [hv, hc]
      clear hv hc
      go_enter Try.func22, Try.ntmps22
      go_wp2_with (first | (go_at_call 59; refine (isFlow_any _ _).mono ?_; rintro e w' ⟨rfl, hb'⟩; first | have hb := bnext hb hb' | have hb := bnext (bal hb _) hb' | have hb := bnext (bal (bal hb _) _) hb' | have hb := bnext (bal (bal (bal hb _) _) _) hb' | have hb := bnext (bal (bal (bal (bal hb _) _) _) _) hb' | have hb := bnext (bal (bal (bal (bal (bal hb _) _) _) _) _) hb') | (go_at_call 57; refine (isTemperature_any _ _).mono ?_; rintro e w' ⟨rfl, hb'⟩; first | have hb := bnext hb hb' | have hb := bnext (bal hb _) hb' | have hb := bnext (bal (bal hb _) _) hb' | have hb := bnext (bal (bal (bal hb _) _) _) hb' | have hb := bnext (bal (bal (bal (bal hb _) _) _) _) hb' | have hb := bnext (bal (bal (bal (bal (bal hb _) _) _) _) _) hb') | (go_at_call 60; refine (wattsOf_any _ _ _ (by omega) (by omega) (by omega) (by omega)).mono ?_; rintro e w' ⟨rfl, ⟨nq, rfl⟩⟩; have hb := below_drewN hb nq))
      go_ret2
      first | exact ⟨rfl, hb⟩ | exact ⟨rfl, (bal hb _)⟩ | exact ⟨rfl, (bal (bal hb _) _)⟩ | exact ⟨rfl, (bal (bal (bal hb _) _) _)⟩ | exact ⟨rfl, (bal (bal (bal (bal hb _) _) _) _)⟩ | exact ⟨rfl, (bal (bal (bal (bal (bal hb _) _) _) _) _)⟩
  · have h1' : (inB q (-100000) 100000) = false := by simpa using h1
    have hv : hfV q a b = 0 := by unfold hfV; simp [*]
    have hc : hfC q a b = 2 := by unfold hfC; simp [*]
    rw [hv, hc]
    clear hv hc
    go_enter Try.func22, Try.ntmps22
    go_wp2_with (first | (go_at_call 59; refine (isFlow_any _ _).mono ?_; rintro e w' ⟨rfl, hb'⟩; first | have hb := bnext hb hb' | have hb := bnext (bal hb _) hb' | have hb := bnext (bal (bal hb _) _) hb' | have hb := bnext (bal (bal (bal hb _) _) _) hb' | have hb := bnext (bal (bal (bal (bal hb _) _) _) _) hb' | have hb := bnext (bal (bal (bal (bal (bal hb _) _) _) _) _) hb') | (go_at_call 57; refine (isTemperature_any _ _).mono ?_; rintro e w' ⟨rfl, hb'⟩; first | have hb := bnext hb hb' | have hb := bnext (bal hb _) hb' | have hb := bnext (bal (bal hb _) _) hb' | have hb := bnext (bal (bal (bal hb _) _) _) hb' | have hb := bnext (bal (bal (bal (bal hb _) _) _) _) hb' | have hb := bnext (bal (bal (bal (bal (bal hb _) _) _) _) _) hb') | (go_at_call 60; refine (wattsOf_any _ _ _ (by omega) (by omega) (by omega) (by omega)).mono ?_; rintro e w' ⟨rfl, ⟨nq, rfl⟩⟩; have hb := below_drewN hb nq))
    go_ret2
    first | exact ⟨rfl, hb⟩ | exact ⟨rfl, (bal hb _)⟩ | exact ⟨rfl, (bal (bal hb _) _)⟩ | exact ⟨rfl, (bal (bal (bal hb _) _) _)⟩ | exact ⟨rfl, (bal (bal (bal (bal hb _) _) _) _)⟩ | exact ⟨rfl, (bal (bal (bal (bal (bal hb _) _) _) _) _)⟩

end Go.Proofs.Ytnepehdfkaegbaa
