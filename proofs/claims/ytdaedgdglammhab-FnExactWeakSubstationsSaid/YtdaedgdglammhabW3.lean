/-
  Chapter 2: what both sides answer where no search is made: densities, boiling, margins, powers, volumes, pressures of heights, energies.
-/
import Derived.Test.YtdaedgdglammhabW2
namespace Go.Proofs.Ytdaedgdglammhab
open Go.ChangeShapes Go.WideShapes Go.ChangeAt Go.RowKit


theorem bal {w a : World} (h : Below w.heap.size w a) (o : Obj) : Below w.heap.size w (a.alloc o) := h.alloc h.size o
theorem one64 (lo hi a : Int) (w : World) (t : TypeId) (h : lo ≤ hi) :
    Calls Try.prog 75 #[.int .i64 lo, .int .i64 hi, .slice (some ⟨w.heap.size, 0, none⟩) 1 1] (w.alloc (.cells #[.int .i64 a] t))
      fun e w' => e = .returned (.bool (inB a lo hi)) ∧ Below w.heap.size w w' :=
  (within64_one lo hi a w t h).mono fun _ _ ⟨he, hw⟩ => ⟨he, hw ▸ bal (Below.refl _ _) _⟩
theorem one64At (n : Nat) (lo hi a : Int) (w : World) (t : TypeId) (hn : n = w.heap.size) (h : lo ≤ hi) :
    Calls Try.prog 75 #[.int .i64 lo, .int .i64 hi, .slice (some ⟨n, 0, none⟩) 1 1] (w.alloc (.cells #[.int .i64 a] t))
      fun e w' => e = .returned (.bool (inB a lo hi)) ∧ Below w.heap.size w w' := by
  subst hn
  exact one64 lo hi a w t h
theorem two64 (lo hi a b : Int) (w : World) (t : TypeId) (h : lo ≤ hi) :
    Calls Try.prog 75 #[.int .i64 lo, .int .i64 hi, .slice (some ⟨w.heap.size, 0, none⟩) 2 2] (w.alloc (.cells #[.int .i64 a, .int .i64 b] t))
      fun e w' => e = .returned (.bool (inB a lo hi && inB b lo hi)) ∧ Below w.heap.size w w' :=
  (within_two lo hi a b w t h).mono fun _ _ ⟨he, hw⟩ => ⟨he, hw ▸ bal (Below.refl _ _) _⟩
theorem two64At (n : Nat) (lo hi a b : Int) (w : World) (t : TypeId) (hn : n = w.heap.size) (h : lo ≤ hi) :
    Calls Try.prog 75 #[.int .i64 lo, .int .i64 hi, .slice (some ⟨n, 0, none⟩) 2 2] (w.alloc (.cells #[.int .i64 a, .int .i64 b] t))
      fun e w' => e = .returned (.bool (inB a lo hi && inB b lo hi)) ∧ Below w.heap.size w w' := by
  subst hn
  exact two64 lo hi a b w t h

theorem water1At (n : Nat) (a : Int) (w : World) (t : TypeId) (hn : n = w.heap.size) :
    Calls Try.prog 52 #[.slice (some ⟨n, 0, none⟩) 1 1] (w.alloc (.cells #[.int .i64 a] t))
      fun e w' => e = .returned (.bool (inB a 0 18000)) ∧ Below w.heap.size w w' := by
  subst hn
  go_enter Try.func52, Try.ntmps52
  go_wp2_with ((go_at_call 75; refine (one64 0 18000 a w t (by omega)).mono ?_; rintro e w' ⟨rfl, hb⟩))
  go_ret
  exact ⟨rfl, hb⟩
theorem water2At (n : Nat) (a b : Int) (w : World) (t : TypeId) (hn : n = w.heap.size) :
    Calls Try.prog 52 #[.slice (some ⟨n, 0, none⟩) 2 2] (w.alloc (.cells #[.int .i64 a, .int .i64 b] t))
      fun e w' => e = .returned (.bool (inB a 0 18000 && inB b 0 18000)) ∧ Below w.heap.size w w' := by
  subst hn
  go_enter Try.func52, Try.ntmps52
  go_wp2_with ((go_at_call 75; refine (two64 0 18000 a b w t (by omega)).mono ?_; rintro e w' ⟨rfl, hb⟩))
  go_ret
  exact ⟨rfl, hb⟩
theorem power1At (n : Nat) (a : Int) (w : World) (t : TypeId) (hn : n = w.heap.size) :
    Calls Try.prog 53 #[.slice (some ⟨n, 0, none⟩) 1 1] (w.alloc (.cells #[.int .i64 a] t))
      fun e w' => e = .returned (.bool (inB a 0 100000000)) ∧ Below w.heap.size w w' := by
  subst hn
  go_enter Try.func53, Try.ntmps53
  go_wp2_with ((go_at_call 75; refine (one64 0 100000000 a w t (by omega)).mono ?_; rintro e w' ⟨rfl, hb⟩))
  go_ret
  exact ⟨rfl, hb⟩

theorem l02Degrees_any (n : Int) (w : World) : Calls Try.prog 48 #[.int .i64 n] w fun e w' => e = .returned (.bool (inB n 0 18000)) ∧ w = w' := by
  go_enter Try.func48, Try.ntmps48
  go_wp2_with ((go_at_call 60; refine (in_any _ _ _ _).mono ?_; rintro e w' ⟨rfl, rfl⟩))
  go_ret
  exact ⟨rfl, rfl⟩

theorem l02Flow_any (n : Int) (w : World) : Calls Try.prog 56 #[.int .i64 n] w fun e w' => e = .returned (.bool (inB n 0 100000)) ∧ w = w' := by
  go_enter Try.func56, Try.ntmps56
  go_wp2_with ((go_at_call 60; refine (in_any _ _ _ _).mono ?_; rintro e w' ⟨rfl, rfl⟩))
  go_ret
  exact ⟨rfl, rfl⟩

theorem l02Watts_any (n : Int) (w : World) : Calls Try.prog 49 #[.int .i64 n] w fun e w' => e = .returned (.bool (inB n 0 100000000)) ∧ w = w' := by
  go_enter Try.func49, Try.ntmps49
  go_wp2_with ((go_at_call 60; refine (in_any _ _ _ _).mono ?_; rintro e w' ⟨rfl, rfl⟩))
  go_ret
  exact ⟨rfl, rfl⟩

theorem isNode_any (n : Int) (w : World) : Calls Try.prog 74 #[.int .i64 n] w fun e w' => e = .returned (.bool (inB n 0 15)) ∧ Below w.heap.size w w' := by
  have hb : Below w.heap.size w w := Below.refl _ _
  go_enter Try.func74, Try.ntmps74
  go_wp2_with ((go_at_call 75; refine (one64At _ _ _ _ _ _ (by simp) (by omega)).mono ?_; rintro e w' ⟨rfl, hb'⟩; first | have hb := bnext hb hb' | have hb := bnext (bal hb _) hb' | have hb := bnext (bal (bal hb _) _) hb' | have hb := bnext (bal (bal (bal hb _) _) _) hb' | have hb := bnext (bal (bal (bal (bal hb _) _) _) _) hb' | have hb := bnext (bal (bal (bal (bal (bal hb _) _) _) _) _) hb'))
  go_ret
  first | exact ⟨rfl, hb⟩ | exact ⟨rfl, (bal hb _)⟩ | exact ⟨rfl, (bal (bal hb _) _)⟩ | exact ⟨rfl, (bal (bal (bal hb _) _) _)⟩ | exact ⟨rfl, (bal (bal (bal (bal hb _) _) _) _)⟩ | exact ⟨rfl, (bal (bal (bal (bal (bal hb _) _) _) _) _)⟩

def densV (t : Int) : Int := if inB t 0 18000 then densI t else 0
def densC (t : Int) : Int := if inB t 0 18000 then 0 else 2

def boilV (p : Int) : Int := if inB p 1000 1200000 then boilI p else 0
def boilC (p : Int) : Int := if inB p 1000 1200000 then 0 else 2

def margV (p : Int) (t : Int) : Int := if inB p 1000 1200000 && inB t 0 18000 then boilI p - t else 0
def margC (p : Int) (t : Int) : Int := if inB p 1000 1200000 && inB t 0 18000 then 0 else 2

/-- both are temperatures of water and the second is no higher -/
def coolB (a b : Int) : Bool := inB a 0 18000 && inB b 0 a
theorem isCooling_any (a b : Int) (w : World) : Calls Try.prog 62 #[.int .i64 a, .int .i64 b] w fun e w' => e = .returned (.bool (coolB a b)) ∧ Below w.heap.size w w' := by
  have hb : Below w.heap.size w w := Below.refl _ _
  by_cases h1 : (inB a 0 18000 && inB b 0 18000) = true
  · have h1' := h1
    rw [Bool.and_eq_true, inB_iff, inB_iff] at h1'
    by_cases h2 : b ≤ a
    · have e : coolB a b = true := by unfold coolB; rw [Bool.and_eq_true, inB_iff, inB_iff]; omega
      rw [e]
      clear e h1'
      go_enter Try.func62, Try.ntmps62
      go_wp2_with ((first | (go_at_call 75; refine (two64At _ _ _ _ _ _ _ (by simp) (by omega)).mono ?_; rintro e w' ⟨rfl, hb'⟩; first | have hb := bnext hb hb' | have hb := bnext (bal hb _) hb' | have hb := bnext (bal (bal hb _) _) hb' | have hb := bnext (bal (bal (bal hb _) _) _) hb' | have hb := bnext (bal (bal (bal (bal hb _) _) _) _) hb' | have hb := bnext (bal (bal (bal (bal (bal hb _) _) _) _) _) hb') | (go_at_call 52; refine (water2At _ _ _ _ _ (by simp)).mono ?_; rintro e w' ⟨rfl, hb'⟩; first | have hb := bnext hb hb' | have hb := bnext (bal hb _) hb' | have hb := bnext (bal (bal hb _) _) hb' | have hb := bnext (bal (bal (bal hb _) _) _) hb' | have hb := bnext (bal (bal (bal (bal hb _) _) _) _) hb' | have hb := bnext (bal (bal (bal (bal (bal hb _) _) _) _) _) hb')))
      go_ret
      first | exact ⟨rfl, hb⟩ | exact ⟨rfl, (bal hb _)⟩ | exact ⟨rfl, (bal (bal hb _) _)⟩ | exact ⟨rfl, (bal (bal (bal hb _) _) _)⟩ | exact ⟨rfl, (bal (bal (bal (bal hb _) _) _) _)⟩ | exact ⟨rfl, (bal (bal (bal (bal (bal hb _) _) _) _) _)⟩
    · have e : coolB a b = false := by unfold coolB; rw [Bool.and_eq_false_iff]; exact .inr (inB_false (by omega))
      have h2' : decide (b ≤ a) = false := by simpa using h2
      rw [e]
      clear e h1'
      go_enter Try.func62, Try.ntmps62
      go_wp2_with ((first | (go_at_call 75; refine (two64At _ _ _ _ _ _ _ (by simp) (by omega)).mono ?_; rintro e w' ⟨rfl, hb'⟩; first | have hb := bnext hb hb' | have hb := bnext (bal hb _) hb' | have hb := bnext (bal (bal hb _) _) hb' | have hb := bnext (bal (bal (bal hb _) _) _) hb' | have hb := bnext (bal (bal (bal (bal hb _) _) _) _) hb' | have hb := bnext (bal (bal (bal (bal (bal hb _) _) _) _) _) hb') | (go_at_call 52; refine (water2At _ _ _ _ _ (by simp)).mono ?_; rintro e w' ⟨rfl, hb'⟩; first | have hb := bnext hb hb' | have hb := bnext (bal hb _) hb' | have hb := bnext (bal (bal hb _) _) hb' | have hb := bnext (bal (bal (bal hb _) _) _) hb' | have hb := bnext (bal (bal (bal (bal hb _) _) _) _) hb' | have hb := bnext (bal (bal (bal (bal (bal hb _) _) _) _) _) hb')))
      go_ret
      first | exact ⟨rfl, hb⟩ | exact ⟨rfl, (bal hb _)⟩ | exact ⟨rfl, (bal (bal hb _) _)⟩ | exact ⟨rfl, (bal (bal (bal hb _) _) _)⟩ | exact ⟨rfl, (bal (bal (bal (bal hb _) _) _) _)⟩ | exact ⟨rfl, (bal (bal (bal (bal (bal hb _) _) _) _) _)⟩
  · have h1' : (inB a 0 18000 && inB b 0 18000) = false := by simpa using h1
    have e : coolB a b = false := by
      unfold coolB
      rw [Bool.and_eq_false_iff] at h1' ⊢
      rcases h1' with h | h
      · exact .inl h
      · by_cases hh : inB a 0 18000 = true
        · refine .inr (inB_false fun k => ?_)
          have := inB_iff.1 hh
          rw [inB_true (by omega)] at h
          cases h
        · exact .inl (by simpa using hh)
    rw [e]
    clear e
    go_enter Try.func62, Try.ntmps62
    go_wp2_with ((first | (go_at_call 75; refine (two64At _ _ _ _ _ _ _ (by simp) (by omega)).mono ?_; rintro e w' ⟨rfl, hb'⟩; first | have hb := bnext hb hb' | have hb := bnext (bal hb _) hb' | have hb := bnext (bal (bal hb _) _) hb' | have hb := bnext (bal (bal (bal hb _) _) _) hb' | have hb := bnext (bal (bal (bal (bal hb _) _) _) _) hb' | have hb := bnext (bal (bal (bal (bal (bal hb _) _) _) _) _) hb') | (go_at_call 52; refine (water2At _ _ _ _ _ (by simp)).mono ?_; rintro e w' ⟨rfl, hb'⟩; first | have hb := bnext hb hb' | have hb := bnext (bal hb _) hb' | have hb := bnext (bal (bal hb _) _) hb' | have hb := bnext (bal (bal (bal hb _) _) _) hb' | have hb := bnext (bal (bal (bal (bal hb _) _) _) _) hb' | have hb := bnext (bal (bal (bal (bal (bal hb _) _) _) _) _) hb')))
    go_ret
    first | exact ⟨rfl, hb⟩ | exact ⟨rfl, (bal hb _)⟩ | exact ⟨rfl, (bal (bal hb _) _)⟩ | exact ⟨rfl, (bal (bal (bal hb _) _) _)⟩ | exact ⟨rfl, (bal (bal (bal (bal hb _) _) _) _)⟩ | exact ⟨rfl, (bal (bal (bal (bal (bal hb _) _) _) _) _)⟩

/-- watts that a flow gives off over a difference -/
def wattI (q d : Int) : Int := nearI (q * 4186 * d) 100000
theorem watt_num (q d : Int) (q0 : -100000 ≤ q) (q1 : q ≤ 100000) (d0 : -25000 ≤ d) (d1 : d ≤ 25000) : -10465000000000 ≤ q * 4186 * d ∧ q * 4186 * d ≤ 10465000000000 := by
  by_cases h : 0 ≤ q
  · have := mul_sgn (q * 4186) d 418600000 25000 (by omega) (by omega) d0 d1
    omega
  · have := mul_sgn (-q * 4186) d 418600000 25000 (by omega) (by omega) d0 d1
    rw [Int.neg_mul, Int.neg_mul] at this
    omega
theorem watt_bd (q d : Int) (q0 : -100000 ≤ q) (q1 : q ≤ 100000) (d0 : -25000 ≤ d) (d1 : d ≤ 25000) : -10465000000000 ≤ wattI q d ∧ wattI q d ≤ 10465000000000 :=
  nearI_lim _ _ _ (watt_num q d q0 q1 d0 d1).1 (watt_num q d q0 q1 d0 d1).2 (by omega)
theorem wattsOf_any (q d : Int) (w : World) (q0 : -100000 ≤ q) (q1 : q ≤ 100000) (d0 : -25000 ≤ d) (d1 : d ≤ 25000) :
    Calls Try.prog 96 #[.int .i64 q, .int .i64 d] w fun e w' => e = .returned (.int .i64 (wattI q d)) ∧ Drawn w w' := by
  have hn := watt_num q d q0 q1 d0 d1
  unfold wattI
  rw [Int.mul_comm q 4186] at hn ⊢
  go_enter Try.func96, Try.ntmps96
  go_wp2_with ((go_at_call 88; refine (nearest_any _ _ _ (by omega) (by omega) (by omega) (by omega) (by omega)).mono ?_; rintro e w' ⟨rfl, ⟨nq, rfl⟩⟩))
  go_ret
  exact ⟨rfl, ⟨_, rfl⟩⟩

theorem l02Power_any (q a b : Int) (w : World) (q0 : -100000 ≤ q) (q1 : q ≤ 100000) (d0 : -25000 ≤ a - b) (d1 : a - b ≤ 25000) :
    Calls Try.prog 83 #[.int .i64 q, .int .i64 a, .int .i64 b] w fun e w' => e = .returned (.int .i64 (wattI q (a - b))) ∧ w = w' := by
  have hn := watt_num q (a - b) q0 q1 d0 d1
  unfold wattI
  go_enter Try.func83, Try.ntmps83
  go_wp2_with ((go_at_call 68; refine (l01Div_any _ _ _ (by omega) (by omega) (by omega) (by omega) (by omega)).mono ?_; rintro e w' ⟨rfl, rfl⟩))
  go_ret
  exact ⟨rfl, rfl⟩

def hpV (q : Int) (a : Int) (b : Int) : Int := if inB q 0 100000 && inB a 0 18000 && inB b 0 a then wattI q (a - b) else 0
def hpC (q : Int) (a : Int) (b : Int) : Int := if inB q 0 100000 && inB a 0 18000 && inB b 0 a then 0 else 2

def enV (p : Int) (m : Int) : Int := if inB p 0 100000000 && inB m 0 1000000 then nearI (p * m) 60 else 0
def enC (p : Int) (m : Int) : Int := if inB p 0 100000000 && inB m 0 1000000 then 0 else 2

def volV (v : Int) (a : Int) (b : Int) : Int := if inB v 0 1000000000 && inB a 0 18000 && inB b 0 18000 then nearI (v * densI a) (densI b) else 0
def volC (v : Int) (a : Int) (b : Int) : Int := if inB v 0 1000000000 && inB a 0 18000 && inB b 0 18000 then 0 else 2

def headV (h : Int) (t : Int) : Int := if inB h (-200000) 200000 && inB t 0 18000 then nearI (densI t * h * 981) 1000000 else 0
def headC (h : Int) (t : Int) : Int := if inB h (-200000) 200000 && inB t 0 18000 then 0 else 2

def hfV (q : Int) (a : Int) (b : Int) : Int := if inB q (-100000) 100000 && inB a (-5000) 20000 && inB b (-5000) 20000 then wattI q (a - b) else 0
def hfC (q : Int) (a : Int) (b : Int) : Int := if inB q (-100000) 100000 && inB a (-5000) 20000 && inB b (-5000) 20000 then 0 else 2

end Go.Proofs.Ytdaedgdglammhab
