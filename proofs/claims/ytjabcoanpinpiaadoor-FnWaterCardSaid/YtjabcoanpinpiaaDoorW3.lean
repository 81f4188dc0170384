/-
  Chapter 2: what both sides answer where no search is made: densities, boiling, margins, powers, volumes, pressures of heights, energies.
-/
import Derived.Test.YtjabcoanpinpiaaDoorW2
namespace Go.Proofs.YtjabcoanpinpiaaDoor
open Go.ChangeShapes Go.WideShapes Go.ChangeAt Go.RowKit


theorem bal {w a : World} (h : Below w.heap.size w a) (o : Obj) : Below w.heap.size w (a.alloc o) := h.alloc h.size o
theorem one64 (lo hi a : Int) (w : World) (t : TypeId) (h : lo ≤ hi) :
    Calls Tryd.prog 18 #[.int .i64 lo, .int .i64 hi, .slice (some ⟨w.heap.size, 0, none⟩) 1 1] (w.alloc (.cells #[.int .i64 a] t))
      fun e w' => e = .returned (.bool (inB a lo hi)) ∧ Below w.heap.size w w' :=
  (within64_one lo hi a w t h).mono fun _ _ ⟨he, hw⟩ => ⟨he, hw ▸ bal (Below.refl _ _) _⟩
theorem one64At (n : Nat) (lo hi a : Int) (w : World) (t : TypeId) (hn : n = w.heap.size) (h : lo ≤ hi) :
    Calls Tryd.prog 18 #[.int .i64 lo, .int .i64 hi, .slice (some ⟨n, 0, none⟩) 1 1] (w.alloc (.cells #[.int .i64 a] t))
      fun e w' => e = .returned (.bool (inB a lo hi)) ∧ Below w.heap.size w w' := by
  subst hn
  exact one64 lo hi a w t h
theorem two64 (lo hi a b : Int) (w : World) (t : TypeId) (h : lo ≤ hi) :
    Calls Tryd.prog 18 #[.int .i64 lo, .int .i64 hi, .slice (some ⟨w.heap.size, 0, none⟩) 2 2] (w.alloc (.cells #[.int .i64 a, .int .i64 b] t))
      fun e w' => e = .returned (.bool (inB a lo hi && inB b lo hi)) ∧ Below w.heap.size w w' :=
  (within_two lo hi a b w t h).mono fun _ _ ⟨he, hw⟩ => ⟨he, hw ▸ bal (Below.refl _ _) _⟩
theorem two64At (n : Nat) (lo hi a b : Int) (w : World) (t : TypeId) (hn : n = w.heap.size) (h : lo ≤ hi) :
    Calls Tryd.prog 18 #[.int .i64 lo, .int .i64 hi, .slice (some ⟨n, 0, none⟩) 2 2] (w.alloc (.cells #[.int .i64 a, .int .i64 b] t))
      fun e w' => e = .returned (.bool (inB a lo hi && inB b lo hi)) ∧ Below w.heap.size w w' := by
  subst hn
  exact two64 lo hi a b w t h

def densV (t : Int) : Int := if inB t 0 18000 then densI t else 0
def densC (t : Int) : Int := if inB t 0 18000 then 0 else 2

theorem implWaterDensity_any (t : Int) (w : World) : Calls Tryd.prog 6 #[.int .i64 t] w fun e w' => e = .returned (.tuple #[.int .i64 (densV t), .int .i64 (densC t)]) ∧ Below w.heap.size w w' := by
  have hb : Below w.heap.size w w := Below.refl _ _
  by_cases h1 : inB t 0 18000 = true
  · skip
    have hv : densV t = densI t := by unfold densV; simp [*]
    have hc : densC t = 0 := by unfold densC; simp [*]
    rw [hv, hc]
    clear hv hc
    go_enter Tryd.func6, Tryd.ntmps6
    go_wp2_with (first | (go_at_call 18; refine (one64At _ _ _ _ _ _ (by simp) (by omega)).mono ?_; rintro e w' ⟨rfl, hb'⟩; first | have hb := bnext hb hb' | have hb := bnext (bal hb _) hb' | have hb := bnext (bal (bal hb _) _) hb' | have hb := bnext (bal (bal (bal hb _) _) _) hb' | have hb := bnext (bal (bal (bal (bal hb _) _) _) _) hb' | have hb := bnext (bal (bal (bal (bal (bal hb _) _) _) _) _) hb') | (go_at_call 19; refine (densities_any _).mono ?_; rintro e w' ⟨rfl, hb'⟩; first | have hb := bnext hb hb' | have hb := bnext (bal hb _) hb' | have hb := bnext (bal (bal hb _) _) hb' | have hb := bnext (bal (bal (bal hb _) _) _) hb' | have hb := bnext (bal (bal (bal (bal hb _) _) _) _) hb' | have hb := bnext (bal (bal (bal (bal (bal hb _) _) _) _) _) hb') | (go_at_call 20; refine (densAt_any _ _).mono ?_; rintro e w' ⟨rfl, hb'⟩; first | have hb := bnext hb hb' | have hb := bnext (bal hb _) hb' | have hb := bnext (bal (bal hb _) _) hb' | have hb := bnext (bal (bal (bal hb _) _) _) hb' | have hb := bnext (bal (bal (bal (bal hb _) _) _) _) hb' | have hb := bnext (bal (bal (bal (bal (bal hb _) _) _) _) _) hb'))
    go_ret2
    first | exact ⟨rfl, hb⟩ | exact ⟨rfl, (bal hb _)⟩ | exact ⟨rfl, (bal (bal hb _) _)⟩ | exact ⟨rfl, (bal (bal (bal hb _) _) _)⟩ | exact ⟨rfl, (bal (bal (bal (bal hb _) _) _) _)⟩ | exact ⟨rfl, (bal (bal (bal (bal (bal hb _) _) _) _) _)⟩
  · have h1' : (inB t 0 18000) = false := by simpa using h1
    have hv : densV t = 0 := by unfold densV; simp [*]
    have hc : densC t = 2 := by unfold densC; simp [*]
    rw [hv, hc]
    clear hv hc
    go_enter Tryd.func6, Tryd.ntmps6
    go_wp2_with (first | (go_at_call 18; refine (one64At _ _ _ _ _ _ (by simp) (by omega)).mono ?_; rintro e w' ⟨rfl, hb'⟩; first | have hb := bnext hb hb' | have hb := bnext (bal hb _) hb' | have hb := bnext (bal (bal hb _) _) hb' | have hb := bnext (bal (bal (bal hb _) _) _) hb' | have hb := bnext (bal (bal (bal (bal hb _) _) _) _) hb' | have hb := bnext (bal (bal (bal (bal (bal hb _) _) _) _) _) hb') | (go_at_call 19; refine (densities_any _).mono ?_; rintro e w' ⟨rfl, hb'⟩; first | have hb := bnext hb hb' | have hb := bnext (bal hb _) hb' | have hb := bnext (bal (bal hb _) _) hb' | have hb := bnext (bal (bal (bal hb _) _) _) hb' | have hb := bnext (bal (bal (bal (bal hb _) _) _) _) hb' | have hb := bnext (bal (bal (bal (bal (bal hb _) _) _) _) _) hb') | (go_at_call 20; refine (densAt_any _ _).mono ?_; rintro e w' ⟨rfl, hb'⟩; first | have hb := bnext hb hb' | have hb := bnext (bal hb _) hb' | have hb := bnext (bal (bal hb _) _) hb' | have hb := bnext (bal (bal (bal hb _) _) _) hb' | have hb := bnext (bal (bal (bal (bal hb _) _) _) _) hb' | have hb := bnext (bal (bal (bal (bal (bal hb _) _) _) _) _) hb'))
    go_ret2
    first | exact ⟨rfl, hb⟩ | exact ⟨rfl, (bal hb _)⟩ | exact ⟨rfl, (bal (bal hb _) _)⟩ | exact ⟨rfl, (bal (bal (bal hb _) _) _)⟩ | exact ⟨rfl, (bal (bal (bal (bal hb _) _) _) _)⟩ | exact ⟨rfl, (bal (bal (bal (bal (bal hb _) _) _) _) _)⟩

def boilV (p : Int) : Int := if inB p 1000 1200000 then boilI p else 0
def boilC (p : Int) : Int := if inB p 1000 1200000 then 0 else 2

theorem implBoilingAt_any (p : Int) (w : World) : Calls Tryd.prog 8 #[.int .i64 p] w fun e w' => e = .returned (.tuple #[.int .i64 (boilV p), .int .i64 (boilC p)]) ∧ Below w.heap.size w w' := by
  have hb : Below w.heap.size w w := Below.refl _ _
  by_cases h1 : inB p 1000 1200000 = true
  · skip
    have hv : boilV p = boilI p := by unfold boilV; simp [*]
    have hc : boilC p = 0 := by unfold boilC; simp [*]
    rw [hv, hc]
    clear hv hc
    go_enter Tryd.func8, Tryd.ntmps8
    go_wp2_with (first | (go_at_call 18; refine (one64At _ _ _ _ _ _ (by simp) (by omega)).mono ?_; rintro e w' ⟨rfl, hb'⟩; first | have hb := bnext hb hb' | have hb := bnext (bal hb _) hb' | have hb := bnext (bal (bal hb _) _) hb' | have hb := bnext (bal (bal (bal hb _) _) _) hb' | have hb := bnext (bal (bal (bal (bal hb _) _) _) _) hb' | have hb := bnext (bal (bal (bal (bal (bal hb _) _) _) _) _) hb') | (go_at_call 22; refine (boilingPoints_any _).mono ?_; rintro e w' ⟨rfl, hb'⟩; first | have hb := bnext hb hb' | have hb := bnext (bal hb _) hb' | have hb := bnext (bal (bal hb _) _) hb' | have hb := bnext (bal (bal (bal hb _) _) _) hb' | have hb := bnext (bal (bal (bal (bal hb _) _) _) _) hb' | have hb := bnext (bal (bal (bal (bal (bal hb _) _) _) _) _) hb') | (go_at_call 20; refine (boilAt_any _ _).mono ?_; rintro e w' ⟨rfl, hb'⟩; first | have hb := bnext hb hb' | have hb := bnext (bal hb _) hb' | have hb := bnext (bal (bal hb _) _) hb' | have hb := bnext (bal (bal (bal hb _) _) _) hb' | have hb := bnext (bal (bal (bal (bal hb _) _) _) _) hb' | have hb := bnext (bal (bal (bal (bal (bal hb _) _) _) _) _) hb'))
    go_ret2
    first | exact ⟨rfl, hb⟩ | exact ⟨rfl, (bal hb _)⟩ | exact ⟨rfl, (bal (bal hb _) _)⟩ | exact ⟨rfl, (bal (bal (bal hb _) _) _)⟩ | exact ⟨rfl, (bal (bal (bal (bal hb _) _) _) _)⟩ | exact ⟨rfl, (bal (bal (bal (bal (bal hb _) _) _) _) _)⟩
  · have h1' : (inB p 1000 1200000) = false := by simpa using h1
    have hv : boilV p = 0 := by unfold boilV; simp [*]
    have hc : boilC p = 2 := by unfold boilC; simp [*]
    rw [hv, hc]
    clear hv hc
    go_enter Tryd.func8, Tryd.ntmps8
    go_wp2_with (first | (go_at_call 18; refine (one64At _ _ _ _ _ _ (by simp) (by omega)).mono ?_; rintro e w' ⟨rfl, hb'⟩; first | have hb := bnext hb hb' | have hb := bnext (bal hb _) hb' | have hb := bnext (bal (bal hb _) _) hb' | have hb := bnext (bal (bal (bal hb _) _) _) hb' | have hb := bnext (bal (bal (bal (bal hb _) _) _) _) hb' | have hb := bnext (bal (bal (bal (bal (bal hb _) _) _) _) _) hb') | (go_at_call 22; refine (boilingPoints_any _).mono ?_; rintro e w' ⟨rfl, hb'⟩; first | have hb := bnext hb hb' | have hb := bnext (bal hb _) hb' | have hb := bnext (bal (bal hb _) _) hb' | have hb := bnext (bal (bal (bal hb _) _) _) hb' | have hb := bnext (bal (bal (bal (bal hb _) _) _) _) hb' | have hb := bnext (bal (bal (bal (bal (bal hb _) _) _) _) _) hb') | (go_at_call 20; refine (boilAt_any _ _).mono ?_; rintro e w' ⟨rfl, hb'⟩; first | have hb := bnext hb hb' | have hb := bnext (bal hb _) hb' | have hb := bnext (bal (bal hb _) _) hb' | have hb := bnext (bal (bal (bal hb _) _) _) hb' | have hb := bnext (bal (bal (bal (bal hb _) _) _) _) hb' | have hb := bnext (bal (bal (bal (bal (bal hb _) _) _) _) _) hb'))
    go_ret2
    first | exact ⟨rfl, hb⟩ | exact ⟨rfl, (bal hb _)⟩ | exact ⟨rfl, (bal (bal hb _) _)⟩ | exact ⟨rfl, (bal (bal (bal hb _) _) _)⟩ | exact ⟨rfl, (bal (bal (bal (bal hb _) _) _) _)⟩ | exact ⟨rfl, (bal (bal (bal (bal (bal hb _) _) _) _) _)⟩

theorem implWaterDensity_yes (t : Int) (w : World) (h : inB t 0 18000 = true) : Calls Tryd.prog 6 #[.int .i64 t] w fun e w' => e = .returned (.tuple #[.int .i64 (densI t), .int .i64 (0)]) ∧ Below w.heap.size w w' := by
  have k := implWaterDensity_any t w
  unfold densV densC at k
  simpa [h] using k

theorem implWaterDensity_no (t : Int) (w : World) (h : inB t 0 18000 = false) : Calls Tryd.prog 6 #[.int .i64 t] w fun e w' => e = .returned (.tuple #[.int .i64 (0), .int .i64 (2)]) ∧ Below w.heap.size w w' := by
  have k := implWaterDensity_any t w
  unfold densV densC at k
  simpa [h] using k

theorem implBoilingAt_yes (p : Int) (w : World) (h : inB p 1000 1200000 = true) : Calls Tryd.prog 8 #[.int .i64 p] w fun e w' => e = .returned (.tuple #[.int .i64 (boilI p), .int .i64 (0)]) ∧ Below w.heap.size w w' := by
  have k := implBoilingAt_any p w
  unfold boilV boilC at k
  simpa [h] using k

theorem implBoilingAt_no (p : Int) (w : World) (h : inB p 1000 1200000 = false) : Calls Tryd.prog 8 #[.int .i64 p] w fun e w' => e = .returned (.tuple #[.int .i64 (0), .int .i64 (2)]) ∧ Below w.heap.size w w' := by
  have k := implBoilingAt_any p w
  unfold boilV boilC at k
  simpa [h] using k

def margV (p : Int) (t : Int) : Int := if inB p 1000 1200000 && inB t 0 18000 then boilI p - t else 0
def margC (p : Int) (t : Int) : Int := if inB p 1000 1200000 && inB t 0 18000 then 0 else 2

theorem implMarginTo_any (p : Int) (t : Int) (w : World) : Calls Tryd.prog 9 #[.int .i64 p, .int .i64 t] w fun e w' => e = .returned (.tuple #[.int .i64 (margV p t), .int .i64 (margC p t)]) ∧ Below w.heap.size w w' := by
  have hb : Below w.heap.size w w := Below.refl _ _
  by_cases h1 : inB p 1000 1200000 = true
  · skip
    by_cases h2 : inB t 0 18000 = true
    · skip
      have hv : margV p t = boilI p - t := by unfold margV; simp [*]
      have hc : margC p t = 0 := by unfold margC; simp [*]
      rw [hv, hc]
      clear hv hc
      have k1 := boil_bd p
      have k2 := inB_iff.1 h2
      go_enter Tryd.func9, Tryd.ntmps9
      go_wp2_with (first | (go_at_call 18; refine (one64At _ _ _ _ _ _ (by simp) (by omega)).mono ?_; rintro e w' ⟨rfl, hb'⟩; first | have hb := bnext hb hb' | have hb := bnext (bal hb _) hb' | have hb := bnext (bal (bal hb _) _) hb' | have hb := bnext (bal (bal (bal hb _) _) _) hb' | have hb := bnext (bal (bal (bal (bal hb _) _) _) _) hb' | have hb := bnext (bal (bal (bal (bal (bal hb _) _) _) _) _) hb') | (go_at_call 8; refine (implBoilingAt_yes _ _ (by assumption)).mono ?_; rintro e w' ⟨rfl, hb'⟩; first | have hb := bnext hb hb' | have hb := bnext (bal hb _) hb' | have hb := bnext (bal (bal hb _) _) hb' | have hb := bnext (bal (bal (bal hb _) _) _) hb' | have hb := bnext (bal (bal (bal (bal hb _) _) _) _) hb' | have hb := bnext (bal (bal (bal (bal (bal hb _) _) _) _) _) hb') | (go_at_call 8; refine (implBoilingAt_no _ _ (by assumption)).mono ?_; rintro e w' ⟨rfl, hb'⟩; first | have hb := bnext hb hb' | have hb := bnext (bal hb _) hb' | have hb := bnext (bal (bal hb _) _) hb' | have hb := bnext (bal (bal (bal hb _) _) _) hb' | have hb := bnext (bal (bal (bal (bal hb _) _) _) _) hb' | have hb := bnext (bal (bal (bal (bal (bal hb _) _) _) _) _) hb'))
      go_ret2
      first | exact ⟨rfl, hb⟩ | exact ⟨rfl, (bal hb _)⟩ | exact ⟨rfl, (bal (bal hb _) _)⟩ | exact ⟨rfl, (bal (bal (bal hb _) _) _)⟩ | exact ⟨rfl, (bal (bal (bal (bal hb _) _) _) _)⟩ | exact ⟨rfl, (bal (bal (bal (bal (bal hb _) _) _) _) _)⟩
    · have h2' : (inB t 0 18000) = false := by simpa using h2
      have hv : margV p t = 0 := by unfold margV; simp [*]
      have hc : margC p t = 2 := by unfold margC; simp [*]
      rw [hv, hc]
      clear hv hc
      go_enter Tryd.func9, Tryd.ntmps9
      go_wp2_with (first | (go_at_call 18; refine (one64At _ _ _ _ _ _ (by simp) (by omega)).mono ?_; rintro e w' ⟨rfl, hb'⟩; first | have hb := bnext hb hb' | have hb := bnext (bal hb _) hb' | have hb := bnext (bal (bal hb _) _) hb' | have hb := bnext (bal (bal (bal hb _) _) _) hb' | have hb := bnext (bal (bal (bal (bal hb _) _) _) _) hb' | have hb := bnext (bal (bal (bal (bal (bal hb _) _) _) _) _) hb') | (go_at_call 8; refine (implBoilingAt_yes _ _ (by assumption)).mono ?_; rintro e w' ⟨rfl, hb'⟩; first | have hb := bnext hb hb' | have hb := bnext (bal hb _) hb' | have hb := bnext (bal (bal hb _) _) hb' | have hb := bnext (bal (bal (bal hb _) _) _) hb' | have hb := bnext (bal (bal (bal (bal hb _) _) _) _) hb' | have hb := bnext (bal (bal (bal (bal (bal hb _) _) _) _) _) hb') | (go_at_call 8; refine (implBoilingAt_no _ _ (by assumption)).mono ?_; rintro e w' ⟨rfl, hb'⟩; first | have hb := bnext hb hb' | have hb := bnext (bal hb _) hb' | have hb := bnext (bal (bal hb _) _) hb' | have hb := bnext (bal (bal (bal hb _) _) _) hb' | have hb := bnext (bal (bal (bal (bal hb _) _) _) _) hb' | have hb := bnext (bal (bal (bal (bal (bal hb _) _) _) _) _) hb'))
      go_ret2
      first | exact ⟨rfl, hb⟩ | exact ⟨rfl, (bal hb _)⟩ | exact ⟨rfl, (bal (bal hb _) _)⟩ | exact ⟨rfl, (bal (bal (bal hb _) _) _)⟩ | exact ⟨rfl, (bal (bal (bal (bal hb _) _) _) _)⟩ | exact ⟨rfl, (bal (bal (bal (bal (bal hb _) _) _) _) _)⟩
  · have h1' : (inB p 1000 1200000) = false := by simpa using h1
    have hv : margV p t = 0 := by unfold margV; simp [*]
    have hc : margC p t = 2 := by unfold margC; simp [*]
    rw [hv, hc]
    clear hv hc
    go_enter Tryd.func9, Tryd.ntmps9
    go_wp2_with (first | (go_at_call 18; refine (one64At _ _ _ _ _ _ (by simp) (by omega)).mono ?_; rintro e w' ⟨rfl, hb'⟩; first | have hb := bnext hb hb' | have hb := bnext (bal hb _) hb' | have hb := bnext (bal (bal hb _) _) hb' | have hb := bnext (bal (bal (bal hb _) _) _) hb' | have hb := bnext (bal (bal (bal (bal hb _) _) _) _) hb' | have hb := bnext (bal (bal (bal (bal (bal hb _) _) _) _) _) hb') | (go_at_call 8; refine (implBoilingAt_yes _ _ (by assumption)).mono ?_; rintro e w' ⟨rfl, hb'⟩; first | have hb := bnext hb hb' | have hb := bnext (bal hb _) hb' | have hb := bnext (bal (bal hb _) _) hb' | have hb := bnext (bal (bal (bal hb _) _) _) hb' | have hb := bnext (bal (bal (bal (bal hb _) _) _) _) hb' | have hb := bnext (bal (bal (bal (bal (bal hb _) _) _) _) _) hb') | (go_at_call 8; refine (implBoilingAt_no _ _ (by assumption)).mono ?_; rintro e w' ⟨rfl, hb'⟩; first | have hb := bnext hb hb' | have hb := bnext (bal hb _) hb' | have hb := bnext (bal (bal hb _) _) hb' | have hb := bnext (bal (bal (bal hb _) _) _) hb' | have hb := bnext (bal (bal (bal (bal hb _) _) _) _) hb' | have hb := bnext (bal (bal (bal (bal (bal hb _) _) _) _) _) hb'))
    go_ret2
    first | exact ⟨rfl, hb⟩ | exact ⟨rfl, (bal hb _)⟩ | exact ⟨rfl, (bal (bal hb _) _)⟩ | exact ⟨rfl, (bal (bal (bal hb _) _) _)⟩ | exact ⟨rfl, (bal (bal (bal (bal hb _) _) _) _)⟩ | exact ⟨rfl, (bal (bal (bal (bal (bal hb _) _) _) _) _)⟩

/-- both are temperatures of water and the second is no higher -/
def coolB (a b : Int) : Bool := inB a 0 18000 && inB b 0 a
theorem isCooling_any (a b : Int) (w : World) : Calls Tryd.prog 26 #[.int .i64 a, .int .i64 b] w fun e w' => e = .returned (.bool (coolB a b)) ∧ Below w.heap.size w w' := by
  have hb : Below w.heap.size w w := Below.refl _ _
  by_cases h1 : (inB a 0 18000 && inB b 0 18000) = true
  · have h1' := h1
    rw [Bool.and_eq_true, inB_iff, inB_iff] at h1'
    by_cases h2 : b ≤ a
    · have e : coolB a b = true := by unfold coolB; rw [Bool.and_eq_true, inB_iff, inB_iff]; omega
      rw [e]
      clear e h1'
      go_enter Tryd.func26, Tryd.ntmps26
      go_wp2_with ((go_at_call 18; refine (two64At _ _ _ _ _ _ _ (by simp) (by omega)).mono ?_; rintro e w' ⟨rfl, hb'⟩; first | have hb := bnext hb hb' | have hb := bnext (bal hb _) hb' | have hb := bnext (bal (bal hb _) _) hb' | have hb := bnext (bal (bal (bal hb _) _) _) hb' | have hb := bnext (bal (bal (bal (bal hb _) _) _) _) hb' | have hb := bnext (bal (bal (bal (bal (bal hb _) _) _) _) _) hb'))
      go_ret
      first | exact ⟨rfl, hb⟩ | exact ⟨rfl, (bal hb _)⟩ | exact ⟨rfl, (bal (bal hb _) _)⟩ | exact ⟨rfl, (bal (bal (bal hb _) _) _)⟩ | exact ⟨rfl, (bal (bal (bal (bal hb _) _) _) _)⟩ | exact ⟨rfl, (bal (bal (bal (bal (bal hb _) _) _) _) _)⟩
    · have e : coolB a b = false := by unfold coolB; rw [Bool.and_eq_false_iff]; exact .inr (inB_false (by omega))
      have h2' : decide (b ≤ a) = false := by simpa using h2
      rw [e]
      clear e h1'
      go_enter Tryd.func26, Tryd.ntmps26
      go_wp2_with ((go_at_call 18; refine (two64At _ _ _ _ _ _ _ (by simp) (by omega)).mono ?_; rintro e w' ⟨rfl, hb'⟩; first | have hb := bnext hb hb' | have hb := bnext (bal hb _) hb' | have hb := bnext (bal (bal hb _) _) hb' | have hb := bnext (bal (bal (bal hb _) _) _) hb' | have hb := bnext (bal (bal (bal (bal hb _) _) _) _) hb' | have hb := bnext (bal (bal (bal (bal (bal hb _) _) _) _) _) hb'))
      go_ret
      first | exact ⟨rfl, hb⟩ | exact ⟨rfl, (bal hb _)⟩ | exact ⟨rfl, (bal (bal hb _) _)⟩ | exact ⟨rfl, (bal (bal (bal hb _) _) _)⟩ | exact ⟨rfl, (bal (bal (bal (bal hb _) _) _) _)⟩ | exact ⟨rfl, (bal (bal (bal (bal (bal hb _) _) _) _) _)⟩
  · have h1' : (inB a 0 18000 && inB b 0 18000) = false := by simpa using h1
    have e : coolB a b = false := by
      unfold coolB
      rw [Bool.and_eq_false_iff] at h1' ⊢
      rcases h1' with h | h
      · exact .inl h
      · by_cases hh : inB a 0 18000 = true
        · refine .inr (inB_false fun k => ?_)
          have := inB_iff.1 hh
          rw [inB_true (by omega)] at h
          cases h
        · exact .inl (by simpa using hh)
    rw [e]
    clear e
    go_enter Tryd.func26, Tryd.ntmps26
    go_wp2_with ((go_at_call 18; refine (two64At _ _ _ _ _ _ _ (by simp) (by omega)).mono ?_; rintro e w' ⟨rfl, hb'⟩; first | have hb := bnext hb hb' | have hb := bnext (bal hb _) hb' | have hb := bnext (bal (bal hb _) _) hb' | have hb := bnext (bal (bal (bal hb _) _) _) hb' | have hb := bnext (bal (bal (bal (bal hb _) _) _) _) hb' | have hb := bnext (bal (bal (bal (bal (bal hb _) _) _) _) _) hb'))
    go_ret
    first | exact ⟨rfl, hb⟩ | exact ⟨rfl, (bal hb _)⟩ | exact ⟨rfl, (bal (bal hb _) _)⟩ | exact ⟨rfl, (bal (bal (bal hb _) _) _)⟩ | exact ⟨rfl, (bal (bal (bal (bal hb _) _) _) _)⟩ | exact ⟨rfl, (bal (bal (bal (bal (bal hb _) _) _) _) _)⟩

/-- watts that a flow gives off over a difference -/
def wattI (q d : Int) : Int := nearI (q * 4186 * d) 100000
theorem watt_num (q d : Int) (q0 : -100000 ≤ q) (q1 : q ≤ 100000) (d0 : -25000 ≤ d) (d1 : d ≤ 25000) : -10465000000000 ≤ q * 4186 * d ∧ q * 4186 * d ≤ 10465000000000 := by
  by_cases h : 0 ≤ q
  · have := mul_sgn (q * 4186) d 418600000 25000 (by omega) (by omega) d0 d1
    omega
  · have := mul_sgn (-q * 4186) d 418600000 25000 (by omega) (by omega) d0 d1
    rw [Int.neg_mul, Int.neg_mul] at this
    omega
theorem watt_bd (q d : Int) (q0 : -100000 ≤ q) (q1 : q ≤ 100000) (d0 : -25000 ≤ d) (d1 : d ≤ 25000) : -10465000000000 ≤ wattI q d ∧ wattI q d ≤ 10465000000000 :=
  nearI_lim _ _ _ (watt_num q d q0 q1 d0 d1).1 (watt_num q d q0 q1 d0 d1).2 (by omega)
theorem wattsOf_any (q d : Int) (w : World) (q0 : -100000 ≤ q) (q1 : q ≤ 100000) (d0 : -25000 ≤ d) (d1 : d ≤ 25000) :
    Calls Tryd.prog 28 #[.int .i64 q, .int .i64 d] w fun e w' => e = .returned (.int .i64 (wattI q d)) ∧ Drawn w w' := by
  have hn := watt_num q d q0 q1 d0 d1
  unfold wattI
  rw [Int.mul_comm q 4186] at hn ⊢
  go_enter Tryd.func28, Tryd.ntmps28
  go_wp2_with ((go_at_call 40; refine (nearest_any _ _ _ (by omega) (by omega) (by omega) (by omega) (by omega)).mono ?_; rintro e w' ⟨rfl, ⟨nq, rfl⟩⟩))
  go_ret
  exact ⟨rfl, ⟨_, rfl⟩⟩

def hpV (q : Int) (a : Int) (b : Int) : Int := if inB q 0 100000 && inB a 0 18000 && inB b 0 a then wattI q (a - b) else 0
def hpC (q : Int) (a : Int) (b : Int) : Int := if inB q 0 100000 && inB a 0 18000 && inB b 0 a then 0 else 2

theorem implHeatPower_any (q : Int) (a : Int) (b : Int) (w : World) : Calls Tryd.prog 12 #[.int .i64 q, .int .i64 a, .int .i64 b] w fun e w' => e = .returned (.tuple #[.int .i64 (hpV q a b), .int .i64 (hpC q a b)]) ∧ Below w.heap.size w w' := by
  have hb : Below w.heap.size w w := Below.refl _ _
  by_cases h1 : inB q 0 100000 = true
  · skip
    by_cases h2 : coolB a b = true
    · skip
      have hv : hpV q a b = wattI q (a - b) := by unfold hpV; unfold coolB at *; simp_all
      have hc : hpC q a b = 0 := by unfold hpC; unfold coolB at *; simp_all
      rw [hv, hc]
      clear hv hc
      have k1 := inB_iff.1 h1
      have k2 := h2
      unfold coolB at k2
      rw [Bool.and_eq_true, inB_iff, inB_iff] at k2
      go_enter Tryd.func12, Tryd.ntmps12
      go_wp2_with (first | (go_at_call 18; refine (one64At _ _ _ _ _ _ (by simp) (by omega)).mono ?_; rintro e w' ⟨rfl, hb'⟩; first | have hb := bnext hb hb' | have hb := bnext (bal hb _) hb' | have hb := bnext (bal (bal hb _) _) hb' | have hb := bnext (bal (bal (bal hb _) _) _) hb' | have hb := bnext (bal (bal (bal (bal hb _) _) _) _) hb' | have hb := bnext (bal (bal (bal (bal (bal hb _) _) _) _) _) hb') | (go_at_call 26; refine (isCooling_any _ _ _).mono ?_; rintro e w' ⟨rfl, hb'⟩; first | have hb := bnext hb hb' | have hb := bnext (bal hb _) hb' | have hb := bnext (bal (bal hb _) _) hb' | have hb := bnext (bal (bal (bal hb _) _) _) hb' | have hb := bnext (bal (bal (bal (bal hb _) _) _) _) hb' | have hb := bnext (bal (bal (bal (bal (bal hb _) _) _) _) _) hb') | (go_at_call 28; refine (wattsOf_any _ _ _ (by omega) (by omega) (by omega) (by omega)).mono ?_; rintro e w' ⟨rfl, ⟨nq, rfl⟩⟩; have hb := below_drewN hb nq))
      go_ret2
      first | exact ⟨rfl, hb⟩ | exact ⟨rfl, (bal hb _)⟩ | exact ⟨rfl, (bal (bal hb _) _)⟩ | exact ⟨rfl, (bal (bal (bal hb _) _) _)⟩ | exact ⟨rfl, (bal (bal (bal (bal hb _) _) _) _)⟩ | exact ⟨rfl, (bal (bal (bal (bal (bal hb _) _) _) _) _)⟩
    · have h2' : (coolB a b) = false := by simpa using h2
      have hv : hpV q a b = 0 := by unfold hpV; unfold coolB at *; simp_all
      have hc : hpC q a b = 2 := by unfold hpC; unfold coolB at *; simp_all
      rw [hv, hc]
      clear hv hc
      go_enter Tryd.func12, Tryd.ntmps12
      go_wp2_with (first | (go_at_call 18; refine (one64At _ _ _ _ _ _ (by simp) (by omega)).mono ?_; rintro e w' ⟨rfl, hb'⟩; first | have hb := bnext hb hb' | have hb := bnext (bal hb _) hb' | have hb := bnext (bal (bal hb _) _) hb' | have hb := bnext (bal (bal (bal hb _) _) _) hb' | have hb := bnext (bal (bal (bal (bal hb _) _) _) _) hb' | have hb := bnext (bal (bal (bal (bal (bal hb _) _) _) _) _) hb') | (go_at_call 26; refine (isCooling_any _ _ _).mono ?_; rintro e w' ⟨rfl, hb'⟩; first | have hb := bnext hb hb' | have hb := bnext (bal hb _) hb' | have hb := bnext (bal (bal hb _) _) hb' | have hb := bnext (bal (bal (bal hb _) _) _) hb' | have hb := bnext (bal (bal (bal (bal hb _) _) _) _) hb' | have hb := bnext (bal (bal (bal (bal (bal hb _) _) _) _) _) hb') | (go_at_call 28; refine (wattsOf_any _ _ _ (by omega) (by omega) (by omega) (by omega)).mono ?_; rintro e w' ⟨rfl, ⟨nq, rfl⟩⟩; have hb := below_drewN hb nq))
      go_ret2
      first | exact ⟨rfl, hb⟩ | exact ⟨rfl, (bal hb _)⟩ | exact ⟨rfl, (bal (bal hb _) _)⟩ | exact ⟨rfl, (bal (bal (bal hb _) _) _)⟩ | exact ⟨rfl, (bal (bal (bal (bal hb _) _) _) _)⟩ | exact ⟨rfl, (bal (bal (bal (bal (bal hb _) _) _) _) _)⟩
  · have h1' : (inB q 0 100000) = false := by simpa using h1
    have hv : hpV q a b = 0 := by unfold hpV; unfold coolB at *; simp_all
    have hc : hpC q a b = 2 := by unfold hpC; unfold coolB at *; simp_all
    rw [hv, hc]
    clear hv hc
    go_enter Tryd.func12, Tryd.ntmps12
    go_wp2_with (first | (go_at_call 18; refine (one64At _ _ _ _ _ _ (by simp) (by omega)).mono ?_; rintro e w' ⟨rfl, hb'⟩; first | have hb := bnext hb hb' | have hb := bnext (bal hb _) hb' | have hb := bnext (bal (bal hb _) _) hb' | have hb := bnext (bal (bal (bal hb _) _) _) hb' | have hb := bnext (bal (bal (bal (bal hb _) _) _) _) hb' | have hb := bnext (bal (bal (bal (bal (bal hb _) _) _) _) _) hb') | (go_at_call 26; refine (isCooling_any _ _ _).mono ?_; rintro e w' ⟨rfl, hb'⟩; first | have hb := bnext hb hb' | have hb := bnext (bal hb _) hb' | have hb := bnext (bal (bal hb _) _) hb' | have hb := bnext (bal (bal (bal hb _) _) _) hb' | have hb := bnext (bal (bal (bal (bal hb _) _) _) _) hb' | have hb := bnext (bal (bal (bal (bal (bal hb _) _) _) _) _) hb') | (go_at_call 28; refine (wattsOf_any _ _ _ (by omega) (by omega) (by omega) (by omega)).mono ?_; rintro e w' ⟨rfl, ⟨nq, rfl⟩⟩; have hb := below_drewN hb nq))
    go_ret2
    first | exact ⟨rfl, hb⟩ | exact ⟨rfl, (bal hb _)⟩ | exact ⟨rfl, (bal (bal hb _) _)⟩ | exact ⟨rfl, (bal (bal (bal hb _) _) _)⟩ | exact ⟨rfl, (bal (bal (bal (bal hb _) _) _) _)⟩ | exact ⟨rfl, (bal (bal (bal (bal (bal hb _) _) _) _) _)⟩

def enV (p : Int) (m : Int) : Int := if inB p 0 100000000 && inB m 0 1000000 then nearI (p * m) 60 else 0
def enC (p : Int) (m : Int) : Int := if inB p 0 100000000 && inB m 0 1000000 then 0 else 2

def volV (v : Int) (a : Int) (b : Int) : Int := if inB v 0 1000000000 && inB a 0 18000 && inB b 0 18000 then nearI (v * densI a) (densI b) else 0
def volC (v : Int) (a : Int) (b : Int) : Int := if inB v 0 1000000000 && inB a 0 18000 && inB b 0 18000 then 0 else 2

def headV (h : Int) (t : Int) : Int := if inB h (-200000) 200000 && inB t 0 18000 then nearI (densI t * h * 981) 1000000 else 0
def headC (h : Int) (t : Int) : Int := if inB h (-200000) 200000 && inB t 0 18000 then 0 else 2

def hfV (q : Int) (a : Int) (b : Int) : Int := if inB q (-100000) 100000 && inB a (-5000) 20000 && inB b (-5000) 20000 then wattI q (a - b) else 0
def hfC (q : Int) (a : Int) (b : Int) : Int := if inB q (-100000) 100000 && inB a (-5000) 20000 && inB b (-5000) 20000 then 0 else 2

end Go.Proofs.YtjabcoanpinpiaaDoor
