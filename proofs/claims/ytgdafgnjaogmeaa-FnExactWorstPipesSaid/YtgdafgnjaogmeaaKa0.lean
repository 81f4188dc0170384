import Derived.Test.YtgdafgnjaogmeaaP4
/-
  What a coat loses, what a pipe loses: CoatLoss, RangeLoss of both sides.
-/
namespace Go.Proofs.Ytgdafgnjaogmeaa
open Go.ChangeShapes Go.WideShapes Go.ChangeAt Go.RowKit Go.Shelf
set_option linter.unusedSimpArgs false


theorem loses_any (s L a c : Int) (w : World) (s0 : 0 ≤ s) (s1 : s ≤ 5000) (l0 : 0 ≤ L) (l1 : L ≤ 10000) (a0 : -5000 ≤ a) (a1 : a ≤ 20000) (b0 : -5000 ≤ c) (b1 : c ≤ 20000) :
    Calls Try.prog 63 #[.int .i64 s, .int .i64 L, .int .i64 a, .int .i64 c] w fun e w' => e = .returned (.int .i64 (lossI s L a c)) ∧ w = w' := by
  have k := loss_num s L a c s0 s1 l0 l1 a0 a1 b0 b1
  unfold lossI
  go_enter Try.func63, Try.ntmps63
  go_wp2_with ((go_at_call 76; refine (l01Div_any _ _ _ (by omega) (by omega) (by omega) (by omega) (by omega)).mono ?_; rintro e w' ⟨rfl, rfl⟩))
  go_ret
  exact ⟨rfl, rfl⟩
/-- what a coat loses -/
def coatI (d t k : Int) : Int := clampI 1 5000 (nearI (3 * k * (d + t)) t)
theorem coat_num (d t k : Int) (d0 : 20 ≤ d) (d1 : d ≤ 1000) (t0 : 1 ≤ t) (t1 : t ≤ 300) (k0 : 1 ≤ k) (k1 : k ≤ 1000) : 0 ≤ 3 * k * (d + t) ∧ 3 * k * (d + t) ≤ 3900000 := by
  have h := mul_range (3 * k) (d + t) 3000 1300 (by omega) (by omega) (by omega) (by omega)
  omega
theorem l10Coat_any (d t k : Int) (w : World) (d0 : 20 ≤ d) (d1 : d ≤ 1000) (t0 : 1 ≤ t) (t1 : t ≤ 300) (k0 : 1 ≤ k) (k1 : k ≤ 1000) :
    Calls Try.prog 55 #[.int .i64 d, .int .i64 t, .int .i64 k] w fun e w' => e = .returned (.int .i64 (coatI d t k)) ∧ w = w' := by
  have h := coat_num d t k d0 d1 t0 t1 k0 k1
  have hc : 3 * k = k * 3 := Int.mul_comm ..
  have hb := nearI_bd (3 * k * (d + t)) t 3900000 (by omega) (by omega) (by omega)
  have HD := Lib.hid (fun wx => l01Div_any (3 * k * (d + t)) t wx (by omega) (by omega) (by omega) (by omega) (by omega))
  unfold coatI
  generalize nearI (3 * k * (d + t)) t = n at *
  rw [hc] at h HD
  have hcl : clampI 1 5000 n = max 1 (min 5000 n) := by unfold clampI; omega
  rw [hcl]
  clear hc hcl
  have HMn := Lib.hid (fun wx => l00Min_any 5000 n wx)
  have HMx := Lib.hid (fun wx => l00Max_any 1 (min 5000 n) wx)
  generalize min 5000 n = m at *
  go_enter Try.func55, Try.ntmps55
  go_wp2_with fail
  refine (HD.out _).mono ?_
  rintro e w1 ⟨rfl, rfl⟩
  go_wp2_with fail
  refine (HMn.out _).mono ?_
  rintro e w1 ⟨rfl, rfl⟩
  go_wp2_with fail
  refine (HMx.out _).mono ?_
  rintro e w1 ⟨rfl, rfl⟩
  go_wp2
  go_ret
  exact ⟨rfl, rfl⟩

theorem isThickness_any (n : Int) (w : World) : Calls Try.prog 57 #[.int .i64 n] w fun e w' => e = .returned (.bool (inB n 1 300)) ∧ Below w.heap.size w w' := by
  have hb : Below w.heap.size w w := Below.refl _ _
  go_enter Try.func57, Try.ntmps57
  go_wp2_with ((go_at_call 56; refine (one64At _ _ _ _ _ _ (by simp) (by omega)).mono ?_; rintro e w' ⟨rfl, hb'⟩; first | have hb := bnext hb hb' | have hb := bnext (bal hb _) hb' | have hb := bnext (bal (bal hb _) _) hb' | have hb := bnext (bal (bal (bal hb _) _) _) hb' | have hb := bnext (bal (bal (bal (bal hb _) _) _) _) hb' | have hb := bnext (bal (bal (bal (bal (bal hb _) _) _) _) _) hb'))
  go_ret
  first | exact ⟨rfl, hb⟩ | exact ⟨rfl, (bal hb _)⟩ | exact ⟨rfl, (bal (bal hb _) _)⟩ | exact ⟨rfl, (bal (bal (bal hb _) _) _)⟩ | exact ⟨rfl, (bal (bal (bal (bal hb _) _) _) _)⟩ | exact ⟨rfl, (bal (bal (bal (bal (bal hb _) _) _) _) _)⟩

theorem isConductivity_any (n : Int) (w : World) : Calls Try.prog 58 #[.int .i64 n] w fun e w' => e = .returned (.bool (inB n 1 1000)) ∧ Below w.heap.size w w' := by
  have hb : Below w.heap.size w w := Below.refl _ _
  go_enter Try.func58, Try.ntmps58
  go_wp2_with ((go_at_call 56; refine (one64At _ _ _ _ _ _ (by simp) (by omega)).mono ?_; rintro e w' ⟨rfl, hb'⟩; first | have hb := bnext hb hb' | have hb := bnext (bal hb _) hb' | have hb := bnext (bal (bal hb _) _) hb' | have hb := bnext (bal (bal (bal hb _) _) _) hb' | have hb := bnext (bal (bal (bal (bal hb _) _) _) _) hb' | have hb := bnext (bal (bal (bal (bal (bal hb _) _) _) _) _) hb'))
  go_ret
  first | exact ⟨rfl, hb⟩ | exact ⟨rfl, (bal hb _)⟩ | exact ⟨rfl, (bal (bal hb _) _)⟩ | exact ⟨rfl, (bal (bal (bal hb _) _) _)⟩ | exact ⟨rfl, (bal (bal (bal (bal hb _) _) _) _)⟩ | exact ⟨rfl, (bal (bal (bal (bal (bal hb _) _) _) _) _)⟩

theorem l10Conductivity_any (n : Int) (w : World) : Calls Try.prog 54 #[.int .i64 n] w fun e w' => e = .returned (.bool (inB n 1 1000)) ∧ w = w' := by
  go_enter Try.func54, Try.ntmps54
  go_wp2_with ((go_at_call 53; refine (in_any _ _ _ _).mono ?_; rintro e w' ⟨rfl, rfl⟩))
  go_ret
  exact ⟨rfl, rfl⟩

def coatV (d : Int) (t : Int) (k : Int) : Int := if inB d 20 1000 && inB t 1 300 && inB k 1 1000 then coatI d t k else 0
def coatC (d : Int) (t : Int) (k : Int) : Int := if inB d 20 1000 && inB t 1 300 && inB k 1 1000 then 0 else 2

theorem specCoatLoss_any (d : Int) (t : Int) (k : Int) (w : World) : Calls Try.prog 14 #[.int .i64 d, .int .i64 t, .int .i64 k] w fun e w' => e = .returned (.tuple #[.int .i64 (coatV d t k), .int .i64 (coatC d t k)]) ∧ Below w.heap.size w w' := by
  have hb : Below w.heap.size w w := Below.refl _ _
  by_cases k1 : inB d 20 1000 = true
  · skip
    by_cases k2 : inB t 1 300 = true
    · skip
      by_cases k3 : inB k 1 1000 = true
      · skip
        have hv : coatV d t k = coatI d t k := by unfold coatV; simp [*]
        have hc : coatC d t k = 0 := by unfold coatC; simp [*]
        rw [hv, hc]
        clear hv hc
        have kd := inB_iff.1 k1
        have kt := inB_iff.1 k2
        have kk := inB_iff.1 k3
        have HL := Lib.hid (fun wx => l10Coat_any d t k wx kd.1 kd.2 kt.1 kt.2 kk.1 kk.2)
        generalize coatI d t k = r at *
        go_enter Try.func14, Try.ntmps14
        go_wp2_with (first | (go_at_call 53; refine (in_any _ _ _ _).mono ?_; rintro e w' ⟨rfl, rfl⟩) | (go_at_call 54; refine (l10Conductivity_any _ _).mono ?_; rintro e w' ⟨rfl, rfl⟩) | (go_at_call 55; refine (HL.out _).mono ?_; rintro e w' ⟨rfl, rfl⟩))
        go_ret2
        first | exact ⟨rfl, hb⟩ | exact ⟨rfl, (bal hb _)⟩ | exact ⟨rfl, (bal (bal hb _) _)⟩ | exact ⟨rfl, (bal (bal (bal hb _) _) _)⟩ | exact ⟨rfl, (bal (bal (bal (bal hb _) _) _) _)⟩ | exact ⟨rfl, (bal (bal (bal (bal (bal hb _) _) _) _) _)⟩
      · have k3' : (inB k 1 1000) = false := by simpa using k3
        have hv : coatV d t k = 0 := by unfold coatV; simp [*]
        have hc : coatC d t k = 2 := by unfold coatC; simp [*]
        rw [hv, hc]
        clear hv hc
        go_enter Try.func14, Try.ntmps14
        go_wp2_with (first | (go_at_call 53; refine (in_any _ _ _ _).mono ?_; rintro e w' ⟨rfl, rfl⟩) | (go_at_call 54; refine (l10Conductivity_any _ _).mono ?_; rintro e w' ⟨rfl, rfl⟩) | (go_at_call 55; refine (HL.out _).mono ?_; rintro e w' ⟨rfl, rfl⟩))
        go_ret2
        first | exact ⟨rfl, hb⟩ | exact ⟨rfl, (bal hb _)⟩ | exact ⟨rfl, (bal (bal hb _) _)⟩ | exact ⟨rfl, (bal (bal (bal hb _) _) _)⟩ | exact ⟨rfl, (bal (bal (bal (bal hb _) _) _) _)⟩ | exact ⟨rfl, (bal (bal (bal (bal (bal hb _) _) _) _) _)⟩
    · have k2' : (inB t 1 300) = false := by simpa using k2
      have hv : coatV d t k = 0 := by unfold coatV; simp [*]
      have hc : coatC d t k = 2 := by unfold coatC; simp [*]
      rw [hv, hc]
      clear hv hc
      go_enter Try.func14, Try.ntmps14
      go_wp2_with (first | (go_at_call 53; refine (in_any _ _ _ _).mono ?_; rintro e w' ⟨rfl, rfl⟩) | (go_at_call 54; refine (l10Conductivity_any _ _).mono ?_; rintro e w' ⟨rfl, rfl⟩) | (go_at_call 55; refine (HL.out _).mono ?_; rintro e w' ⟨rfl, rfl⟩))
      go_ret2
      first | exact ⟨rfl, hb⟩ | exact ⟨rfl, (bal hb _)⟩ | exact ⟨rfl, (bal (bal hb _) _)⟩ | exact ⟨rfl, (bal (bal (bal hb _) _) _)⟩ | exact ⟨rfl, (bal (bal (bal (bal hb _) _) _) _)⟩ | exact ⟨rfl, (bal (bal (bal (bal (bal hb _) _) _) _) _)⟩
  · have k1' : (inB d 20 1000) = false := by simpa using k1
    have hv : coatV d t k = 0 := by unfold coatV; simp [*]
    have hc : coatC d t k = 2 := by unfold coatC; simp [*]
    rw [hv, hc]
    clear hv hc
    go_enter Try.func14, Try.ntmps14
    go_wp2_with (first | (go_at_call 53; refine (in_any _ _ _ _).mono ?_; rintro e w' ⟨rfl, rfl⟩) | (go_at_call 54; refine (l10Conductivity_any _ _).mono ?_; rintro e w' ⟨rfl, rfl⟩) | (go_at_call 55; refine (HL.out _).mono ?_; rintro e w' ⟨rfl, rfl⟩))
    go_ret2
    first | exact ⟨rfl, hb⟩ | exact ⟨rfl, (bal hb _)⟩ | exact ⟨rfl, (bal (bal hb _) _)⟩ | exact ⟨rfl, (bal (bal (bal hb _) _) _)⟩ | exact ⟨rfl, (bal (bal (bal (bal hb _) _) _) _)⟩ | exact ⟨rfl, (bal (bal (bal (bal (bal hb _) _) _) _) _)⟩

theorem implCoatLoss_any (d : Int) (t : Int) (k : Int) (w : World) : Calls Try.prog 15 #[.int .i64 d, .int .i64 t, .int .i64 k] w fun e w' => e = .returned (.tuple #[.int .i64 (coatV d t k), .int .i64 (coatC d t k)]) ∧ Below w.heap.size w w' := by
  have hb : Below w.heap.size w w := Below.refl _ _
  by_cases k1 : inB d 20 1000 = true
  · skip
    by_cases k2 : inB t 1 300 = true
    · skip
      by_cases k3 : inB k 1 1000 = true
      · skip
        have hv : coatV d t k = coatI d t k := by unfold coatV; simp [*]
        have hc : coatC d t k = 0 := by unfold coatC; simp [*]
        rw [hv, hc]
        clear hv hc
        have kd := inB_iff.1 k1
        have kt := inB_iff.1 k2
        have kk := inB_iff.1 k3
        have h := coat_num d t k kd.1 kd.2 kt.1 kt.2 kk.1 kk.2
        have hn := nearI_bd (3 * k * (d + t)) t 3900000 (by omega) (by omega) (by omega)
        have HN := Lib.hid (fun wx => nearest_any (3 * k * (d + t)) t wx (by omega) (by omega) (by omega) (by omega) (by omega))
        unfold coatI
        generalize nearI (3 * k * (d + t)) t = n at *
        have HC := Lib.hid (fun wx => clamp_any 1 5000 n wx)
        go_enter Try.func15, Try.ntmps15
        go_wp2_with (first | (go_at_call 56; refine (one64At _ _ _ _ _ _ (by simp) (by omega)).mono ?_; rintro e w' ⟨rfl, hb'⟩; first | have hb := bnext hb hb' | have hb := bnext (bal hb _) hb' | have hb := bnext (bal (bal hb _) _) hb' | have hb := bnext (bal (bal (bal hb _) _) _) hb' | have hb := bnext (bal (bal (bal (bal hb _) _) _) _) hb' | have hb := bnext (bal (bal (bal (bal (bal hb _) _) _) _) _) hb') | (go_at_call 57; refine (isThickness_any _ _).mono ?_; rintro e w' ⟨rfl, hb'⟩; first | have hb := bnext hb hb' | have hb := bnext (bal hb _) hb' | have hb := bnext (bal (bal hb _) _) hb' | have hb := bnext (bal (bal (bal hb _) _) _) hb' | have hb := bnext (bal (bal (bal (bal hb _) _) _) _) hb' | have hb := bnext (bal (bal (bal (bal (bal hb _) _) _) _) _) hb') | (go_at_call 58; refine (isConductivity_any _ _).mono ?_; rintro e w' ⟨rfl, hb'⟩; first | have hb := bnext hb hb' | have hb := bnext (bal hb _) hb' | have hb := bnext (bal (bal hb _) _) hb' | have hb := bnext (bal (bal (bal hb _) _) _) hb' | have hb := bnext (bal (bal (bal (bal hb _) _) _) _) hb' | have hb := bnext (bal (bal (bal (bal (bal hb _) _) _) _) _) hb') | (go_at_call 60; refine (HN.out _).mono ?_; rintro e w' ⟨rfl, hd'⟩; have hb' := Drawn.below hd'; first | have hb := bnext hb hb' | have hb := bnext (bal hb _) hb' | have hb := bnext (bal (bal hb _) _) hb' | have hb := bnext (bal (bal (bal hb _) _) _) hb' | have hb := bnext (bal (bal (bal (bal hb _) _) _) _) hb' | have hb := bnext (bal (bal (bal (bal (bal hb _) _) _) _) _) hb') | (go_at_call 59; refine (HC.out _).mono ?_; rintro e w' ⟨rfl, rfl⟩))
        go_ret2
        first | exact ⟨rfl, hb⟩ | exact ⟨rfl, (bal hb _)⟩ | exact ⟨rfl, (bal (bal hb _) _)⟩ | exact ⟨rfl, (bal (bal (bal hb _) _) _)⟩ | exact ⟨rfl, (bal (bal (bal (bal hb _) _) _) _)⟩ | exact ⟨rfl, (bal (bal (bal (bal (bal hb _) _) _) _) _)⟩
      · have k3' : (inB k 1 1000) = false := by simpa using k3
        have hv : coatV d t k = 0 := by unfold coatV; simp [*]
        have hc : coatC d t k = 2 := by unfold coatC; simp [*]
        rw [hv, hc]
        clear hv hc
        go_enter Try.func15, Try.ntmps15
        go_wp2_with (first | (go_at_call 56; refine (one64At _ _ _ _ _ _ (by simp) (by omega)).mono ?_; rintro e w' ⟨rfl, hb'⟩; first | have hb := bnext hb hb' | have hb := bnext (bal hb _) hb' | have hb := bnext (bal (bal hb _) _) hb' | have hb := bnext (bal (bal (bal hb _) _) _) hb' | have hb := bnext (bal (bal (bal (bal hb _) _) _) _) hb' | have hb := bnext (bal (bal (bal (bal (bal hb _) _) _) _) _) hb') | (go_at_call 57; refine (isThickness_any _ _).mono ?_; rintro e w' ⟨rfl, hb'⟩; first | have hb := bnext hb hb' | have hb := bnext (bal hb _) hb' | have hb := bnext (bal (bal hb _) _) hb' | have hb := bnext (bal (bal (bal hb _) _) _) hb' | have hb := bnext (bal (bal (bal (bal hb _) _) _) _) hb' | have hb := bnext (bal (bal (bal (bal (bal hb _) _) _) _) _) hb') | (go_at_call 58; refine (isConductivity_any _ _).mono ?_; rintro e w' ⟨rfl, hb'⟩; first | have hb := bnext hb hb' | have hb := bnext (bal hb _) hb' | have hb := bnext (bal (bal hb _) _) hb' | have hb := bnext (bal (bal (bal hb _) _) _) hb' | have hb := bnext (bal (bal (bal (bal hb _) _) _) _) hb' | have hb := bnext (bal (bal (bal (bal (bal hb _) _) _) _) _) hb') | (go_at_call 60; refine (HN.out _).mono ?_; rintro e w' ⟨rfl, hd'⟩; have hb' := Drawn.below hd'; first | have hb := bnext hb hb' | have hb := bnext (bal hb _) hb' | have hb := bnext (bal (bal hb _) _) hb' | have hb := bnext (bal (bal (bal hb _) _) _) hb' | have hb := bnext (bal (bal (bal (bal hb _) _) _) _) hb' | have hb := bnext (bal (bal (bal (bal (bal hb _) _) _) _) _) hb') | (go_at_call 59; refine (HC.out _).mono ?_; rintro e w' ⟨rfl, rfl⟩))
        go_ret2
        first | exact ⟨rfl, hb⟩ | exact ⟨rfl, (bal hb _)⟩ | exact ⟨rfl, (bal (bal hb _) _)⟩ | exact ⟨rfl, (bal (bal (bal hb _) _) _)⟩ | exact ⟨rfl, (bal (bal (bal (bal hb _) _) _) _)⟩ | exact ⟨rfl, (bal (bal (bal (bal (bal hb _) _) _) _) _)⟩
    · have k2' : (inB t 1 300) = false := by simpa using k2
      have hv : coatV d t k = 0 := by unfold coatV; simp [*]
      have hc : coatC d t k = 2 := by unfold coatC; simp [*]
      rw [hv, hc]
      clear hv hc
      go_enter Try.func15, Try.ntmps15
      go_wp2_with (first | (go_at_call 56; refine (one64At _ _ _ _ _ _ (by simp) (by omega)).mono ?_; rintro e w' ⟨rfl, hb'⟩; first | have hb := bnext hb hb' | have hb := bnext (bal hb _) hb' | have hb := bnext (bal (bal hb _) _) hb' | have hb := bnext (bal (bal (bal hb _) _) _) hb' | have hb := bnext (bal (bal (bal (bal hb _) _) _) _) hb' | have hb := bnext (bal (bal (bal (bal (bal hb _) _) _) _) _) hb') | (go_at_call 57; refine (isThickness_any _ _).mono ?_; rintro e w' ⟨rfl, hb'⟩; first | have hb := bnext hb hb' | have hb := bnext (bal hb _) hb' | have hb := bnext (bal (bal hb _) _) hb' | have hb := bnext (bal (bal (bal hb _) _) _) hb' | have hb := bnext (bal (bal (bal (bal hb _) _) _) _) hb' | have hb := bnext (bal (bal (bal (bal (bal hb _) _) _) _) _) hb') | (go_at_call 58; refine (isConductivity_any _ _).mono ?_; rintro e w' ⟨rfl, hb'⟩; first | have hb := bnext hb hb' | have hb := bnext (bal hb _) hb' | have hb := bnext (bal (bal hb _) _) hb' | have hb := bnext (bal (bal (bal hb _) _) _) hb' | have hb := bnext (bal (bal (bal (bal hb _) _) _) _) hb' | have hb := bnext (bal (bal (bal (bal (bal hb _) _) _) _) _) hb') | (go_at_call 60; refine (HN.out _).mono ?_; rintro e w' ⟨rfl, hd'⟩; have hb' := Drawn.below hd'; first | have hb := bnext hb hb' | have hb := bnext (bal hb _) hb' | have hb := bnext (bal (bal hb _) _) hb' | have hb := bnext (bal (bal (bal hb _) _) _) hb' | have hb := bnext (bal (bal (bal (bal hb _) _) _) _) hb' | have hb := bnext (bal (bal (bal (bal (bal hb _) _) _) _) _) hb') | (go_at_call 59; refine (HC.out _).mono ?_; rintro e w' ⟨rfl, rfl⟩))
      go_ret2
      first | exact ⟨rfl, hb⟩ | exact ⟨rfl, (bal hb _)⟩ | exact ⟨rfl, (bal (bal hb _) _)⟩ | exact ⟨rfl, (bal (bal (bal hb _) _) _)⟩ | exact ⟨rfl, (bal (bal (bal (bal hb _) _) _) _)⟩ | exact ⟨rfl, (bal (bal (bal (bal (bal hb _) _) _) _) _)⟩
  · have k1' : (inB d 20 1000) = false := by simpa using k1
    have hv : coatV d t k = 0 := by unfold coatV; simp [*]
    have hc : coatC d t k = 2 := by unfold coatC; simp [*]
    rw [hv, hc]
    clear hv hc
    go_enter Try.func15, Try.ntmps15
    go_wp2_with (first | (go_at_call 56; refine (one64At _ _ _ _ _ _ (by simp) (by omega)).mono ?_; rintro e w' ⟨rfl, hb'⟩; first | have hb := bnext hb hb' | have hb := bnext (bal hb _) hb' | have hb := bnext (bal (bal hb _) _) hb' | have hb := bnext (bal (bal (bal hb _) _) _) hb' | have hb := bnext (bal (bal (bal (bal hb _) _) _) _) hb' | have hb := bnext (bal (bal (bal (bal (bal hb _) _) _) _) _) hb') | (go_at_call 57; refine (isThickness_any _ _).mono ?_; rintro e w' ⟨rfl, hb'⟩; first | have hb := bnext hb hb' | have hb := bnext (bal hb _) hb' | have hb := bnext (bal (bal hb _) _) hb' | have hb := bnext (bal (bal (bal hb _) _) _) hb' | have hb := bnext (bal (bal (bal (bal hb _) _) _) _) hb' | have hb := bnext (bal (bal (bal (bal (bal hb _) _) _) _) _) hb') | (go_at_call 58; refine (isConductivity_any _ _).mono ?_; rintro e w' ⟨rfl, hb'⟩; first | have hb := bnext hb hb' | have hb := bnext (bal hb _) hb' | have hb := bnext (bal (bal hb _) _) hb' | have hb := bnext (bal (bal (bal hb _) _) _) hb' | have hb := bnext (bal (bal (bal (bal hb _) _) _) _) hb' | have hb := bnext (bal (bal (bal (bal (bal hb _) _) _) _) _) hb') | (go_at_call 60; refine (HN.out _).mono ?_; rintro e w' ⟨rfl, hd'⟩; have hb' := Drawn.below hd'; first | have hb := bnext hb hb' | have hb := bnext (bal hb _) hb' | have hb := bnext (bal (bal hb _) _) hb' | have hb := bnext (bal (bal (bal hb _) _) _) hb' | have hb := bnext (bal (bal (bal (bal hb _) _) _) _) hb' | have hb := bnext (bal (bal (bal (bal (bal hb _) _) _) _) _) hb') | (go_at_call 59; refine (HC.out _).mono ?_; rintro e w' ⟨rfl, rfl⟩))
    go_ret2
    first | exact ⟨rfl, hb⟩ | exact ⟨rfl, (bal hb _)⟩ | exact ⟨rfl, (bal (bal hb _) _)⟩ | exact ⟨rfl, (bal (bal (bal hb _) _) _)⟩ | exact ⟨rfl, (bal (bal (bal (bal hb _) _) _) _)⟩ | exact ⟨rfl, (bal (bal (bal (bal (bal hb _) _) _) _) _)⟩

theorem implRangeLoss_any (id : ByteArray) (f t L d s : Int) (a c : Int) (w : World) (hs : id.size ≤ maxLen) : Calls Try.prog 19 #[.agg #[.string id, .int .i64 f, .int .i64 t, .int .i64 L, .int .i64 d, .int .i64 s], .int .i64 a, .int .i64 c] w fun e w' => e = .returned (.tuple #[.int .i64 (losV id f t L d s a c), .int .i64 (losC id f t L d s a c)]) ∧ Below w.heap.size w w' := by
  have hb : Below w.heap.size w (w.alloc (.cells #[.string id, .int .i64 f, .int .i64 t, .int .i64 L, .int .i64 d, .int .i64 s] 29)) := bal (Below.refl _ _) _
  have hp := PipeAt.new w id f t L d s 29
  have HL := Lib.hid (fun wx => implLossOf_any id f t L d s a c wx hs)
  have ⟨p0, p1, p2, p3, p4, p5⟩ := hp
  go_enter Try.func19, Try.ntmps19
  go_wp2_with fail
  refine (HL.out _).mono ?_
  rintro e w' ⟨rfl, hb'⟩
  have hb := bnext hb hb'
  go_wp2
  go_ret2
  exact ⟨rfl, hb⟩

set_option maxHeartbeats 3200000 in
theorem specRangeLoss_any (id : ByteArray) (f t L d s : Int) (a : Int) (c : Int) (w : World) (hs : id.size ≤ maxLen) : Calls Try.prog 17 #[.agg #[.string id, .int .i64 f, .int .i64 t, .int .i64 L, .int .i64 d, .int .i64 s], .int .i64 a, .int .i64 c] w fun e w' => e = .returned (.tuple #[.int .i64 (losV id f t L d s a c), .int .i64 (losC id f t L d s a c)]) ∧ Below w.heap.size w w' := by
  by_cases ho : okP id f t L d s = true
  · skip
    by_cases k1 : inB a (-5000) 20000 = true
    · skip
      by_cases k2 : inB c (-5000) 20000 = true
      · skip
        have hv : losV id f t L d s a c = lossI s L a c := by unfold losV; simp [*]
        have hc : losC id f t L d s a c = 0 := by unfold losC; simp [*]
        rw [hv, hc]
        clear hv hc
        obtain ⟨-, -, -, -, ⟨l0, l1⟩, ⟨d0, d1⟩, ⟨s0, s1⟩⟩ := okP_bd id f t L d s ho
        have ka := inB_iff.1 k1
        have kc := inB_iff.1 k2
        have HL := Lib.hid (fun wx => loses_any s L a c wx s0 s1 (by omega) l1 ka.1 ka.2 kc.1 kc.2)
        generalize lossI s L a c = r at *
        have hp := PipeAt.new w id f t L d s 29
        have hb : Below w.heap.size w (w.alloc (.cells #[.string id, .int .i64 f, .int .i64 t, .int .i64 L, .int .i64 d, .int .i64 s] 29)) := bal (Below.refl _ _) _
        have ⟨p0, p1, p2, p3, p4, p5⟩ := hp
        have HOK : Hid (∀ (b : Nat) wx, PipeAt wx b id f t L d s → Calls Try.prog 61 #[.pointer (some ⟨b, 0, none⟩)] wx fun e w' => e = .returned (.bool true) ∧ Drawn wx w') := Lib.hid fun b wx h => by
          have := l03Ok_any b id f t L d s wx h hs
          rw [ho] at this
          exact this
        go_enter Try.func17, Try.ntmps17
        go_wp2_with (first | (go_at_call 61; refine (HOK.out _ _ hp).mono ?_; rintro e w' ⟨rfl, hd'⟩; have hb' := Drawn.below hd'; first | (have hb := bnext hb hb'; have hp := PipeAt.next hp hb'; have ⟨p0, p1, p2, p3, p4, p5⟩ := hp) | (have hb := bnext (bal hb _) hb'; have hp := PipeAt.next (PipeAt.alloc hp _) hb'; have ⟨p0, p1, p2, p3, p4, p5⟩ := hp) | (have hb := bnext (bal (bal hb _) _) hb'; have hp := PipeAt.next (PipeAt.alloc (PipeAt.alloc hp _) _) hb'; have ⟨p0, p1, p2, p3, p4, p5⟩ := hp) | (have hb := bnext (bal (bal (bal hb _) _) _) hb'; have hp := PipeAt.next (PipeAt.alloc (PipeAt.alloc (PipeAt.alloc hp _) _) _) hb'; have ⟨p0, p1, p2, p3, p4, p5⟩ := hp)) | (go_at_call 62; refine (l03Degrees_any _ _).mono ?_; rintro e w' ⟨rfl, rfl⟩) | (go_at_call 63; refine (HL.out _).mono ?_; rintro e w' ⟨rfl, rfl⟩))
        go_ret2
        first | exact ⟨rfl, hb⟩ | exact ⟨rfl, (bal hb _)⟩ | exact ⟨rfl, (bal (bal hb _) _)⟩ | exact ⟨rfl, (bal (bal (bal hb _) _) _)⟩
      · have k2' : inB c (-5000) 20000 = false := by simpa using k2
        have hv : losV id f t L d s a c = 0 := by unfold losV; simp [*]
        have hc : losC id f t L d s a c = 2 := by unfold losC; simp [*]
        rw [hv, hc]
        clear hv hc
        have hp := PipeAt.new w id f t L d s 29
        have hb : Below w.heap.size w (w.alloc (.cells #[.string id, .int .i64 f, .int .i64 t, .int .i64 L, .int .i64 d, .int .i64 s] 29)) := bal (Below.refl _ _) _
        have ⟨p0, p1, p2, p3, p4, p5⟩ := hp
        have HOK : Hid (∀ (b : Nat) wx, PipeAt wx b id f t L d s → Calls Try.prog 61 #[.pointer (some ⟨b, 0, none⟩)] wx fun e w' => e = .returned (.bool true) ∧ Drawn wx w') := Lib.hid fun b wx h => by
          have := l03Ok_any b id f t L d s wx h hs
          rw [ho] at this
          exact this
        go_enter Try.func17, Try.ntmps17
        go_wp2_with (first | (go_at_call 61; refine (HOK.out _ _ hp).mono ?_; rintro e w' ⟨rfl, hd'⟩; have hb' := Drawn.below hd'; first | (have hb := bnext hb hb'; have hp := PipeAt.next hp hb'; have ⟨p0, p1, p2, p3, p4, p5⟩ := hp) | (have hb := bnext (bal hb _) hb'; have hp := PipeAt.next (PipeAt.alloc hp _) hb'; have ⟨p0, p1, p2, p3, p4, p5⟩ := hp) | (have hb := bnext (bal (bal hb _) _) hb'; have hp := PipeAt.next (PipeAt.alloc (PipeAt.alloc hp _) _) hb'; have ⟨p0, p1, p2, p3, p4, p5⟩ := hp) | (have hb := bnext (bal (bal (bal hb _) _) _) hb'; have hp := PipeAt.next (PipeAt.alloc (PipeAt.alloc (PipeAt.alloc hp _) _) _) hb'; have ⟨p0, p1, p2, p3, p4, p5⟩ := hp)) | (go_at_call 62; refine (l03Degrees_any _ _).mono ?_; rintro e w' ⟨rfl, rfl⟩))
        go_ret2
        first | exact ⟨rfl, hb⟩ | exact ⟨rfl, (bal hb _)⟩ | exact ⟨rfl, (bal (bal hb _) _)⟩ | exact ⟨rfl, (bal (bal (bal hb _) _) _)⟩
    · have k1' : inB a (-5000) 20000 = false := by simpa using k1
      have hv : losV id f t L d s a c = 0 := by unfold losV; simp [*]
      have hc : losC id f t L d s a c = 2 := by unfold losC; simp [*]
      rw [hv, hc]
      clear hv hc
      have hp := PipeAt.new w id f t L d s 29
      have hb : Below w.heap.size w (w.alloc (.cells #[.string id, .int .i64 f, .int .i64 t, .int .i64 L, .int .i64 d, .int .i64 s] 29)) := bal (Below.refl _ _) _
      have ⟨p0, p1, p2, p3, p4, p5⟩ := hp
      have HOK : Hid (∀ (b : Nat) wx, PipeAt wx b id f t L d s → Calls Try.prog 61 #[.pointer (some ⟨b, 0, none⟩)] wx fun e w' => e = .returned (.bool true) ∧ Drawn wx w') := Lib.hid fun b wx h => by
        have := l03Ok_any b id f t L d s wx h hs
        rw [ho] at this
        exact this
      go_enter Try.func17, Try.ntmps17
      go_wp2_with (first | (go_at_call 61; refine (HOK.out _ _ hp).mono ?_; rintro e w' ⟨rfl, hd'⟩; have hb' := Drawn.below hd'; first | (have hb := bnext hb hb'; have hp := PipeAt.next hp hb'; have ⟨p0, p1, p2, p3, p4, p5⟩ := hp) | (have hb := bnext (bal hb _) hb'; have hp := PipeAt.next (PipeAt.alloc hp _) hb'; have ⟨p0, p1, p2, p3, p4, p5⟩ := hp) | (have hb := bnext (bal (bal hb _) _) hb'; have hp := PipeAt.next (PipeAt.alloc (PipeAt.alloc hp _) _) hb'; have ⟨p0, p1, p2, p3, p4, p5⟩ := hp) | (have hb := bnext (bal (bal (bal hb _) _) _) hb'; have hp := PipeAt.next (PipeAt.alloc (PipeAt.alloc (PipeAt.alloc hp _) _) _) hb'; have ⟨p0, p1, p2, p3, p4, p5⟩ := hp)) | (go_at_call 62; refine (l03Degrees_any _ _).mono ?_; rintro e w' ⟨rfl, rfl⟩))
      go_ret2
      first | exact ⟨rfl, hb⟩ | exact ⟨rfl, (bal hb _)⟩ | exact ⟨rfl, (bal (bal hb _) _)⟩ | exact ⟨rfl, (bal (bal (bal hb _) _) _)⟩
  · have ho' : okP id f t L d s = false := by simpa using ho
    by_cases k1 : inB a (-5000) 20000 = true
    · skip
      by_cases k2 : inB c (-5000) 20000 = true
      · skip
        have hv : losV id f t L d s a c = 0 := by unfold losV; simp [*]
        have hc : losC id f t L d s a c = 1 := by unfold losC; simp [*]
        rw [hv, hc]
        clear hv hc
        have hp := PipeAt.new w id f t L d s 29
        have hb : Below w.heap.size w (w.alloc (.cells #[.string id, .int .i64 f, .int .i64 t, .int .i64 L, .int .i64 d, .int .i64 s] 29)) := bal (Below.refl _ _) _
        have ⟨p0, p1, p2, p3, p4, p5⟩ := hp
        have HOK : Hid (∀ (b : Nat) wx, PipeAt wx b id f t L d s → Calls Try.prog 61 #[.pointer (some ⟨b, 0, none⟩)] wx fun e w' => e = .returned (.bool false) ∧ Drawn wx w') := Lib.hid fun b wx h => by
          have := l03Ok_any b id f t L d s wx h hs
          rw [ho'] at this
          exact this
        go_enter Try.func17, Try.ntmps17
        go_wp2_with (first | (go_at_call 61; refine (HOK.out _ _ hp).mono ?_; rintro e w' ⟨rfl, hd'⟩; have hb' := Drawn.below hd'; first | (have hb := bnext hb hb'; have hp := PipeAt.next hp hb'; have ⟨p0, p1, p2, p3, p4, p5⟩ := hp) | (have hb := bnext (bal hb _) hb'; have hp := PipeAt.next (PipeAt.alloc hp _) hb'; have ⟨p0, p1, p2, p3, p4, p5⟩ := hp) | (have hb := bnext (bal (bal hb _) _) hb'; have hp := PipeAt.next (PipeAt.alloc (PipeAt.alloc hp _) _) hb'; have ⟨p0, p1, p2, p3, p4, p5⟩ := hp) | (have hb := bnext (bal (bal (bal hb _) _) _) hb'; have hp := PipeAt.next (PipeAt.alloc (PipeAt.alloc (PipeAt.alloc hp _) _) _) hb'; have ⟨p0, p1, p2, p3, p4, p5⟩ := hp)) | (go_at_call 62; refine (l03Degrees_any _ _).mono ?_; rintro e w' ⟨rfl, rfl⟩))
        go_ret2
        first | exact ⟨rfl, hb⟩ | exact ⟨rfl, (bal hb _)⟩ | exact ⟨rfl, (bal (bal hb _) _)⟩ | exact ⟨rfl, (bal (bal (bal hb _) _) _)⟩
      · have k2' : inB c (-5000) 20000 = false := by simpa using k2
        have hv : losV id f t L d s a c = 0 := by unfold losV; simp [*]
        have hc : losC id f t L d s a c = 1 := by unfold losC; simp [*]
        rw [hv, hc]
        clear hv hc
        have hp := PipeAt.new w id f t L d s 29
        have hb : Below w.heap.size w (w.alloc (.cells #[.string id, .int .i64 f, .int .i64 t, .int .i64 L, .int .i64 d, .int .i64 s] 29)) := bal (Below.refl _ _) _
        have ⟨p0, p1, p2, p3, p4, p5⟩ := hp
        have HOK : Hid (∀ (b : Nat) wx, PipeAt wx b id f t L d s → Calls Try.prog 61 #[.pointer (some ⟨b, 0, none⟩)] wx fun e w' => e = .returned (.bool false) ∧ Drawn wx w') := Lib.hid fun b wx h => by
          have := l03Ok_any b id f t L d s wx h hs
          rw [ho'] at this
          exact this
        go_enter Try.func17, Try.ntmps17
        go_wp2_with (first | (go_at_call 61; refine (HOK.out _ _ hp).mono ?_; rintro e w' ⟨rfl, hd'⟩; have hb' := Drawn.below hd'; first | (have hb := bnext hb hb'; have hp := PipeAt.next hp hb'; have ⟨p0, p1, p2, p3, p4, p5⟩ := hp) | (have hb := bnext (bal hb _) hb'; have hp := PipeAt.next (PipeAt.alloc hp _) hb'; have ⟨p0, p1, p2, p3, p4, p5⟩ := hp) | (have hb := bnext (bal (bal hb _) _) hb'; have hp := PipeAt.next (PipeAt.alloc (PipeAt.alloc hp _) _) hb'; have ⟨p0, p1, p2, p3, p4, p5⟩ := hp) | (have hb := bnext (bal (bal (bal hb _) _) _) hb'; have hp := PipeAt.next (PipeAt.alloc (PipeAt.alloc (PipeAt.alloc hp _) _) _) hb'; have ⟨p0, p1, p2, p3, p4, p5⟩ := hp)) | (go_at_call 62; refine (l03Degrees_any _ _).mono ?_; rintro e w' ⟨rfl, rfl⟩))
        go_ret2
        first | exact ⟨rfl, hb⟩ | exact ⟨rfl, (bal hb _)⟩ | exact ⟨rfl, (bal (bal hb _) _)⟩ | exact ⟨rfl, (bal (bal (bal hb _) _) _)⟩
    · have k1' : inB a (-5000) 20000 = false := by simpa using k1
      have hv : losV id f t L d s a c = 0 := by unfold losV; simp [*]
      have hc : losC id f t L d s a c = 1 := by unfold losC; simp [*]
      rw [hv, hc]
      clear hv hc
      have hp := PipeAt.new w id f t L d s 29
      have hb : Below w.heap.size w (w.alloc (.cells #[.string id, .int .i64 f, .int .i64 t, .int .i64 L, .int .i64 d, .int .i64 s] 29)) := bal (Below.refl _ _) _
      have ⟨p0, p1, p2, p3, p4, p5⟩ := hp
      have HOK : Hid (∀ (b : Nat) wx, PipeAt wx b id f t L d s → Calls Try.prog 61 #[.pointer (some ⟨b, 0, none⟩)] wx fun e w' => e = .returned (.bool false) ∧ Drawn wx w') := Lib.hid fun b wx h => by
        have := l03Ok_any b id f t L d s wx h hs
        rw [ho'] at this
        exact this
      go_enter Try.func17, Try.ntmps17
      go_wp2_with (first | (go_at_call 61; refine (HOK.out _ _ hp).mono ?_; rintro e w' ⟨rfl, hd'⟩; have hb' := Drawn.below hd'; first | (have hb := bnext hb hb'; have hp := PipeAt.next hp hb'; have ⟨p0, p1, p2, p3, p4, p5⟩ := hp) | (have hb := bnext (bal hb _) hb'; have hp := PipeAt.next (PipeAt.alloc hp _) hb'; have ⟨p0, p1, p2, p3, p4, p5⟩ := hp) | (have hb := bnext (bal (bal hb _) _) hb'; have hp := PipeAt.next (PipeAt.alloc (PipeAt.alloc hp _) _) hb'; have ⟨p0, p1, p2, p3, p4, p5⟩ := hp) | (have hb := bnext (bal (bal (bal hb _) _) _) hb'; have hp := PipeAt.next (PipeAt.alloc (PipeAt.alloc (PipeAt.alloc hp _) _) _) hb'; have ⟨p0, p1, p2, p3, p4, p5⟩ := hp)) | (go_at_call 62; refine (l03Degrees_any _ _).mono ?_; rintro e w' ⟨rfl, rfl⟩))
      go_ret2
      first | exact ⟨rfl, hb⟩ | exact ⟨rfl, (bal hb _)⟩ | exact ⟨rfl, (bal (bal hb _) _)⟩ | exact ⟨rfl, (bal (bal (bal hb _) _) _)⟩

end Go.Proofs.Ytgdafgnjaogmeaa
