/-
  The head that a system needs for a flow: both sides.
-/
import Derived.Test.YtkbkmpcdidhagabA2
import Derived.Test.YtkbkmpcdidhagabA4
import Derived.Test.YtkbkmpcdidhagabW0
import Derived.Test.YtkbkmpcdidhagabW3
import Derived.Test.YtkbkmpcdidhagabB6
import Derived.Test.YtkbkmpcdidhagabP2
import Derived.Test.YtkbkmpcdidhagabGs
import Derived.Deep.QuietTactic
import Derived.Deep.RegionHeld3
namespace Go.Proofs.Ytkbkmpcdidhagab
open Go.ChangeShapes Go.WideShapes Go.ChangeAt Go.RowKit

set_option maxRecDepth 100000
set_option linter.unusedVariables false

theorem isPumped_any (n : Int) (w : World) : Calls Try.prog 57 #[.int .i64 n] w fun e w' => e = .returned (.bool (inB n 0 100000)) ∧ Below w.heap.size w w' := by
  have hb : Below w.heap.size w w := Below.refl _ _
  go_enter Try.func57, Try.ntmps57
  go_wp2_with ((go_at_call 67; refine (one64At _ _ _ _ _ _ (by simp) (by omega)).mono ?_; rintro e w' ⟨rfl, hb'⟩; first | have hb := bnext hb hb' | have hb := bnext (bal hb _) hb' | have hb := bnext (bal (bal hb _) _) hb' | have hb := bnext (bal (bal (bal hb _) _) _) hb' | have hb := bnext (bal (bal (bal (bal hb _) _) _) _) hb' | have hb := bnext (bal (bal (bal (bal (bal hb _) _) _) _) _) hb'))
  go_ret
  first | exact ⟨rfl, hb⟩ | exact ⟨rfl, (bal hb _)⟩ | exact ⟨rfl, (bal (bal hb _) _)⟩ | exact ⟨rfl, (bal (bal (bal hb _) _) _)⟩ | exact ⟨rfl, (bal (bal (bal (bal hb _) _) _) _)⟩ | exact ⟨rfl, (bal (bal (bal (bal (bal hb _) _) _) _) _)⟩

def sysOk (s c : Int) : Bool := inB s 0 2000000 && inB c 0 100000000
/-- the head that a system needs -/
def needI (s c q : Int) : Int := s + nearI (c * q * q) 10000000000
theorem cqq_bd {c q : Int} (hc : inB c 0 100000000 = true) (hq : inB q 0 100000 = true) : 0 ≤ c * q ∧ c * q ≤ 10000000000000 ∧ 0 ≤ c * q * q ∧ c * q * q ≤ 1000000000000000000 := by
  have h1 := inB_iff.1 hc
  have h2 := inB_iff.1 hq
  have a0 : 0 ≤ c * q := Int.mul_nonneg h1.1 h2.1
  have a1 : c * q ≤ 100000000 * 100000 := Int.mul_le_mul h1.2 h2.2 h2.1 (by omega)
  have b0 : 0 ≤ c * q * q := Int.mul_nonneg a0 h2.1
  have b1 : c * q * q ≤ (100000000 * 100000) * 100000 := Int.mul_le_mul a1 h2.2 h2.1 (by omega)
  exact ⟨a0, by omega, b0, by omega⟩
theorem need_bd {s c q : Int} (hs : sysOk s c = true) (hq : inB q 0 100000 = true) : 0 ≤ needI s c q ∧ needI s c q ≤ 102000000 := by
  unfold sysOk at hs
  simp only [Bool.and_eq_true] at hs
  have h1 := inB_iff.1 hs.1
  obtain ⟨-, -, h2, h3⟩ := cqq_bd hs.2 hq
  unfold needI
  have h4 := nearI_nonneg (c * q * q) 10000000000 (by omega) h2
  have h5 := nearI_mono (c * q * q) (100000000 * 10000000000) 10000000000 (by omega) (by omega)
  rw [nearI_whole 100000000 10000000000 (by omega)] at h5
  omega

theorem l08System_any (s c : Int) (w : World) :
    Calls Try.prog 59 #[.int .i64 s, .int .i64 c] w fun e w' => e = .returned (.bool (sysOk s c)) ∧ w = w' := by
  by_cases h0 : inB s 0 2000000 = true
  rotate_left
  · have h0 : inB s 0 2000000 = false := by simpa only [Bool.not_eq_true] using h0
    have HV : Hid (sysOk s c = false) := Lib.hid (by unfold sysOk; rw [h0]; rfl)
    go_enter Try.func59, Try.ntmps59
    go_wp2_with ((go_at_call 75; refine (in_any _ _ _ _).mono ?_; rintro e w' ⟨rfl, rfl⟩))
    go_ret
    exact ⟨by rw [HV.out]; rfl, rfl⟩
  have HV : Hid (sysOk s c = inB c 0 100000000) := Lib.hid (by unfold sysOk; rw [h0]; rfl)
  go_enter Try.func59, Try.ntmps59
  go_wp2_with ((go_at_call 75; refine (in_any _ _ _ _).mono ?_; rintro e w' ⟨rfl, rfl⟩))
  go_ret
  exact ⟨by rw [HV.out]; rfl, rfl⟩
theorem l08Needs_any (s c q : Int) (w : World) (hs : sysOk s c = true) (hq : inB q 0 100000 = true) :
    Calls Try.prog 60 #[.int .i64 s, .int .i64 c, .int .i64 q] w fun e w' => e = .returned (.int .i64 (needI s c q)) ∧ w = w' := by
  have hs' := hs
  unfold sysOk at hs'
  simp only [Bool.and_eq_true] at hs'
  obtain ⟨a0, a1, a2, a3⟩ := cqq_bd hs'.2 hq
  have a4 := inB_iff.1 hs'.1
  have hnd := need_bd hs hq
  unfold needI at hnd
  have HN := Lib.hid (show needI s c q = s + nearI (c * q * q) 10000000000 from rfl)
  have HC := Lib.hid (fun wx => l01Div_any (c * q * q) 10000000000 wx (by omega) (by omega) (by omega) (by omega) (by omega))
  generalize nearI (c * q * q) 10000000000 = z at *
  clear hs hs' hq
  go_enter Try.func60, Try.ntmps60
  go_wp2_with fail
  refine (HC.out _).mono ?_
  rintro e w1 ⟨rfl, rfl⟩
  go_wp2
  go_ret
  exact ⟨by rw [HN.out]; rfl, rfl⟩
def systemHeadR0 (s c q : Int) : Int := if sysOk s c && inB q 0 100000 then needI s c q else 0
def systemHeadR1 (s c q : Int) : Int := if sysOk s c && inB q 0 100000 then 0 else 2
theorem specSystemHead_ds (s c q : Int) (w : World) :
    Calls Try.prog 22 #[.int .i64 s, .int .i64 c, .int .i64 q] w fun e w' => e = .returned (.tuple #[.int .i64 (systemHeadR0 s c q), .int .i64 (systemHeadR1 s c q)]) ∧ Below w.heap.size w w' := by
  by_cases hs : sysOk s c = true
  rotate_left
  · have hs : sysOk s c = false := by simpa only [Bool.not_eq_true] using hs
    have HV : Hid (systemHeadR0 s c q = 0 ∧ systemHeadR1 s c q = 2) := Lib.hid ⟨by unfold systemHeadR0; rw [hs]; rfl, by unfold systemHeadR1; rw [hs]; rfl⟩
    go_enter Try.func22, Try.ntmps22
    go_wp2_with fail
    refine (l08System_any s c _).mono ?_
    rintro e w1 ⟨rfl, rfl⟩
    rw [hs]
    go_wp2
    go_ret2
    exact ⟨by rw [HV.out.1, HV.out.2]; rfl, Below.refl _ _⟩
  by_cases hq : inB q 0 100000 = true
  rotate_left
  · have hq : inB q 0 100000 = false := by simpa only [Bool.not_eq_true] using hq
    have HV : Hid (systemHeadR0 s c q = 0 ∧ systemHeadR1 s c q = 2) := Lib.hid ⟨by unfold systemHeadR0; rw [hs, hq]; rfl, by unfold systemHeadR1; rw [hs, hq]; rfl⟩
    go_enter Try.func22, Try.ntmps22
    go_wp2_with fail
    refine (l08System_any s c _).mono ?_
    rintro e w1 ⟨rfl, rfl⟩
    rw [hs]
    go_wp2_with fail
    refine (l02Flow_any q _).mono ?_
    rintro e w1 ⟨rfl, rfl⟩
    rw [hq]
    go_wp2
    go_ret2
    exact ⟨by rw [HV.out.1, HV.out.2]; rfl, Below.refl _ _⟩
  have HV : Hid (systemHeadR0 s c q = needI s c q ∧ systemHeadR1 s c q = 0) := Lib.hid ⟨by unfold systemHeadR0; rw [hs, hq]; rfl, by unfold systemHeadR1; rw [hs, hq]; rfl⟩
  have HN := Lib.hid (fun wx => l08Needs_any s c q wx hs hq)
  go_enter Try.func22, Try.ntmps22
  go_wp2_with fail
  refine (l08System_any s c _).mono ?_
  rintro e w1 ⟨rfl, rfl⟩
  rw [hs]
  go_wp2_with fail
  refine (l02Flow_any q _).mono ?_
  rintro e w1 ⟨rfl, rfl⟩
  rw [hq]
  go_wp2_with fail
  refine (HN.out _).mono ?_
  rintro e w1 ⟨rfl, rfl⟩
  go_wp2
  go_ret2
  exact ⟨by rw [HV.out.1, HV.out.2]; rfl, Below.refl _ _⟩

def SysO (w : World) (b : Nat) (s c : Int) : Prop := w.cell? ⟨b, 0, none⟩ = some (.int .i64 s) ∧ w.cell? ⟨b, 1, none⟩ = some (.int .i64 c)
theorem SysO.next {w w' : World} {b : Nat} {s c : Int} (h : SysO w b s c) (hb : Below w.heap.size w w') : SysO w' b s c :=
  ⟨(hb.cell (p := ⟨b, 0, none⟩) (World.block_lt_of_cell? _ _ h.1)).trans h.1, (hb.cell (p := ⟨b, 1, none⟩) (World.block_lt_of_cell? _ _ h.2)).trans h.2⟩
theorem SysO.new (w : World) (s c : Int) (T : TypeId) : SysO (w.alloc (.cells #[.int .i64 s, .int .i64 c] T)) w.heap.size s c := by unfold SysO; simp
theorem sysStated_any (s c : Int) (w : World) :
    Calls Try.prog 61 #[.agg #[.int .i64 s, .int .i64 c]] w fun e w' => e = .returned (.bool (sysOk s c)) ∧ Below w.heap.size w w' := by
  have hb : Below w.heap.size w (w.alloc (.cells #[.int .i64 s, .int .i64 c] 76)) := bal (Below.refl _ _) _
  have hN := SysO.new w s c 76
  have ⟨p0, p1⟩ := hN
  go_enter Try.func61, Try.ntmps61
  go_wp2_with fail
  refine (one64Free _ 0 2000000 _ _ _ (by simp)).mono ?_
  rintro e w' ⟨rfl, hb'⟩
  have hN := hN.next hb'
  have hb := bnext hb hb'
  clear p0 p1 hb'
  have ⟨p0, p1⟩ := hN
  by_cases h0 : inB s 0 2000000 = true
  rotate_left
  · have h0 : inB s 0 2000000 = false := by simpa only [Bool.not_eq_true] using h0
    have HV : Hid (sysOk s c = false) := Lib.hid (by unfold sysOk; rw [h0]; rfl)
    rw [h0]
    go_wp2
    go_ret
    exact ⟨by rw [HV.out]; rfl, hb⟩
  have HV : Hid (sysOk s c = inB c 0 100000000) := Lib.hid (by unfold sysOk; rw [h0]; rfl)
  rw [h0]
  go_wp2_with fail
  refine (one64Free _ 0 100000000 _ _ _ (by simp)).mono ?_
  rintro e w' ⟨rfl, hb'⟩
  have hb := bnext hb hb'
  go_wp2
  go_ret
  exact ⟨by rw [HV.out]; rfl, hb⟩

theorem sysHead_any (s c q : Int) (w : World) (hs : sysOk s c = true) (hq : inB q 0 100000 = true) :
    Calls Try.prog 62 #[.agg #[.int .i64 s, .int .i64 c], .int .i64 q] w fun e w' => e = .returned (.int .i64 (needI s c q)) ∧ Below w.heap.size w w' := by
  have hs' := hs
  unfold sysOk at hs'
  simp only [Bool.and_eq_true] at hs'
  obtain ⟨a0, a1, a2, a3⟩ := cqq_bd hs'.2 hq
  have a4 := inB_iff.1 hs'.1
  have hnd := need_bd hs hq
  unfold needI at hnd
  have HN := Lib.hid (show needI s c q = s + nearI (c * q * q) 10000000000 from rfl)
  have HC := Lib.hid (fun wx => nearest_any (c * q * q) 10000000000 wx (by omega) (by omega) (by omega) (by omega) (by omega))
  generalize nearI (c * q * q) 10000000000 = z at *
  obtain ⟨m1, e1⟩ : ∃ m, c * q = m := ⟨_, rfl⟩
  rw [e1] at a0 a1 a2 a3
  rw [e1] at HC
  obtain ⟨m2, e2⟩ : ∃ m, m1 * q = m := ⟨_, rfl⟩
  rw [e2] at a2 a3
  rw [e2] at HC
  clear hs hs' hq
  have hb : Below w.heap.size w (w.alloc (.cells #[.int .i64 s, .int .i64 c] 76)) := bal (Below.refl _ _) _
  have ⟨p0, p1⟩ := SysO.new w s c 76
  go_enter Try.func62, Try.ntmps62
  go_wp2
  go_quiet ((go_at_call 77; exact quiet_drawn (HC.out _)))
  go_wp2
  go_ret
  exact ⟨by rw [HN.out]; rfl, below_drewN hb _⟩
theorem implSystemHead_ds (s c q : Int) (w : World) :
    Calls Try.prog 23 #[.int .i64 s, .int .i64 c, .int .i64 q] w fun e w' => e = .returned (.tuple #[.int .i64 (systemHeadR0 s c q), .int .i64 (systemHeadR1 s c q)]) ∧ Below w.heap.size w w' := by
  have hN := SysO.new w s c 76
  have hb : Below w.heap.size w (w.alloc (.cells #[.int .i64 s, .int .i64 c] 76)) := bal (Below.refl _ _) _
  have ⟨p0, p1⟩ := hN
  by_cases hs : sysOk s c = true
  rotate_left
  · have hs : sysOk s c = false := by simpa only [Bool.not_eq_true] using hs
    have HV : Hid (systemHeadR0 s c q = 0 ∧ systemHeadR1 s c q = 2) := Lib.hid ⟨by unfold systemHeadR0; rw [hs]; rfl, by unfold systemHeadR1; rw [hs]; rfl⟩
    go_enter Try.func23, Try.ntmps23
    go_wp2_with fail
    refine (sysStated_any s c _).mono ?_
    rintro e w1 ⟨rfl, hb1⟩
    have hb := bnext hb hb1
    rw [hs]
    go_wp2
    go_ret2
    exact ⟨by rw [HV.out.1, HV.out.2]; rfl, hb⟩
  by_cases hq : inB q 0 100000 = true
  rotate_left
  · have hq : inB q 0 100000 = false := by simpa only [Bool.not_eq_true] using hq
    have HV : Hid (systemHeadR0 s c q = 0 ∧ systemHeadR1 s c q = 2) := Lib.hid ⟨by unfold systemHeadR0; rw [hs, hq]; rfl, by unfold systemHeadR1; rw [hs, hq]; rfl⟩
    go_enter Try.func23, Try.ntmps23
    go_wp2_with fail
    refine (sysStated_any s c _).mono ?_
    rintro e w1 ⟨rfl, hb1⟩
    have hb := bnext hb hb1
    rw [hs]
    go_wp2_with fail
    refine (isPumped_any q _).mono ?_
    rintro e w2 ⟨rfl, hb2⟩
    have hb := bnext hb hb2
    rw [hq]
    go_wp2
    go_ret2
    exact ⟨by rw [HV.out.1, HV.out.2]; rfl, hb⟩
  have HV : Hid (systemHeadR0 s c q = needI s c q ∧ systemHeadR1 s c q = 0) := Lib.hid ⟨by unfold systemHeadR0; rw [hs, hq]; rfl, by unfold systemHeadR1; rw [hs, hq]; rfl⟩
  have HN := Lib.hid (fun wx => sysHead_any s c q wx hs hq)
  go_enter Try.func23, Try.ntmps23
  go_wp2_with fail
  refine (sysStated_any s c _).mono ?_
  rintro e w1 ⟨rfl, hb1⟩
  have hb := bnext hb hb1
  have hN := hN.next hb1
  clear p0 p1
  have ⟨p0, p1⟩ := hN
  rw [hs]
  go_wp2_with fail
  refine (isPumped_any q _).mono ?_
  rintro e w2 ⟨rfl, hb2⟩
  have hb := bnext hb hb2
  have hN := hN.next hb2
  clear p0 p1
  have ⟨p0, p1⟩ := hN
  rw [hq]
  go_wp2_with fail
  refine (HN.out _).mono ?_
  rintro e w3 ⟨rfl, hb3⟩
  have hb := bnext hb hb3
  go_wp2
  go_ret2
  exact ⟨by rw [HV.out.1, HV.out.2]; rfl, hb⟩
end Go.Proofs.Ytkbkmpcdidhagab
