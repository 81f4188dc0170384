/-
  HeadAt and ElectricPower: both sides.
-/
import Derived.Test.YtkbkmpcdidhagabPu5
namespace Go.Proofs.Ytkbkmpcdidhagab
open Go.ChangeShapes Go.WideShapes Go.ChangeAt Go.RowKit

set_option maxRecDepth 100000
set_option linter.unusedVariables false

def headAtR0 (d : PmD) (q : Int) : Int := if okPu d = true then (if inB q 0 100000 = true then headI (crv d.cv) q else 0) else 0
def headAtR1 (d : PmD) (q : Int) : Int := argC (okPu d) (inB q 0 100000)
/-- the power of a pump -/
def elP (d : PmD) (q e : Int) : Int := nearI (headI (crv d.cv) q * q) (1000 * e)
def electricPowerR0 (d : PmD) (q e : Int) : Int := if okPu d = true then (if (inB q 0 100000 && inB e 1 1000) = true then elP d q e else 0) else 0
def electricPowerR1 (d : PmD) (q e : Int) : Int := argC (okPu d) (inB q 0 100000 && inB e 1 1000)
theorem nearI_scale (a b : Int) (ha : 0 ≤ a) (hb : 0 < b) : nearI (a * 1000) (b * 1000) = nearI a b := by
  rw [nearI_pos _ _ (by omega), nearI_pos _ _ hb, if_neg (by omega), if_neg (by omega)]
  rw [show 2 * (a * 1000) + b * 1000 = (2 * a + b) * 1000 by omega, show 2 * (b * 1000) = (2 * b) * 1000 by omega]
  exact Int.mul_ediv_mul_of_pos_left _ _ (by omega)

theorem specHeadAt_ds (x : Pm) (q : Int) (w : World) (h : x.okay w) :
    Calls Try.prog 20 #[.agg #[.string x.d.id, .slice x.cvA x.d.cv.length x.cvc], .int .i64 q] w fun e w' => e = .returned (.tuple #[.int .i64 (headAtR0 x.d q), .int .i64 (headAtR1 x.d q)]) ∧ Below w.heap.size w w' := by
  have hb : Below w.heap.size w (w.alloc (.cells #[.string x.d.id, .slice x.cvA x.d.cv.length x.cvc] 27)) := bal (Below.refl _ _) _
  have hO := PmO.new w x 27
  have HO := Lib.hid hO
  have HC := Lib.hid (l08Ok_any w.heap.size x _ hO (h.go hb))
  have HHD := Lib.hid (fun k q (hv : okPu x.d = true) => l08Head_any w.heap.size x q ((w.alloc (.cells #[.string x.d.id, .slice x.cvA x.d.cv.length x.cvc] 27)).drewN k) (hO.next (below_drewN (Below.refl _ _) k)) ((h.go hb).go (below_drewN (Below.refl _ _) k)) hv)
  have ⟨n0, n1⟩ := hO
  clear h hO
  by_cases ho : okPu x.d = true
  rotate_left
  · have ho' : okPu x.d = false := by simpa only [Bool.not_eq_true] using ho
    have HV : Hid (headAtR0 x.d q = 0 ∧ headAtR1 x.d q = 1) := Lib.hid ⟨by unfold headAtR0; rw [if_neg ho], by unfold headAtR1; rw [ho']; rfl⟩
    rw [ho'] at HC
    clear ho ho'
    go_enter Try.func20, Try.ntmps20
    go_wp2_with fail
    refine HC.out.mono ?_
    rintro e w1 ⟨rfl, ⟨k, rfl⟩⟩
    go_wp2
    go_ret2
    exact ⟨by rw [HV.out.1, HV.out.2]; rfl, below_drewN hb _⟩
  rw [ho] at HC
  by_cases h0 : inB q 0 100000 = true
  rotate_left
  · have h0' : inB q 0 100000 = false := by simpa only [Bool.not_eq_true] using h0
    have HV : Hid (headAtR0 x.d q = 0 ∧ headAtR1 x.d q = 2) := Lib.hid ⟨by unfold headAtR0; rw [if_pos ho, if_neg (by simp [h0'])], by unfold headAtR1; simp [argC, ho, h0']⟩
    go_enter Try.func20, Try.ntmps20
    go_wp2_with fail
    refine HC.out.mono ?_
    rintro e w1 ⟨rfl, ⟨k, rfl⟩⟩
    go_wp2_with fail
    refine (l02Flow_any q _).mono ?_
    rintro e w2 ⟨rfl, rfl⟩
    rw [h0']
    go_wp2
    go_ret2
    exact ⟨by rw [HV.out.1, HV.out.2]; rfl, below_drewN hb _⟩
  have HV : Hid (headAtR0 x.d q = headI (crv x.d.cv) q ∧ headAtR1 x.d q = 0) := Lib.hid ⟨by unfold headAtR0; rw [if_pos ho, if_pos (by simp [h0])], by unfold headAtR1; rw [ho, h0]; rfl⟩
  go_enter Try.func20, Try.ntmps20
  go_wp2_with fail
  refine HC.out.mono ?_
  rintro e w1 ⟨rfl, ⟨k, rfl⟩⟩
  go_wp2_with fail
  refine (l02Flow_any q _).mono ?_
  rintro e w2 ⟨rfl, rfl⟩
  rw [h0]
  go_wp2_with fail
  refine (HHD.out _ q ho).mono ?_
  rintro e w3 ⟨rfl, ⟨k3, rfl⟩⟩
  go_wp2
  go_ret2
  exact ⟨by rw [HV.out.1, HV.out.2]; rfl, by first | exact below_drewN hb _ | exact below_drewN (below_drewN hb _) _⟩

theorem implHeadAt_ds (x : Pm) (q : Int) (w : World) (h : x.okay w) :
    Calls Try.prog 21 #[.agg #[.string x.d.id, .slice x.cvA x.d.cv.length x.cvc], .int .i64 q] w fun e w' => e = .returned (.tuple #[.int .i64 (headAtR0 x.d q), .int .i64 (headAtR1 x.d q)]) ∧ Below w.heap.size w w' := by
  have hb : Below w.heap.size w (w.alloc (.cells #[.string x.d.id, .slice x.cvA x.d.cv.length x.cvc] 27)) := bal (Below.refl _ _) _
  have hN := PmO.new w x 27
  have HC := Lib.hid (newPump_any x (w.alloc (.cells #[.string x.d.id, .slice x.cvA x.d.cv.length x.cvc] 27)) (h.go hb))
  have HOP : Hid (okPu x.d = (nameL x.d.id.data.toList && okC (crv x.d.cv))) := Lib.hid (by unfold okPu; rw [okC_crv])
  have hcl : (crv x.d.cv).length ≤ 1048576 := Nat.le_trans (crv_length _) h.2.1
  have hsz := h.1.1
  have ⟨n0, n1⟩ := hN
  clear h hN
  go_enter Try.func21, Try.ntmps21
  go_wp2_with fail
  refine HC.out.mono ?_
  rintro e w1 ⟨b, B, dd, rfl, hO, hown, -, -, hb1⟩
  have HPT := Lib.hid (RetPump.pts hown hcl)
  have hb := bnext hb hb1
  have HO := Lib.hid hO
  have HIV := Lib.hid (fun wx (hbx : Below w1.heap.size w1 wx) => isValidPump_any b x.d.id B dd (crv x.d.cv) wx (HO.out.next hbx) (HPT.out.go hbx) hsz)
  rw [← HOP.out] at HIV
  clear hO hown hb1
  go_wp2_with fail
  refine (HIV.out _ (Below.refl _ _)).mono ?_
  rintro e w2 ⟨rfl, hb2⟩
  have hb := bnext hb hb2
  go_wp2_with fail
  refine (isPumped_any q _).mono ?_
  rintro e w3 ⟨rfl, hb3⟩
  have hb := bnext hb hb3
  have hb23 := bnext hb2 hb3
  go_wp2_with fail
  refine (argumentCode_any _ _ _).mono ?_
  rintro e w4 ⟨rfl, rfl⟩
  by_cases ho : okPu x.d = true
  rotate_left
  · have ho' : okPu x.d = false := by simpa only [Bool.not_eq_true] using ho
    have HV : Hid (headAtR0 x.d q = 0 ∧ headAtR1 x.d q = 1) := Lib.hid ⟨by unfold headAtR0; rw [if_neg ho], by unfold headAtR1; rw [ho']; rfl⟩
    have hc : argC (okPu x.d) (inB q 0 100000) = 1 := by rw [ho']; rfl
    rw [hc]
    clear ho ho' hc
    go_wp2
    go_ret2
    exact ⟨by rw [HV.out.1, HV.out.2]; rfl, hb⟩
  by_cases h1 : inB q 0 100000 = true
  rotate_left
  · have h1' : inB q 0 100000 = false := by simpa only [Bool.not_eq_true] using h1
    have HV : Hid (headAtR0 x.d q = 0 ∧ headAtR1 x.d q = 2) := Lib.hid ⟨by unfold headAtR0; rw [if_pos ho, if_neg h1], by unfold headAtR1; rw [ho, h1']; rfl⟩
    have hc : argC (okPu x.d) (inB q 0 100000) = 2 := by rw [ho, h1']; rfl
    rw [hc]
    clear ho h1 h1' hc
    go_wp2
    go_ret2
    exact ⟨by rw [HV.out.1, HV.out.2]; rfl, hb⟩
  have hc : argC (okPu x.d) (inB q 0 100000) = 0 := by rw [ho, h1]; rfl
  have HV : Hid (headAtR0 x.d q = headI (crv x.d.cv) q ∧ headAtR1 x.d q = 0) := Lib.hid ⟨by unfold headAtR0; rw [if_pos ho, if_pos h1], by unfold headAtR1; rw [ho, h1]; rfl⟩
  have HHD := Lib.hid (pmpHead_any b x.d.id B dd (crv x.d.cv) q w3 (HO.out.next hb23) (HPT.out.go hb23) (okPu_parts ho).2.1)
  rw [hc]
  clear hc ho h1
  go_wp2_with fail
  refine HHD.out.mono ?_
  rintro e w5 ⟨rfl, hb5⟩
  go_wp2
  go_ret2
  exact ⟨by rw [HV.out.1, HV.out.2]; rfl, bnext hb hb5⟩

theorem specElectricPower_ds (x : Pm) (q e : Int) (w : World) (h : x.okay w) :
    Calls Try.prog 32 #[.agg #[.string x.d.id, .slice x.cvA x.d.cv.length x.cvc], .int .i64 q, .int .i64 e] w fun e' w' => e' = .returned (.tuple #[.int .i64 (electricPowerR0 x.d q e), .int .i64 (electricPowerR1 x.d q e)]) ∧ Below w.heap.size w w' := by
  have hb : Below w.heap.size w (w.alloc (.cells #[.string x.d.id, .slice x.cvA x.d.cv.length x.cvc] 27)) := bal (Below.refl _ _) _
  have hO := PmO.new w x 27
  have HO := Lib.hid hO
  have HC := Lib.hid (l08Ok_any w.heap.size x _ hO (h.go hb))
  have HHD := Lib.hid (fun k q (hv : okPu x.d = true) => l08Head_any w.heap.size x q ((w.alloc (.cells #[.string x.d.id, .slice x.cvA x.d.cv.length x.cvc] 27)).drewN k) (hO.next (below_drewN (Below.refl _ _) k)) ((h.go hb).go (below_drewN (Below.refl _ _) k)) hv)
  have ⟨n0, n1⟩ := hO
  clear h hO
  by_cases ho : okPu x.d = true
  rotate_left
  · have ho' : okPu x.d = false := by simpa only [Bool.not_eq_true] using ho
    have HV : Hid (electricPowerR0 x.d q e = 0 ∧ electricPowerR1 x.d q e = 1) := Lib.hid ⟨by unfold electricPowerR0; rw [if_neg ho], by unfold electricPowerR1; rw [ho']; rfl⟩
    rw [ho'] at HC
    clear ho ho'
    go_enter Try.func32, Try.ntmps32
    go_wp2_with fail
    refine HC.out.mono ?_
    rintro e' w1 ⟨rfl, ⟨k, rfl⟩⟩
    go_wp2
    go_ret2
    exact ⟨by rw [HV.out.1, HV.out.2]; rfl, below_drewN hb _⟩
  rw [ho] at HC
  by_cases h0 : inB q 0 100000 = true
  rotate_left
  · have h0' : inB q 0 100000 = false := by simpa only [Bool.not_eq_true] using h0
    have HV : Hid (electricPowerR0 x.d q e = 0 ∧ electricPowerR1 x.d q e = 2) := Lib.hid ⟨by unfold electricPowerR0; rw [if_pos ho, if_neg (by simp [h0'])], by unfold electricPowerR1; simp [argC, ho, h0']⟩
    go_enter Try.func32, Try.ntmps32
    go_wp2_with fail
    refine HC.out.mono ?_
    rintro e' w1 ⟨rfl, ⟨k, rfl⟩⟩
    go_wp2_with fail
    refine (l02Flow_any q _).mono ?_
    rintro e' w2 ⟨rfl, rfl⟩
    rw [h0']
    go_wp2
    go_ret2
    exact ⟨by rw [HV.out.1, HV.out.2]; rfl, below_drewN hb _⟩
  by_cases h1 : inB e 1 1000 = true
  rotate_left
  · have h1' : inB e 1 1000 = false := by simpa only [Bool.not_eq_true] using h1
    have HV : Hid (electricPowerR0 x.d q e = 0 ∧ electricPowerR1 x.d q e = 2) := Lib.hid ⟨by unfold electricPowerR0; rw [if_pos ho, if_neg (by simp [h0, h1'])], by unfold electricPowerR1; simp [argC, ho, h0, h1']⟩
    go_enter Try.func32, Try.ntmps32
    go_wp2_with fail
    refine HC.out.mono ?_
    rintro e' w1 ⟨rfl, ⟨k, rfl⟩⟩
    go_wp2_with fail
    refine (l02Flow_any q _).mono ?_
    rintro e' w2 ⟨rfl, rfl⟩
    rw [h0]
    go_wp2_with fail
    refine (in_any e 1 1000 _).mono ?_
    rintro e' w2 ⟨rfl, rfl⟩
    rw [h1']
    go_wp2
    go_ret2
    exact ⟨by rw [HV.out.1, HV.out.2]; rfl, below_drewN hb _⟩
  have HV : Hid (electricPowerR0 x.d q e = elP x.d q e ∧ electricPowerR1 x.d q e = 0) := Lib.hid ⟨by unfold electricPowerR0; rw [if_pos ho, if_pos (by simp [h0, h1])], by unfold electricPowerR1; rw [ho, h0, h1]; rfl⟩
  have hq := inB_iff.1 h0
  have he := inB_iff.1 h1
  have hbd := head_bd (okPu_parts ho).2.1 q
  have hm0 : 0 ≤ headI (crv x.d.cv) q * q := Int.mul_nonneg hbd.1 hq.1
  have hm1 : headI (crv x.d.cv) q * q ≤ 2000000 * 100000 := Int.mul_le_mul hbd.2 hq.2 hq.1 (by omega)
  have HDV := Lib.hid (fun wx => l01Div_any (headI (crv x.d.cv) q * q) (1000 * e) wx (by omega) (by omega) (by omega) (by omega) (by omega))
  have HE : Hid (elP x.d q e = nearI (headI (crv x.d.cv) q * q) (1000 * e)) := Lib.hid rfl
  have HHQ := Lib.hid (fun k => HHD.out k q ho)
  clear HHD
  generalize headI (crv x.d.cv) q = z at *
  obtain ⟨m1, e1⟩ : ∃ m, z * q = m := ⟨_, rfl⟩
  rw [e1] at hm0 hm1 HDV HE
  go_enter Try.func32, Try.ntmps32
  go_wp2_with fail
  refine HC.out.mono ?_
  rintro e' w1 ⟨rfl, ⟨k, rfl⟩⟩
  go_wp2_with fail
  refine (l02Flow_any q _).mono ?_
  rintro e' w2 ⟨rfl, rfl⟩
  rw [h0]
  go_wp2_with fail
  refine (in_any e 1 1000 _).mono ?_
  rintro e' w2 ⟨rfl, rfl⟩
  rw [h1]
  go_wp2_with fail
  refine (HHQ.out _).mono ?_
  rintro e' w3 ⟨rfl, ⟨k3, rfl⟩⟩
  go_wp2_with fail
  refine (HDV.out _).mono ?_
  rintro e' w4 ⟨rfl, rfl⟩
  go_wp2
  go_ret2
  exact ⟨by rw [HV.out.1, HV.out.2, HE.out]; rfl, by first | exact below_drewN hb _ | exact below_drewN (below_drewN hb _) _⟩

theorem implElectricPower_ds (x : Pm) (q e : Int) (w : World) (h : x.okay w) :
    Calls Try.prog 33 #[.agg #[.string x.d.id, .slice x.cvA x.d.cv.length x.cvc], .int .i64 q, .int .i64 e] w fun e' w' => e' = .returned (.tuple #[.int .i64 (electricPowerR0 x.d q e), .int .i64 (electricPowerR1 x.d q e)]) ∧ Below w.heap.size w w' := by
  have hb : Below w.heap.size w (w.alloc (.cells #[.string x.d.id, .slice x.cvA x.d.cv.length x.cvc] 27)) := bal (Below.refl _ _) _
  have hN := PmO.new w x 27
  have HC := Lib.hid (newPump_any x (w.alloc (.cells #[.string x.d.id, .slice x.cvA x.d.cv.length x.cvc] 27)) (h.go hb))
  have HOP : Hid (okPu x.d = (nameL x.d.id.data.toList && okC (crv x.d.cv))) := Lib.hid (by unfold okPu; rw [okC_crv])
  have hcl : (crv x.d.cv).length ≤ 1048576 := Nat.le_trans (crv_length _) h.2.1
  have hsz := h.1.1
  have ⟨n0, n1⟩ := hN
  clear h hN
  go_enter Try.func33, Try.ntmps33
  go_wp2_with fail
  refine HC.out.mono ?_
  rintro e' w1 ⟨b, B, dd, rfl, hO, hown, -, -, hb1⟩
  have HPT := Lib.hid (RetPump.pts hown hcl)
  have hb := bnext hb hb1
  have HO := Lib.hid hO
  have HIV := Lib.hid (fun wx (hbx : Below w1.heap.size w1 wx) => isValidPump_any b x.d.id B dd (crv x.d.cv) wx (HO.out.next hbx) (HPT.out.go hbx) hsz)
  rw [← HOP.out] at HIV
  clear hO hown hb1
  go_wp2_with fail
  refine (HIV.out _ (Below.refl _ _)).mono ?_
  rintro e' w2 ⟨rfl, hb2⟩
  have hb := bnext hb hb2
  go_wp2_with fail
  refine (isPumped_any q _).mono ?_
  rintro e' w3 ⟨rfl, hb3⟩
  have hb := bnext hb hb3
  have hb23 := bnext hb2 hb3
  have HSE : Hid (electricPowerR1 x.d q e = argC (okPu x.d) (inB q 0 100000 && inB e 1 1000)) := Lib.hid rfl
  by_cases h0 : inB q 0 100000 = true
  rotate_left
  · have h0' : inB q 0 100000 = false := by simpa only [Bool.not_eq_true] using h0
    rw [h0']
    have HAC := Lib.hid (fun wx => argumentCode_any (okPu x.d) false wx)
    go_wp2_with fail
    refine (HAC.out _).mono ?_
    rintro e' w4 ⟨rfl, rfl⟩
    by_cases ho : okPu x.d = true
    · have HV : Hid (electricPowerR0 x.d q e = 0 ∧ electricPowerR1 x.d q e = 2) := Lib.hid ⟨by unfold electricPowerR0; rw [if_pos ho, if_neg (by simp [h0'])], by rw [HSE.out, ho, h0']; rfl⟩
      have hc : argC (okPu x.d) false = 2 := by rw [ho]; rfl
      rw [hc]
      clear ho hc h0 h0'
      go_wp2
      go_ret2
      exact ⟨by rw [HV.out.1, HV.out.2]; rfl, hb⟩
    · have ho' : okPu x.d = false := by simpa only [Bool.not_eq_true] using ho
      have HV : Hid (electricPowerR0 x.d q e = 0 ∧ electricPowerR1 x.d q e = 1) := Lib.hid ⟨by unfold electricPowerR0; rw [if_neg ho], by rw [HSE.out, ho']; rfl⟩
      have hc : argC (okPu x.d) false = 1 := by rw [ho']; rfl
      rw [hc]
      clear ho ho' hc h0 h0'
      go_wp2
      go_ret2
      exact ⟨by rw [HV.out.1, HV.out.2]; rfl, hb⟩
  rw [h0]
  go_wp2_with fail
  refine (one64Free _ 1 1000 _ _ _ (by simp)).mono ?_
  rintro e' w5 ⟨rfl, hb5⟩
  have hb := bnext hb hb5
  have hb23 := bnext hb23 hb5
  go_wp2_with fail
  refine (argumentCode_any _ _ _).mono ?_
  rintro e' w4 ⟨rfl, rfl⟩
  by_cases ho : okPu x.d = true
  rotate_left
  · have ho' : okPu x.d = false := by simpa only [Bool.not_eq_true] using ho
    have HV : Hid (electricPowerR0 x.d q e = 0 ∧ electricPowerR1 x.d q e = 1) := Lib.hid ⟨by unfold electricPowerR0; rw [if_neg ho], by rw [HSE.out, ho']; rfl⟩
    have hc : argC (okPu x.d) (inB e 1 1000) = 1 := by rw [ho']; rfl
    rw [hc]
    clear ho ho' hc
    go_wp2
    go_ret2
    exact ⟨by rw [HV.out.1, HV.out.2]; rfl, hb⟩
  by_cases h1 : inB e 1 1000 = true
  rotate_left
  · have h1' : inB e 1 1000 = false := by simpa only [Bool.not_eq_true] using h1
    have HV : Hid (electricPowerR0 x.d q e = 0 ∧ electricPowerR1 x.d q e = 2) := Lib.hid ⟨by unfold electricPowerR0; rw [if_pos ho, if_neg (by simp [h1'])], by rw [HSE.out, ho, h0, h1']; rfl⟩
    have hc : argC (okPu x.d) (inB e 1 1000) = 2 := by rw [ho, h1']; rfl
    rw [hc]
    clear ho h1 h1' hc
    go_wp2
    go_ret2
    exact ⟨by rw [HV.out.1, HV.out.2]; rfl, hb⟩
  have hc : argC (okPu x.d) (inB e 1 1000) = 0 := by rw [ho, h1]; rfl
  have HV : Hid (electricPowerR0 x.d q e = elP x.d q e ∧ electricPowerR1 x.d q e = 0) := Lib.hid ⟨by unfold electricPowerR0; rw [if_pos ho, if_pos (by simp [h0, h1])], by rw [HSE.out, ho, h0, h1]; rfl⟩
  have HHD := Lib.hid (pmpHead_any b x.d.id B dd (crv x.d.cv) q w5 (HO.out.next hb23) (HPT.out.go hb23) (okPu_parts ho).2.1)
  rw [hc]
  have hq := inB_iff.1 h0
  have he := inB_iff.1 h1
  have hbd := head_bd (okPu_parts ho).2.1 q
  have hm0 : 0 ≤ headI (crv x.d.cv) q * q := Int.mul_nonneg hbd.1 hq.1
  have hm1 : headI (crv x.d.cv) q * q ≤ 2000000 * 100000 := Int.mul_le_mul hbd.2 hq.2 hq.1 (by omega)
  have HE : Hid (elP x.d q e = nearI (headI (crv x.d.cv) q * q * 1000) (1000000 * e)) := Lib.hid (by
    rw [show 1000000 * e = (1000 * e) * 1000 by omega, nearI_scale _ _ hm0 (by omega)]; rfl)
  have HNR := Lib.hid (fun wx => nearest_any (headI (crv x.d.cv) q * q * 1000) (1000000 * e) wx (by omega) (by omega) (by omega) (by omega) (by omega))
  clear hc ho
  generalize headI (crv x.d.cv) q = z at *
  obtain ⟨m1, e1⟩ : ∃ m, z * q = m := ⟨_, rfl⟩
  rw [e1] at hm0 hm1 HE HNR
  clear h0 h1
  go_wp2_with fail
  refine HHD.out.mono ?_
  rintro e' w6 ⟨rfl, hb6⟩
  go_wp2_with fail
  refine (HNR.out _).mono ?_
  rintro e' w7 ⟨rfl, ⟨k7, rfl⟩⟩
  go_wp2
  go_ret2
  exact ⟨by rw [HV.out.1, HV.out.2, HE.out]; rfl, below_drewN (bnext hb hb6) _⟩

end Go.Proofs.Ytkbkmpcdidhagab
