/-
  UsedBetween.
-/
import Derived.Test.YthidaoemonjemabDoorMa9
import Derived.Test.YthidaoemonjemabDoorP2
namespace Go.Proofs.YthidaoemonjemabDoor
open Go.ChangeShapes Go.WideShapes Go.ChangeAt Go.RowKit

set_option maxRecDepth 100000
set_option maxHeartbeats 1600000
set_option linter.unusedVariables false

theorem lineI_bd9 (x0 y0 x1 y1 x : Int) (h0 : 0 ≤ x0 ∧ x0 ≤ 1048576) (h1 : 0 ≤ x1 ∧ x1 ≤ 1048576) (g0 : 0 ≤ y0 ∧ y0 ≤ 2147483648) (g1 : 0 ≤ y1 ∧ y1 ≤ 2147483648) : -36028797018963968 ≤ lineI x0 y0 x1 y1 x ∧ lineI x0 y0 x1 y1 x ≤ 36028797018963968 := by
  unfold lineI
  split
  · omega
  · split
    · omega
    · have hp := mul_bd (y1 - y0) (x - x0) 4294967296 2097152 (by omega) (by omega) (by omega) (by omega)
      have hn := nearI_bd ((y1 - y0) * (x - x0)) (x1 - x0) 9007199254740992 (by omega) (by omega) (by omega)
      omega
theorem atV_bd (xs : List Rg) (hour : Int) (ok : okRs xs = true) : -36028797018963968 ≤ atV xs hour ∧ atV xs hour ≤ 36028797018963968 := by
  unfold atV
  split
  · rename_i h
    have a := okRs_one ok _ h
    split
    · omega
    · split
      · omega
      · have b := okRs_one ok (posI xs hour - 1) (by omega)
        exact lineI_bd9 _ _ _ _ _ (by omega) (by omega) (by omega) (by omega)
  · omega
def usedC (xs : List Rg) (f u : Int) : Int := if okRs xs = true then (if u < f then 2 else if atB xs f = true ∧ atB xs u = true then 0 else 3) else 1
def usedBetweenR0 (xs : List Rg) (f u : Int) : Int := if usedC xs f u = 0 then atV xs u - atV xs f else 0
def usedBetweenR1 (xs : List Rg) (f u : Int) : Int := usedC xs f u
theorem used_zero {xs : List Rg} {f u : Int} (h : usedC xs f u ≠ 0) : usedBetweenR0 xs f u = 0 := by unfold usedBetweenR0; rw [if_neg h]
theorem specUsedBetween_ds (A : Option Addr) (n c : Nat) (xs : List Rg) (f u : Int) (w : World) (h : RgsOk w A n xs) :
    Calls Tryd.prog 17 #[.slice A n c, .int .i64 f, .int .i64 u] w fun e w' => e = .returned (.tuple #[.int .i64 (usedBetweenR0 xs f u), .int .i64 (usedBetweenR1 xs f u)]) ∧ Below w.heap.size w w' := by
  have HO := Lib.hid (l06Ok_any A n c xs w h)
  have HL := Lib.hid (fun (hour : Int) (wx : World) (hb : Below w.heap.size w wx) (ho : okRs xs = true) => l06At_any A n c xs hour wx (h.go hb) ho)
  clear h
  have HC : Hid (usedC xs f u = _) := Lib.hid (by unfold usedC; rfl)
  have HZ := Lib.hid (@used_zero xs f u)
  have HR0 : Hid (usedC xs f u = 0 → usedBetweenR0 xs f u = atV xs u - atV xs f) := Lib.hid (fun h => by unfold usedBetweenR0; rw [if_pos h])
  have HR1 : Hid (usedBetweenR1 xs f u = usedC xs f u) := Lib.hid rfl
  by_cases ho : okRs xs = true
  rotate_left
  · have ho : okRs xs = false := by simpa only [Bool.not_eq_true] using ho
    rw [ho, if_neg (by simp)] at HC
    rw [ho] at HO
    go_enter Tryd.func17, Tryd.ntmps17
    go_wp2_with fail
    refine HO.out.mono ?_
    rintro e w1 ⟨rfl, ⟨k, rfl⟩⟩
    go_wp2
    go_ret2
    exact ⟨by rw [HZ.out (by rw [HC.out]; decide), HR1.out, HC.out]; rfl, below_drewN (Below.refl _ _) k⟩
  have HL2 := Lib.hid (fun hour wx hb => HL.out hour wx hb ho)
  have hbv := atV_bd xs u ho
  have hbw := atV_bd xs f ho
  rw [ho, if_pos rfl] at HC
  rw [ho] at HO
  clear HL ho
  by_cases hlt : u < f
  · rw [if_pos hlt] at HC
    go_enter Tryd.func17, Tryd.ntmps17
    go_wp2_with fail
    refine HO.out.mono ?_
    rintro e w1 ⟨rfl, ⟨k, rfl⟩⟩
    go_wp2
    go_ret2
    exact ⟨by rw [HZ.out (by rw [HC.out]; decide), HR1.out, HC.out]; rfl, below_drewN (Below.refl _ _) k⟩
  rw [if_neg hlt] at HC
  have HF := Lib.hid (HL2.out f)
  have HU := Lib.hid (HL2.out u)
  clear HL2
  generalize hv : atV xs u = v at *
  generalize hx : atV xs f = x at *
  clear hv hx
  cases hf : atB xs f <;> cases hu : atB xs u
  all_goals
    rw [hf, hu] at HC
    rw [hf] at HF
    rw [hu] at HU
    clear hf hu
  · rw [if_neg (by simp)] at HC
    have tok : True := trivial
    go_enter Tryd.func17, Tryd.ntmps17
    go_wp2_with (first | (go_at_call 37; refine HO.out.mono ?_; rintro e w1 ⟨rfl, ⟨k, rfl⟩⟩; have HB1 : Hid (Below w.heap.size w (w.drewN k)) := Lib.hid (below_drewN (Below.refl _ _) k)) | (go_at_call 38; clear tok; refine (HF.out _ HB1.out).mono ?_; rintro e w2 ⟨rfl, hb2⟩; have HB2 := Lib.hid (bnext HB1.out hb2); clear hb2) | (go_at_call 38; refine (HU.out _ HB2.out).mono ?_; rintro e w3 ⟨rfl, hb3⟩; have HB3 := Lib.hid (bnext HB2.out hb3); clear hb3))
    go_ret2
    exact ⟨by rw [HZ.out (by rw [HC.out]; decide), HR1.out, HC.out]; rfl, HB3.out⟩
  · rw [if_neg (by simp)] at HC
    have tok : True := trivial
    go_enter Tryd.func17, Tryd.ntmps17
    go_wp2_with (first | (go_at_call 37; refine HO.out.mono ?_; rintro e w1 ⟨rfl, ⟨k, rfl⟩⟩; have HB1 : Hid (Below w.heap.size w (w.drewN k)) := Lib.hid (below_drewN (Below.refl _ _) k)) | (go_at_call 38; clear tok; refine (HF.out _ HB1.out).mono ?_; rintro e w2 ⟨rfl, hb2⟩; have HB2 := Lib.hid (bnext HB1.out hb2); clear hb2) | (go_at_call 38; refine (HU.out _ HB2.out).mono ?_; rintro e w3 ⟨rfl, hb3⟩; have HB3 := Lib.hid (bnext HB2.out hb3); clear hb3))
    go_ret2
    exact ⟨by rw [HZ.out (by rw [HC.out]; decide), HR1.out, HC.out]; rfl, HB3.out⟩
  · rw [if_neg (by simp)] at HC
    have tok : True := trivial
    go_enter Tryd.func17, Tryd.ntmps17
    go_wp2_with (first | (go_at_call 37; refine HO.out.mono ?_; rintro e w1 ⟨rfl, ⟨k, rfl⟩⟩; have HB1 : Hid (Below w.heap.size w (w.drewN k)) := Lib.hid (below_drewN (Below.refl _ _) k)) | (go_at_call 38; clear tok; refine (HF.out _ HB1.out).mono ?_; rintro e w2 ⟨rfl, hb2⟩; have HB2 := Lib.hid (bnext HB1.out hb2); clear hb2) | (go_at_call 38; refine (HU.out _ HB2.out).mono ?_; rintro e w3 ⟨rfl, hb3⟩; have HB3 := Lib.hid (bnext HB2.out hb3); clear hb3))
    go_ret2
    exact ⟨by rw [HZ.out (by rw [HC.out]; decide), HR1.out, HC.out]; rfl, HB3.out⟩
  · rw [if_pos ⟨rfl, rfl⟩] at HC
    have tok : True := trivial
    go_enter Tryd.func17, Tryd.ntmps17
    go_wp2_with (first | (go_at_call 37; refine HO.out.mono ?_; rintro e w1 ⟨rfl, ⟨k, rfl⟩⟩; have HB1 : Hid (Below w.heap.size w (w.drewN k)) := Lib.hid (below_drewN (Below.refl _ _) k)) | (go_at_call 38; clear tok; refine (HF.out _ HB1.out).mono ?_; rintro e w2 ⟨rfl, hb2⟩; have HB2 := Lib.hid (bnext HB1.out hb2); clear hb2) | (go_at_call 38; refine (HU.out _ HB2.out).mono ?_; rintro e w3 ⟨rfl, hb3⟩; have HB3 := Lib.hid (bnext HB2.out hb3); clear hb3))
    go_ret2
    exact ⟨by rw [HR0.out HC.out, HR1.out, HC.out]; rfl, HB3.out⟩
theorem implUsedBetween_ds (A : Option Addr) (n c : Nat) (xs : List Rg) (f u : Int) (a : Addr) (w : World) (h : RgsOk w A n xs) (ha : OutIs w a) :
    Calls Tryd.prog 19 #[.slice A n c, .int .i64 f, .int .i64 u] w fun e w' => e = .returned (.tuple #[.int .i64 (usedBetweenR0 xs f u), .int .i64 (usedBetweenR1 xs f u)]) ∧ Below w.heap.size w w' := by
  have HO := Lib.hid (implVR_any A n c xs w h)
  have HX := Lib.hid h
  have HA := Lib.hid ha
  have HC : Hid (usedC xs f u = _) := Lib.hid (by unfold usedC; rfl)
  have HZ := Lib.hid (@used_zero xs f u)
  have HR0 : Hid (usedC xs f u = 0 → usedBetweenR0 xs f u = atV xs u - atV xs f) := Lib.hid (fun h => by unfold usedBetweenR0; rw [if_pos h])
  have HR1 : Hid (usedBetweenR1 xs f u = usedC xs f u) := Lib.hid rfl
  clear h ha
  by_cases ho : okRs xs = true
  rotate_left
  · have ho : okRs xs = false := by simpa only [Bool.not_eq_true] using ho
    rw [ho, if_neg (by simp)] at HC
    rw [ho] at HO
    by_cases hlt : u < f
    · have hle : ¬ f ≤ u := by omega
      have HAC := Lib.hid (fun W (r : Bool) => show Calls Tryd.prog 40 #[.bool false, .bool r] W fun e w' => e = .returned (.int .i64 1) ∧ W = w' from argumentCode_any false r W)
      go_enter Tryd.func19, Tryd.ntmps19
      go_wp2_with (first | (go_at_call 41; refine HO.out.mono ?_; rintro e w1 ⟨rfl, hb1⟩; have HB1 := Lib.hid hb1; clear hb1) | (go_at_call 40; (first | refine (HAC.out _ _).mono ?_ | refine (HAC.out _).mono ?_); rintro e w' ⟨rfl, rfl⟩))
      go_ret2
      exact ⟨by rw [HZ.out (by rw [HC.out]; decide), HR1.out, HC.out]; rfl, HB1.out⟩
    · have hle : f ≤ u := by omega
      have HAC := Lib.hid (fun W (r : Bool) => show Calls Tryd.prog 40 #[.bool false, .bool r] W fun e w' => e = .returned (.int .i64 1) ∧ W = w' from argumentCode_any false r W)
      go_enter Tryd.func19, Tryd.ntmps19
      go_wp2_with (first | (go_at_call 41; refine HO.out.mono ?_; rintro e w1 ⟨rfl, hb1⟩; have HB1 := Lib.hid hb1; clear hb1) | (go_at_call 40; (first | refine (HAC.out _ _).mono ?_ | refine (HAC.out _).mono ?_); rintro e w' ⟨rfl, rfl⟩))
      go_ret2
      exact ⟨by rw [HZ.out (by rw [HC.out]; decide), HR1.out, HC.out]; rfl, HB1.out⟩
  have HE := Lib.hid (fun (hour : Int) (vb : Nat) (wx : World) (hb : Below w.heap.size w wx) (hv : One wx vb (.slice A n c)) => estimates1_any A n c xs hour vb a wx (HX.out.go hb) ho hv (HA.out.next hb))
  have hbv := atV_bd xs u ho
  have hbw := atV_bd xs f ho
  rw [ho, if_pos rfl] at HC
  rw [ho] at HO
  clear ho
  by_cases hlt : u < f
  · rw [if_pos hlt] at HC
    have hle : ¬ f ≤ u := by omega
    have HAC := Lib.hid (fun W => by have h := argumentCode_any true (decide (f ≤ u)) W; rw [show argC true (decide (f ≤ u)) = 2 by unfold argC; simp [hle]] at h; exact h)
    go_enter Tryd.func19, Tryd.ntmps19
    go_wp2_with (first | (go_at_call 41; refine HO.out.mono ?_; rintro e w1 ⟨rfl, hb1⟩; have HB1 := Lib.hid hb1; clear hb1) | (go_at_call 40; (first | refine (HAC.out _ _).mono ?_ | refine (HAC.out _).mono ?_); rintro e w' ⟨rfl, rfl⟩))
    go_ret2
    exact ⟨by rw [HZ.out (by rw [HC.out]; decide), HR1.out, HC.out]; rfl, HB1.out⟩
  rw [if_neg hlt] at HC
  have hle : f ≤ u := by omega
  have HAC := Lib.hid (fun W => by have h := argumentCode_any true true W; rw [show argC true true = 0 from rfl] at h; exact h)
  have eg : ∀ args w, (callFunc 71 args).run Tryd.prog w = .ok (.enter 71 args) w := enters_of Tryd.func71 (by kernel_rfl) rfl
  unfold RetE at HE
  have HE1 := Lib.hid (HE.out f)
  have HE2 := Lib.hid (HE.out u)
  clear HE hlt
  generalize hv : atV xs u = v at *
  generalize hx : atV xs f = x at *
  clear hv hx
  cases hf : atB xs f
  · rw [hf, if_neg (by simp)] at HC
    simp only [hf, if_false, Bool.false_eq_true] at HE1
    clear hf
    go_enter Tryd.func19, Tryd.ntmps19
    go_wp2_with (first | (go_at_call 41; refine HO.out.mono ?_; rintro e w1 ⟨rfl, hb1⟩; have HB1 := Lib.hid hb1; clear hb1) | (go_at_call 40; (first | refine (HAC.out _ _).mono ?_ | refine (HAC.out _).mono ?_); rintro e w' ⟨rfl, rfl⟩) | (go_at_call 42; refine (estimates_any A n c _).mono ?_; rintro e w2 ⟨rfl, hone, hb2⟩; have HB2 := Lib.hid (bnext HB1.out hb2); have HON := Lib.hid hone; clear hone hb2) | (go_at_fn 71; refine (HE1.out _ _ HB2.out HON.out).mono ?_; rintro e w3 ⟨rfl, hb3⟩; have HB3 := Lib.hid (bnext HB2.out hb3); have HON3 := Lib.hid (HON.out.next hb3); clear hb3 HE1) | (go_at_call 43; refine (estimateCode_out a _ (HA.out.next HB3.out)).mono ?_; rintro e w5 ⟨rfl, rfl⟩))
    go_ret2
    exact ⟨by rw [HZ.out (by rw [HC.out]; decide), HR1.out, HC.out]; rfl, HB3.out⟩
  cases hu : atB xs u
  · rw [hf, hu, if_neg (by simp)] at HC
    simp only [hf, if_true] at HE1
    simp only [hu, if_false, Bool.false_eq_true] at HE2
    clear hf hu
    have tok : True := trivial
    go_enter Tryd.func19, Tryd.ntmps19
    go_wp2_with (first | (go_at_call 41; refine HO.out.mono ?_; rintro e w1 ⟨rfl, hb1⟩; have HB1 := Lib.hid hb1; clear hb1) | (go_at_call 40; (first | refine (HAC.out _ _).mono ?_ | refine (HAC.out _).mono ?_); rintro e w' ⟨rfl, rfl⟩) | (go_at_call 42; refine (estimates_any A n c _).mono ?_; rintro e w2 ⟨rfl, hone, hb2⟩; have HB2 := Lib.hid (bnext HB1.out hb2); have HON := Lib.hid hone; clear hone hb2) | (clear tok; (go_at_fn 71; refine (HE1.out _ _ HB2.out HON.out).mono ?_; rintro e w3 ⟨rfl, hb3⟩; have HB3 := Lib.hid (bnext HB2.out hb3); have HON3 := Lib.hid (HON.out.next hb3); clear hb3 HE1)) | (go_at_fn 71; refine (HE2.out _ _ HB3.out HON3.out).mono ?_; rintro e w4 ⟨rfl, hb4⟩; have HB4 := Lib.hid (bnext HB3.out hb4); clear hb4) | (go_at_call 43; refine (estimateCode_out a _ (HA.out.next HB4.out)).mono ?_; rintro e w5 ⟨rfl, rfl⟩))
    go_ret2
    exact ⟨by rw [HZ.out (by rw [HC.out]; decide), HR1.out, HC.out]; rfl, HB4.out⟩
  · rw [hf, hu, if_pos ⟨rfl, rfl⟩] at HC
    simp only [hf, if_true] at HE1
    simp only [hu, if_true] at HE2
    clear hf hu
    have tok : True := trivial
    go_enter Tryd.func19, Tryd.ntmps19
    go_wp2_with (first | (go_at_call 41; refine HO.out.mono ?_; rintro e w1 ⟨rfl, hb1⟩; have HB1 := Lib.hid hb1; clear hb1) | (go_at_call 40; (first | refine (HAC.out _ _).mono ?_ | refine (HAC.out _).mono ?_); rintro e w' ⟨rfl, rfl⟩) | (go_at_call 42; refine (estimates_any A n c _).mono ?_; rintro e w2 ⟨rfl, hone, hb2⟩; have HB2 := Lib.hid (bnext HB1.out hb2); have HON := Lib.hid hone; clear hone hb2) | (clear tok; (go_at_fn 71; refine (HE1.out _ _ HB2.out HON.out).mono ?_; rintro e w3 ⟨rfl, hb3⟩; have HB3 := Lib.hid (bnext HB2.out hb3); have HON3 := Lib.hid (HON.out.next hb3); clear hb3 HE1)) | (go_at_fn 71; refine (HE2.out _ _ HB3.out HON3.out).mono ?_; rintro e w4 ⟨rfl, hb4⟩; have HB4 := Lib.hid (bnext HB3.out hb4); clear hb4))
    go_ret2
    exact ⟨by rw [HR0.out HC.out, HR1.out, HC.out]; rfl, HB4.out⟩

end Go.Proofs.YthidaoemonjemabDoor
