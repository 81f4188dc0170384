/-
  LeastSpeed of the model.
-/
import Derived.Test.YtkbkmpcdidhagabPv1
import Derived.Test.YtkbkmpcdidhagabPv2
namespace Go.Proofs.Ytkbkmpcdidhagab
open Go.ChangeShapes Go.WideShapes Go.ChangeAt Go.RowKit Go.Shelf

set_option maxRecDepth 100000
set_option maxHeartbeats 1600000
set_option linter.unusedVariables false

theorem crv_sl {d : PmD} {th : Int} (h : okPu d = true) : crv (slD d th).cv = slC d th := by
  obtain ⟨-, -, hc, h2⟩ := okPu_parts h
  unfold slC
  rw [hc]
  have e : crv (slD d th).cv = (slD d th).cv.map toPt := by
    unfold crv
    rw [if_pos]
    show (d.cv.map (slZ th)).all _ = true
    rw [List.all_map, List.all_eq_true]
    intro z _
    rfl
  rw [e]
  show (d.cv.map (slZ th)).map toPt = _
  rw [List.map_map, List.map_map]
  rfl
theorem okPu_sl {d : PmD} {th : Int} (h : okPu d = true) : okPu (slD d th) = okSl d th := by
  unfold okPu okSl
  rw [← okC_crv, crv_sl h]
  rfl
theorem specLeastSpeed_ds (x : Pm) (s c q : Int) (w : World) (h : x.okay w) :
    Calls Try.prog 34 #[.agg #[.string x.d.id, .slice x.cvA x.d.cv.length x.cvc], .int .i64 s, .int .i64 c, .int .i64 q] w fun e w' => e = .returned (.tuple #[.int .i64 (leastSpeedR0 x.d s c q), .int .i64 (leastSpeedR1 x.d s c q)]) ∧ Below w.heap.size w w' := by
  have hb : Below w.heap.size w (w.alloc (.cells #[.string x.d.id, .slice x.cvA x.d.cv.length x.cvc] 27)) := bal (Below.refl _ _) _
  have hO := PmO.new w x 27
  have HC := Lib.hid (l08Ok_any w.heap.size x _ hO (h.go hb))
  have HX := Lib.hid (fun wx (hbx : Below w.heap.size w wx) => h.go hbx)
  have HO := Lib.hid hO
  have ⟨n0, n1⟩ := hO
  clear h hO
  by_cases ho : okPu x.d = true
  rotate_left
  · have ho' : okPu x.d = false := by simpa only [Bool.not_eq_true] using ho
    have HV : Hid (leastSpeedR0 x.d s c q = 0 ∧ leastSpeedR1 x.d s c q = 1) := Lib.hid ⟨by unfold leastSpeedR0; rw [if_neg ho], by unfold leastSpeedR1; rw [if_neg ho]⟩
    rw [ho'] at HC
    clear ho ho'
    go_enter Try.func34, Try.ntmps34
    go_wp2_with fail
    refine HC.out.mono ?_
    rintro e w1 ⟨rfl, ⟨k, rfl⟩⟩
    go_wp2
    go_ret2
    exact ⟨by rw [HV.out.1, HV.out.2]; rfl, below_drewN hb _⟩
  rw [ho] at HC
  have HY := Lib.hid (fun e => l08System_any s c e)
  have HF := Lib.hid (fun e => l02Flow_any q e)
  by_cases hz : (sysOk s c && inB q 0 100000) = true
  rotate_left
  · have HV : Hid (leastSpeedR0 x.d s c q = 0 ∧ leastSpeedR1 x.d s c q = 2) := Lib.hid ⟨by unfold leastSpeedR0; rw [if_pos ho, if_neg hz], by unfold leastSpeedR1; rw [if_pos ho, if_neg hz]⟩
    have hz' : (sysOk s c && inB q 0 100000) = false := by simpa only [Bool.not_eq_true] using hz
    generalize sysOk s c = bt at *
    generalize inB q 0 100000 = bu at *
    clear ho hz
    cases bt
    · clear hz'
      go_enter Try.func34, Try.ntmps34
      go_wp2_with fail
      refine HC.out.mono ?_
      rintro e w1 ⟨rfl, ⟨k, rfl⟩⟩
      go_wp2_with fail
      refine (HY.out _).mono ?_
      rintro e w2 ⟨rfl, rfl⟩
      go_wp2
      go_ret2
      exact ⟨by rw [HV.out.1, HV.out.2]; rfl, below_drewN hb _⟩
    · have hbu : bu = false := by simpa using hz'
      subst hbu
      clear hz'
      go_enter Try.func34, Try.ntmps34
      go_wp2_with fail
      refine HC.out.mono ?_
      rintro e w1 ⟨rfl, ⟨k, rfl⟩⟩
      go_wp2_with fail
      refine (HY.out _).mono ?_
      rintro e w2 ⟨rfl, rfl⟩
      go_wp2_with fail
      refine (HF.out _).mono ?_
      rintro e w2 ⟨rfl, rfl⟩
      go_wp2
      go_ret2
      exact ⟨by rw [HV.out.1, HV.out.2]; rfl, below_drewN hb _⟩
  have HZ := Lib.hid hz
  have HBO := Lib.hid ho
  have hz2 := hz
  rw [Bool.and_eq_true] at hz2
  rw [hz2.1] at HY
  rw [hz2.2] at HF
  have HN := Lib.hid (fun e => l08Needs_any s c q e hz2.1 hz2.2)
  have hnd := need_bd hz2.1 hz2.2
  have HND : Hid (∀ k, spF x.d s c q k = (okSl x.d (100 + (k : Int)) && decide (needI s c q ≤ headI (slC x.d (100 + (k : Int))) q))) := Lib.hid fun _ => rfl
  have HSP : Hid (∀ k : Nat, k < 1101 → (∀ j, j < k → spF x.d s c q j = false) → spF x.d s c q k = true → leastSpeedR0 x.d s c q = 100 + (k : Int) ∧ leastSpeedR1 x.d s c q = 0) := Lib.hid fun k hk hj h => least_some HBO.out HZ.out hk h hj
  have HNE : Hid ((∀ j, j < 1101 → spF x.d s c q j = false) → leastSpeedR0 x.d s c q = 0 ∧ leastSpeedR1 x.d s c q = 3) := Lib.hid fun hj => least_none HBO.out HZ.out hj
  generalize needI s c q = nd at *
  clear ho hz hz2
  go_enter Try.func34, Try.ntmps34
  go_wp2_with fail
  refine HC.out.mono ?_
  rintro e w1 ⟨rfl, ⟨k0, rfl⟩⟩
  go_wp2_with fail
  refine (HY.out _).mono ?_
  rintro e w2 ⟨rfl, rfl⟩
  go_wp2_with fail
  refine (HF.out _).mono ?_
  rintro e w2 ⟨rfl, rfl⟩
  go_wp2_with fail
  refine (HN.out _).mono ?_
  rintro e w2 ⟨rfl, rfl⟩
  have HO2 := Lib.hid (HO.out.next (below_drewN (Below.refl _ _) k0))
  have HB2 := Lib.hid (below_drewN hb k0)
  clear hb
  go_wp2_with fail
  go_loopw [11] (fun v wr => ∃ k : Nat, k ≤ 1101 ∧ v = .int .i64 (100 + (k : Int)) ∧ Hid (∀ j, j < k → spF x.d s c q j = false) ∧ Below w.heap.size w wr ∧ PmO wr w.heap.size 0 x) (fun v _ => 1101 - (intOf v - 100).toNat)
  case atStart => exact ⟨0, by omega, rfl, Lib.hid (fun j hj => absurd hj (Nat.not_lt_zero _)), HB2.out, HO2.out⟩
  case round =>
    obtain ⟨k, hk, rfl, Hno, hb, hP⟩ := hrel
    by_cases hlt : k < 1101
    · have hle : (100 : Int) + (k : Int) ≤ 1200 := by omega
      have hth : (100 : Int) ≤ 100 + (k : Int) ∧ (100 : Int) + (k : Int) ≤ 1200 := by omega
      have HSL := Lib.hid (l08Slow_any w.heap.size x (100 + (k : Int)) wr hP (HX.out wr hb) HBO.out hth)
      have HYES := Lib.hid (HSP.out k hlt Hno.out)
      have HS := Lib.hid (HND.out k)
      have HNO : Hid (spF x.d s c q k = false → ∀ j, j < k + 1 → spF x.d s c q j = false) := Lib.hid fun h j hj => by
        by_cases e : j = k
        · rw [e]; exact h
        · exact Hno.out j (by omega)
      have HOS : Hid (okPu (slD x.d (100 + (k : Int))) = okSl x.d (100 + (k : Int))) := Lib.hid (okPu_sl HBO.out)
      have HCS : Hid (crv (slD x.d (100 + (k : Int))).cv = slC x.d (100 + (k : Int))) := Lib.hid (crv_sl HBO.out)
      have HBB := Lib.hid hb
      have HPP := Lib.hid hP
      generalize spF x.d s c q k = sp at *
      clear hb hP
      go_wp2_with fail
      refine HSL.out.mono ?_
      rintro e w3 ⟨y, hy, rfl, hyo, hb3⟩
      have hO3 := PmO.new w3 y 27
      have hb4 : Below w3.heap.size w3 (w3.alloc (.cells #[.string y.d.id, .slice y.cvA y.d.cv.length y.cvc] 27)) := bal (Below.refl _ _) _
      have HK := Lib.hid (l08Ok_any w3.heap.size y _ hO3 (hyo.go hb4))
      have HH0 := Lib.hid (fun k (hv : okPu y.d = true) => l08Head_any w3.heap.size y q ((w3.alloc (.cells #[.string y.d.id, .slice y.cvA y.d.cv.length y.cvc] 27)).drewN k) (hO3.next (below_drewN (Below.refl _ _) k)) ((hyo.go hb4).go (below_drewN (Below.refl _ _) k)) hv)
      have HYD := Lib.hid hy
      have hbb := bnext (bnext HBB.out hb3) hb4
      have hpp := (HPP.out.next hb3).next hb4
      have HRB := Lib.hid (fun k => below_drewN hbb k)
      have HRP := Lib.hid (fun k => hpp.next (below_drewN (Below.refl _ _) k))
      have ⟨m0, m1⟩ := hO3
      clear hyo hb3 hb4 hO3 hy hbb hpp
      cases hos : okSl x.d (100 + (k : Int))
      · have hoy : okPu y.d = false := by rw [HYD.out, HOS.out, hos]
        rw [hoy] at HK
        have hsf : sp = false := by rw [HS.out, hos]; rfl
        have HNX := Lib.hid (HNO.out hsf)
        clear hos hoy hsf HNO HYES HS
        go_wp2_with fail
        refine HK.out.mono ?_
        rintro e w5 ⟨rfl, ⟨k5, rfl⟩⟩
        go_wp2
        go_roundw
        case rel => exact ⟨k + 1, by omega, by go_num, HNX, HRB.out _, HRP.out _⟩
        case measure => simp [intOf]; omega
      · have hoy : okPu y.d = true := by rw [HYD.out, HOS.out, hos]
        have HHD := Lib.hid (fun k => HH0.out k hoy)
        have hbd := head_bd (okPu_parts hoy).2.1 q
        have hcy : crv y.d.cv = slC x.d (100 + (k : Int)) := by rw [HYD.out, HCS.out]
        rw [hoy] at HK
        rw [hcy] at HHD hbd
        rw [hos] at HS
        generalize headI (slC x.d (100 + (k : Int))) q = hd at *
        clear hos hoy hcy HH0
        by_cases hge : nd ≤ hd
        · have hst : sp = true := by rw [HS.out]; simp [hge]
          have HW := Lib.hid (HYES.out hst)
          clear hst HYES HNO HS
          go_wp2_with fail
          refine HK.out.mono ?_
          rintro e w5 ⟨rfl, ⟨k5, rfl⟩⟩
          go_wp2_with fail
          refine (HHD.out _).mono ?_
          rintro e w6 ⟨rfl, ⟨k6, rfl⟩⟩
          go_wp2
          go_ret2
          exact ⟨by rw [HW.out.1, HW.out.2]; rfl, by first | exact HRB.out _ | exact below_drewN (HRB.out _) _⟩
        · have hsf : sp = false := by rw [HS.out]; simp; omega
          have HNX := Lib.hid (HNO.out hsf)
          clear hsf HYES HNO HS
          go_wp2_with fail
          refine HK.out.mono ?_
          rintro e w5 ⟨rfl, ⟨k5, rfl⟩⟩
          go_wp2_with fail
          refine (HHD.out _).mono ?_
          rintro e w6 ⟨rfl, ⟨k6, rfl⟩⟩
          go_wp2
          go_roundw
          case rel => exact ⟨k + 1, by omega, by go_num, HNX, by first | exact HRB.out _ | exact below_drewN (HRB.out _) _, by first | exact HRP.out _ | exact (HRP.out _).next (below_drewN (Below.refl _ _) _)⟩
          case measure => simp [intOf]; omega
    · obtain rfl : k = 1101 := by omega
      have HW := Lib.hid (HNE.out Hno.out)
      clear Hno
      go_wp2
      go_ret2
      exact ⟨by rw [HW.out.1, HW.out.2]; rfl, hb⟩

end Go.Proofs.Ytkbkmpcdidhagab
