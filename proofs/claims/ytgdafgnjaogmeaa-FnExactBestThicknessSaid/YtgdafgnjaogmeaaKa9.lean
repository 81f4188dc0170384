/-
  BestThickness of the model.
-/
import Derived.Test.YtgdafgnjaogmeaaKa8
namespace Go.Proofs.Ytgdafgnjaogmeaa
open Go.ChangeShapes Go.WideShapes Go.ChangeAt Go.RowKit Go.Shelf
set_option linter.unusedSimpArgs false
set_option maxRecDepth 100000
set_option maxHeartbeats 6400000
set_option linter.unusedVariables false


set_option maxHeartbeats 6400000 in
theorem specBestThickness_any (id : ByteArray) (f t L d s : Int) (k c h y a g : Int) (w : World) (hs : id.size ≤ maxLen) : Calls Try.prog 36 #[.agg #[.string id, .int .i64 f, .int .i64 t, .int .i64 L, .int .i64 d, .int .i64 s], .int .i64 k, .int .i64 c, .int .i64 h, .int .i64 y, .int .i64 a, .int .i64 g] w fun e w' => e = .returned (.tuple #[.int .i64 (btV id f t L d s k c h y a g), .int .i64 (btW id f t L d s k c h y a g), .int .i64 (btC id f t L d s k c h y a g)]) ∧ Below w.heap.size w w' := by
  have hp := PipeAt.new w id f t L d s 29
  have hb : Below w.heap.size w (w.alloc (.cells #[.string id, .int .i64 f, .int .i64 t, .int .i64 L, .int .i64 d, .int .i64 s] 29)) := bal (Below.refl _ _) _
  have HO := Lib.hid (l03Ok_any w.heap.size id f t L d s _ hp hs)
  by_cases ho : okP id f t L d s = true
  rotate_left
  · have ho : okP id f t L d s = false := by simpa only [Bool.not_eq_true] using ho
    have HV := Lib.hid (code_leaf id f t L d s k c h y a g 1 (by unfold codeP; rw [ho]; rfl) (by omega))
    rw [ho] at HO
    clear ho
    have ⟨p0, p1, p2, p3, p4, p5⟩ := hp
    go_enter Try.func36, Try.ntmps36
    go_wp2_with fail
    refine HO.out.mono ?_
    rintro e w1 ⟨rfl, hd⟩
    have hp := hp.next (drawn_below hd)
    have hb := bnext hb (drawn_below hd)
    clear hd p0 p1 p2 p3 p4 p5
    go_wp2
    go_ret3
    exact ⟨by rw [HV.out.1, HV.out.2.1, HV.out.2.2]; rfl, hb⟩
  rw [ho] at HO
  by_cases hc0 : inB k 1 1000 = true
  rotate_left
  · have hc0 : inB k 1 1000 = false := by simpa only [Bool.not_eq_true] using hc0
    have HV := Lib.hid (code_leaf id f t L d s k c h y a g 2 (by unfold codeP btB climB; simp [ho, hc0]) (by omega))
    have ⟨p0, p1, p2, p3, p4, p5⟩ := hp
    go_enter Try.func36, Try.ntmps36
    go_wp2_with fail
    refine HO.out.mono ?_
    rintro e w1 ⟨rfl, hd⟩
    have hp := hp.next (drawn_below hd)
    have hb := bnext hb (drawn_below hd)
    clear hd p0 p1 p2 p3 p4 p5
    go_wp2_with fail
    refine (l10Conductivity_any k _).mono ?_
    rintro e w' ⟨rfl, rfl⟩
    rw [hc0]
    go_wp2
    go_ret3
    exact ⟨by rw [HV.out.1, HV.out.2.1, HV.out.2.2]; rfl, hb⟩
  by_cases hc1 : inB c 0 1000 = true
  rotate_left
  · have hc1 : inB c 0 1000 = false := by simpa only [Bool.not_eq_true] using hc1
    have HV := Lib.hid (code_leaf id f t L d s k c h y a g 2 (by unfold codeP btB climB; simp [ho, hc0, hc1]) (by omega))
    have ⟨p0, p1, p2, p3, p4, p5⟩ := hp
    go_enter Try.func36, Try.ntmps36
    go_wp2_with fail
    refine HO.out.mono ?_
    rintro e w1 ⟨rfl, hd⟩
    have hp := hp.next (drawn_below hd)
    have hb := bnext hb (drawn_below hd)
    clear hd p0 p1 p2 p3 p4 p5
    go_wp2_with fail
    refine (l10Conductivity_any k _).mono ?_
    rintro e w' ⟨rfl, rfl⟩
    rw [hc0]
    go_wp2_with fail
    refine (in_any c 0 1000 _).mono ?_
    rintro e w' ⟨rfl, rfl⟩
    rw [hc1]
    go_wp2
    go_ret3
    exact ⟨by rw [HV.out.1, HV.out.2.1, HV.out.2.2]; rfl, hb⟩
  by_cases hc2 : inB h 0 1000 = true
  rotate_left
  · have hc2 : inB h 0 1000 = false := by simpa only [Bool.not_eq_true] using hc2
    have HV := Lib.hid (code_leaf id f t L d s k c h y a g 2 (by unfold codeP btB climB; simp [ho, hc0, hc1, hc2]) (by omega))
    have ⟨p0, p1, p2, p3, p4, p5⟩ := hp
    go_enter Try.func36, Try.ntmps36
    go_wp2_with fail
    refine HO.out.mono ?_
    rintro e w1 ⟨rfl, hd⟩
    have hp := hp.next (drawn_below hd)
    have hb := bnext hb (drawn_below hd)
    clear hd p0 p1 p2 p3 p4 p5
    go_wp2_with fail
    refine (l10Conductivity_any k _).mono ?_
    rintro e w' ⟨rfl, rfl⟩
    rw [hc0]
    go_wp2_with fail
    refine (in_any c 0 1000 _).mono ?_
    rintro e w' ⟨rfl, rfl⟩
    rw [hc1]
    go_wp2_with fail
    refine (in_any h 0 1000 _).mono ?_
    rintro e w' ⟨rfl, rfl⟩
    rw [hc2]
    go_wp2
    go_ret3
    exact ⟨by rw [HV.out.1, HV.out.2.1, HV.out.2.2]; rfl, hb⟩
  by_cases hc3 : inB y 1 100 = true
  rotate_left
  · have hc3 : inB y 1 100 = false := by simpa only [Bool.not_eq_true] using hc3
    have HV := Lib.hid (code_leaf id f t L d s k c h y a g 2 (by unfold codeP btB climB; simp [ho, hc0, hc1, hc2, hc3]) (by omega))
    have ⟨p0, p1, p2, p3, p4, p5⟩ := hp
    go_enter Try.func36, Try.ntmps36
    go_wp2_with fail
    refine HO.out.mono ?_
    rintro e w1 ⟨rfl, hd⟩
    have hp := hp.next (drawn_below hd)
    have hb := bnext hb (drawn_below hd)
    clear hd p0 p1 p2 p3 p4 p5
    go_wp2_with fail
    refine (l10Conductivity_any k _).mono ?_
    rintro e w' ⟨rfl, rfl⟩
    rw [hc0]
    go_wp2_with fail
    refine (in_any c 0 1000 _).mono ?_
    rintro e w' ⟨rfl, rfl⟩
    rw [hc1]
    go_wp2_with fail
    refine (in_any h 0 1000 _).mono ?_
    rintro e w' ⟨rfl, rfl⟩
    rw [hc2]
    go_wp2_with fail
    refine (in_any y 1 100 _).mono ?_
    rintro e w' ⟨rfl, rfl⟩
    rw [hc3]
    go_wp2
    go_ret3
    exact ⟨by rw [HV.out.1, HV.out.2.1, HV.out.2.2]; rfl, hb⟩
  by_cases hc4 : inB a (-5000) 20000 = true
  rotate_left
  · have hc4 : inB a (-5000) 20000 = false := by simpa only [Bool.not_eq_true] using hc4
    have HV := Lib.hid (code_leaf id f t L d s k c h y a g 2 (by unfold codeP btB climB; simp [ho, hc0, hc1, hc2, hc3, hc4]) (by omega))
    have ⟨p0, p1, p2, p3, p4, p5⟩ := hp
    go_enter Try.func36, Try.ntmps36
    go_wp2_with fail
    refine HO.out.mono ?_
    rintro e w1 ⟨rfl, hd⟩
    have hp := hp.next (drawn_below hd)
    have hb := bnext hb (drawn_below hd)
    clear hd p0 p1 p2 p3 p4 p5
    go_wp2_with fail
    refine (l10Conductivity_any k _).mono ?_
    rintro e w' ⟨rfl, rfl⟩
    rw [hc0]
    go_wp2_with fail
    refine (in_any c 0 1000 _).mono ?_
    rintro e w' ⟨rfl, rfl⟩
    rw [hc1]
    go_wp2_with fail
    refine (in_any h 0 1000 _).mono ?_
    rintro e w' ⟨rfl, rfl⟩
    rw [hc2]
    go_wp2_with fail
    refine (in_any y 1 100 _).mono ?_
    rintro e w' ⟨rfl, rfl⟩
    rw [hc3]
    go_wp2_with fail
    refine (l03Degrees_any a _).mono ?_
    rintro e w' ⟨rfl, rfl⟩
    rw [hc4]
    go_wp2
    go_ret3
    exact ⟨by rw [HV.out.1, HV.out.2.1, HV.out.2.2]; rfl, hb⟩
  by_cases hc5 : inB g (-5000) 20000 = true
  rotate_left
  · have hc5 : inB g (-5000) 20000 = false := by simpa only [Bool.not_eq_true] using hc5
    have HV := Lib.hid (code_leaf id f t L d s k c h y a g 2 (by unfold codeP btB climB; simp [ho, hc0, hc1, hc2, hc3, hc4, hc5]) (by omega))
    have ⟨p0, p1, p2, p3, p4, p5⟩ := hp
    go_enter Try.func36, Try.ntmps36
    go_wp2_with fail
    refine HO.out.mono ?_
    rintro e w1 ⟨rfl, hd⟩
    have hp := hp.next (drawn_below hd)
    have hb := bnext hb (drawn_below hd)
    clear hd p0 p1 p2 p3 p4 p5
    go_wp2_with fail
    refine (l10Conductivity_any k _).mono ?_
    rintro e w' ⟨rfl, rfl⟩
    rw [hc0]
    go_wp2_with fail
    refine (in_any c 0 1000 _).mono ?_
    rintro e w' ⟨rfl, rfl⟩
    rw [hc1]
    go_wp2_with fail
    refine (in_any h 0 1000 _).mono ?_
    rintro e w' ⟨rfl, rfl⟩
    rw [hc2]
    go_wp2_with fail
    refine (in_any y 1 100 _).mono ?_
    rintro e w' ⟨rfl, rfl⟩
    rw [hc3]
    go_wp2_with fail
    refine (l03Degrees_any a _).mono ?_
    rintro e w' ⟨rfl, rfl⟩
    rw [hc4]
    go_wp2_with fail
    refine (l03Degrees_any g _).mono ?_
    rintro e w' ⟨rfl, rfl⟩
    rw [hc5]
    go_wp2
    go_ret3
    exact ⟨by rw [HV.out.1, HV.out.2.1, HV.out.2.2]; rfl, hb⟩
  have HV := Lib.hid (code_main id f t L d s k c h y a g (by unfold codeP btB climB; simp [ho, hc0, hc1, hc2, hc3, hc4, hc5]))
  obtain ⟨-, -, -, -, ⟨l0, l1⟩, ⟨d0, d1⟩, ⟨s0, s1⟩⟩ := okP_bd id f t L d s ho
  have bk := inB_iff.1 hc0
  have bc := inB_iff.1 hc1
  have bh := inB_iff.1 hc2
  have by' := inB_iff.1 hc3
  have ba := inB_iff.1 hc4
  have bg := inB_iff.1 hc5
  have HBT := Lib.hid (fun n (n0 : 1 ≤ n) (n1 : n ≤ 300) => thickF_bd L d k c h y a g n (by omega) l1 n0 n1 bc.1 bc.2 bh.1 bh.2 (by omega) by'.2 ba.2 bg.1)
  have HCT := Lib.hid (fun n (n0 : 1 ≤ n) (n1 : n ≤ 300) wx => l10Coat_any d n k wx d0 d1 n0 n1 bk.1 bk.2)
  have HCB := Lib.hid (fun n => coatI_bd d n k)
  have HLO := Lib.hid (fun n wx => loses_any (coatI d n k) L a g wx (by have := coatI_bd d n k; omega) (by have := coatI_bd d n k; omega) (by omega) l1 ba.1 ba.2 bg.1 bg.2)
  have HLE := Lib.hid (fun n => loss_le (coatI d n k) L a g (by have := coatI_bd d n k; omega) (by have := coatI_bd d n k; omega) (by omega) l1 ba.2 bg.1)
  have HCO := Lib.hid (fun n (n0 : 1 ≤ n) (n1 : n ≤ 300) wx => l10Costs_any L n c wx (by omega) l1 n0 n1 bc.1 bc.2)
  have HCC := Lib.hid (fun n (n0 : 1 ≤ n) (n1 : n ≤ 300) => coatCost_bd L n c (by omega) l1 n0 n1 bc.1 bc.2)
  have HHB := Lib.hid (fun x (x1 : x ≤ 12500000) => heat_bd x h y x1 bh.1 bh.2 (by omega) by'.2)
  have HNM := Lib.hid (fun x (x1 : x ≤ 12500000) => heat_num x h y x1 bh.1 bh.2 (by omega) by'.2)
  have HFX : Hid (∀ n, thickF L d k c h y a g n = coatCost L n c + heatI (lossI (coatI d n k) L a g) h y) := Lib.hid (fun n => rfl)
  have HX : Hid (btX L d k c h y a g = leastTo (thickF L d k c h y a g) 1 299) := Lib.hid rfl
  have ⟨p0, p1, p2, p3, p4, p5⟩ := hp
  go_enter Try.func36, Try.ntmps36
  go_wp2_with fail
  refine HO.out.mono ?_
  rintro e w1 ⟨rfl, hd⟩
  have hp := hp.next (drawn_below hd)
  have hb := bnext hb (drawn_below hd)
  clear hd p0 p1 p2 p3 p4 p5
  go_wp2_with fail
  refine (l10Conductivity_any k _).mono ?_
  rintro e w' ⟨rfl, rfl⟩
  rw [hc0]
  go_wp2_with fail
  refine (in_any c 0 1000 _).mono ?_
  rintro e w' ⟨rfl, rfl⟩
  rw [hc1]
  go_wp2_with fail
  refine (in_any h 0 1000 _).mono ?_
  rintro e w' ⟨rfl, rfl⟩
  rw [hc2]
  go_wp2_with fail
  refine (in_any y 1 100 _).mono ?_
  rintro e w' ⟨rfl, rfl⟩
  rw [hc3]
  go_wp2_with fail
  refine (l03Degrees_any a _).mono ?_
  rintro e w' ⟨rfl, rfl⟩
  rw [hc4]
  go_wp2_with fail
  refine (l03Degrees_any g _).mono ?_
  rintro e w' ⟨rfl, rfl⟩
  rw [hc5]
  clear ho bk bc bh by' ba bg l0 l1 d0 d1 s0 s1
  generalize hFF : thickF L d k c h y a g = FF at *
  clear hFF
  have HP := Lib.hid hp
  have HB := Lib.hid hb
  go_wp2_with fail
  clear hp hb
  go_loopw [17, 18, 19] (fun u v i wr => ∃ (j : Nat) (x z : Int), j ≤ 300 ∧ i = .int .i64 ((j : Int) + 1) ∧ u = .int .i64 x ∧ v = .int .i64 z ∧ Hid ((j = 0 ∧ x = 0 ∧ z = 0) ∨ (1 ≤ j ∧ leastTo FF 1 (j - 1) = (x, z))) ∧ Drawn w1 wr) (fun _ _ i _ => 301 - (intOf i).toNat)
  case atStart => exact ⟨0, 0, 0, by omega, rfl, rfl, rfl, Lib.hid (.inl ⟨rfl, rfl, rfl⟩), Drawn.rfl' _⟩
  case round =>
    obtain ⟨j, x, z, hj, rfl, rfl, rfl, HS, ⟨nr, rfl⟩⟩ := hrel
    by_cases hlt : j < 300
    · have hle : (j : Int) + 1 ≤ 300 := by omega
      have ⟨p0, p1, p2, p3, p4, p5⟩ := HP.out
      have H1 := Lib.hid (HCT.out ((j : Int) + 1) (by omega) hle)
      have H2 := Lib.hid (HLO.out ((j : Int) + 1))
      have H3 := Lib.hid (HCO.out ((j : Int) + 1) (by omega) hle)
      have h4 := HCC.out ((j : Int) + 1) (by omega) hle
      have h5 := HHB.out _ (HLE.out ((j : Int) + 1))
      have h6 := HNM.out _ (HLE.out ((j : Int) + 1))
      have HF := Lib.hid (HFX.out ((j : Int) + 1))
      have hst : leastTo FF 1 j = if j = 0 then (1, FF 1) else if FF ((j : Int) + 1) < (leastTo FF 1 (j - 1)).2 then ((j : Int) + 1, FF ((j : Int) + 1)) else leastTo FF 1 (j - 1) := by
        cases j with
        | zero => rfl
        | succ q =>
          have e : (1 : Int) + (q + 1 : Nat) = ((q + 1 : Nat) : Int) + 1 := by omega
          rw [leastTo, e, if_neg (show ¬ (q + 1 = 0) by omega)]
          rfl
      have HST := Lib.hid hst
      have H7 := Lib.hid (leastTo_at FF 1 (j - 1))
      unfold heatI at h5 HF
      have HM := Lib.hid (fun wx => l00Max_any 0 (lossI (coatI d ((j : Int) + 1) k) L a g) wx)
      rw [Int.max_comm] at HM
      have HD := Lib.hid (fun wx => l01Div_any (max (lossI (coatI d ((j : Int) + 1) k) L a g) 0 * 876 * h * y) 100000 wx (by omega) (by omega) (by omega) (by omega) (by omega))
      generalize coatCost L ((j : Int) + 1) c = v at *
      generalize lossI (coatI d ((j : Int) + 1) k) L a g = lo at *
      generalize coatI d ((j : Int) + 1) k = ct at *
      generalize nearI (max lo 0 * 876 * h * y) 100000 = he at *
      generalize max lo 0 = mx at *
      generalize hco : FF ((j : Int) + 1) = cost at *
      have HCQ := Lib.hid hco
      clear hco
      have hcost := HF.out
      have e1 : IntKind.i64.wrap (mx * 876) = mx * 876 := IntWalk.i64_in _ (by omega)
      have e2 : IntKind.i64.wrap (mx * 876 * h) = mx * 876 * h := IntWalk.i64_in _ (by omega)
      have e3 : IntKind.i64.wrap (mx * 876 * h * y) = mx * 876 * h * y := IntWalk.i64_in _ (by omega)
      have e4 : IntKind.i64.wrap (v + he) = v + he := IntWalk.i64_in _ (by omega)
      clear hst hcost
      rcases HS.out with ⟨rfl, rfl, rfl⟩ | ⟨hj1, hxz⟩
      · have HN : Hid ((0 + 1 = 0 ∧ ((0 : Nat) : Int) + 1 = 0 ∧ v + he = 0) ∨ (1 ≤ 0 + 1 ∧ leastTo FF 1 (0 + 1 - 1) = (((0 : Nat) : Int) + 1, v + he))) := Lib.hid (.inr ⟨by omega, by
          have h9 := HST.out
          rw [if_pos rfl] at h9
          have h8 : FF 1 = cost := HCQ.out
          rw [show 0 + 1 - 1 = 0 from rfl, h9, h8, HF.out]
          rfl⟩)
        clear HST HS H7
        go_wp2
        go_quiet ((first | (go_at_call 55; exact quiet_same2 (H1.out _)) | (go_at_call 63; exact quiet_same2 (H2.out _)) | (go_at_call 84; exact quiet_same2 (HM.out _))))
        go_wp2_with (first | (go_at_call 82; refine (H3.out _).mono ?_; rintro e w' ⟨rfl, rfl⟩) | (go_at_call 76; refine (HD.out _).mono ?_; rintro e w' ⟨rfl, rfl⟩))
        go_roundw
        case rel => exact ⟨0 + 1, ((0 : Nat) : Int) + 1, v + he, by omega, by go_num, by go_num, by go_num, HN, ⟨_, rfl⟩⟩
        case measure => simp [intOf]
      · have hx1 : 1 ≤ x := by have := H7.out.1; rw [hxz] at this; exact this
        have hx0 : (x == 0) = false := by simp; omega
        have h9 := HST.out
        rw [if_neg (by omega), hxz, HF.out] at h9
        by_cases hc : v + he < z
        · rw [if_pos hc] at h9
          have HN : Hid ((j + 1 = 0 ∧ (j : Int) + 1 = 0 ∧ v + he = 0) ∨ (1 ≤ j + 1 ∧ leastTo FF 1 (j + 1 - 1) = ((j : Int) + 1, v + he))) := Lib.hid (.inr ⟨by omega, h9⟩)
          clear HST HS H7 h9 hxz
          go_wp2
          go_quiet ((first | (go_at_call 55; exact quiet_same2 (H1.out _)) | (go_at_call 63; exact quiet_same2 (H2.out _)) | (go_at_call 84; exact quiet_same2 (HM.out _))))
          go_wp2_with (first | (go_at_call 82; refine (H3.out _).mono ?_; rintro e w' ⟨rfl, rfl⟩) | (go_at_call 76; refine (HD.out _).mono ?_; rintro e w' ⟨rfl, rfl⟩))
          go_roundw
          case rel => exact ⟨j + 1, (j : Int) + 1, v + he, by omega, by go_num, by go_num, by go_num, HN, ⟨_, rfl⟩⟩
          case measure => simp [intOf]; omega
        · rw [if_neg hc] at h9
          have HN : Hid ((j + 1 = 0 ∧ x = 0 ∧ z = 0) ∨ (1 ≤ j + 1 ∧ leastTo FF 1 (j + 1 - 1) = (x, z))) := Lib.hid (.inr ⟨by omega, h9⟩)
          clear HST HS H7 h9 hxz
          go_wp2
          go_quiet ((first | (go_at_call 55; exact quiet_same2 (H1.out _)) | (go_at_call 63; exact quiet_same2 (H2.out _)) | (go_at_call 84; exact quiet_same2 (HM.out _))))
          go_wp2_with (first | (go_at_call 82; refine (H3.out _).mono ?_; rintro e w' ⟨rfl, rfl⟩) | (go_at_call 76; refine (HD.out _).mono ?_; rintro e w' ⟨rfl, rfl⟩))
          go_roundw
          case rel => exact ⟨j + 1, x, z, by omega, by go_num, by go_num, by go_num, HN, ⟨_, rfl⟩⟩
          case measure => simp [intOf]; omega
    · have hj3 : j = 300 := by omega
      have HE : Hid (leastTo FF 1 299 = (x, z)) := Lib.hid (by
        rcases HS.out with ⟨h0, -, -⟩ | ⟨-, hxz⟩
        · omega
        · rw [hj3] at hxz; exact hxz)
      have hle : ¬ ((j : Int) + 1 ≤ 300) := by omega
      clear hj3
      go_wp2
      go_ret3
      exact ⟨by rw [HV.out.1, HV.out.2.1, HV.out.2.2, HX.out, HE.out]; rfl, below_drewN HB.out _⟩

end Go.Proofs.Ytgdafgnjaogmeaa
