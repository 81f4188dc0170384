/-
  PressureRoom of the model.
-/
import Derived.Test.YtdaedgdglammhaaBo5
import Derived.Test.YtdaedgdglammhaaP1
namespace Go.Proofs.Ytdaedgdglammhaa
open Go.ChangeShapes Go.WideShapes Go.ChangeAt Go.RowKit Go.Shelf

set_option linter.unusedVariables false
set_option maxRecDepth 100000
set_option maxHeartbeats 4000000
theorem prC_bad (zs ds : List Int) (m l : Int) (h : mlB m l = false) : prC zs ds m l = 2 := by
  unfold prC nodC
  rw [h]
  rfl
theorem prC_nd (zs ds : List Int) (m l : Int) (h : mlB m l = true) : prC zs ds m l = ndC zs ds := by
  unfold prC ndC
  rw [h, Bool.true_and]
theorem specPressureRoom_ds (A : Option Addr) (ca : Nat) (zs : List Int) (B : Option Addr) (cb : Nat) (ds : List Int) (m l : Int) (w : World) (hA : CellsAt w A (intsV zs)) (hn : zs.length ≤ 1048576) (hB : CellsAt w B (intsV ds)) (hm : ds.length ≤ 1048576) :
    Calls Try.prog 41 #[.slice A zs.length ca, .slice B ds.length cb, .int .i64 m, .int .i64 l] w (fun e w' => e = .returned (.tuple #[.int .i64 (pressureRoomR0 zs ds m l), .int .i64 (pressureRoomR1 zs ds m l), .int .i64 (pressureRoomR2 zs ds m l)]) ∧ Below w.heap.size w w') := by
  have HW := Lib.hid (l11Nodes_any A B ca cb zs ds w hA hB hn hm)
  have hb : Below w.heap.size w w := Below.refl _ _
  change Hid (Calls _ _ _ _ fun e w' => e = .returned (.int .i64 (ndC zs ds)) ∧ _) at HW
  by_cases hml : mlB m l = true
  rotate_left
  · have hml : mlB m l = false := by simpa using hml
    have hc : ¬ prC zs ds m l = 0 := by rw [prC_bad zs ds m l hml]; decide
    rw [(prm_bad hc).1, (prm_bad hc).2.1, (prm_bad hc).2.2, prC_bad zs ds m l hml]
    unfold mlB at hml
    clear hc hA hB
    generalize ndC zs ds = k at *
    by_cases h1 : inB m 0 1000000 = true
    · have h2 : inB l 0 100000000 = false := by rw [h1] at hml; exact hml
      by_cases hk : k = 2
      · have f1 : (k == 2) = true := by rw [hk]; rfl
        subst hk
        go_enter Try.func41, Try.ntmps41
        go_wp2_with (first | (go_at_call 78; refine (l11Margin_any _ _).mono ?_; rintro e w' ⟨rfl, rfl⟩) | (go_at_call 77; refine (l03Press_any _ _).mono ?_; rintro e w' ⟨rfl, rfl⟩) | (go_at_call 85; refine HW.out.mono ?_; rintro e w' ⟨rfl, hb'⟩; have hb := bnext hb hb'; clear hb'))
        go_ret3
        exact ⟨rfl, hb⟩
      · have f1 : (k == 2) = false := beq_eq_false_iff_ne.2 hk
        go_enter Try.func41, Try.ntmps41
        go_wp2_with (first | (go_at_call 78; refine (l11Margin_any _ _).mono ?_; rintro e w' ⟨rfl, rfl⟩) | (go_at_call 77; refine (l03Press_any _ _).mono ?_; rintro e w' ⟨rfl, rfl⟩) | (go_at_call 85; refine HW.out.mono ?_; rintro e w' ⟨rfl, hb'⟩; have hb := bnext hb hb'; clear hb'))
        go_ret3
        exact ⟨rfl, hb⟩
    · have h1' : inB m 0 1000000 = false := by simpa using h1
      by_cases hk : k = 2
      · have f1 : (k == 2) = true := by rw [hk]; rfl
        subst hk
        go_enter Try.func41, Try.ntmps41
        go_wp2_with (first | (go_at_call 78; refine (l11Margin_any _ _).mono ?_; rintro e w' ⟨rfl, rfl⟩) | (go_at_call 77; refine (l03Press_any _ _).mono ?_; rintro e w' ⟨rfl, rfl⟩) | (go_at_call 85; refine HW.out.mono ?_; rintro e w' ⟨rfl, hb'⟩; have hb := bnext hb hb'; clear hb'))
        go_ret3
        exact ⟨rfl, hb⟩
      · have f1 : (k == 2) = false := beq_eq_false_iff_ne.2 hk
        go_enter Try.func41, Try.ntmps41
        go_wp2_with (first | (go_at_call 78; refine (l11Margin_any _ _).mono ?_; rintro e w' ⟨rfl, rfl⟩) | (go_at_call 77; refine (l03Press_any _ _).mono ?_; rintro e w' ⟨rfl, rfl⟩) | (go_at_call 85; refine HW.out.mono ?_; rintro e w' ⟨rfl, hb'⟩; have hb := bnext hb hb'; clear hb'))
        go_ret3
        exact ⟨rfl, hb⟩
  have hml' := hml
  unfold mlB at hml'
  rw [Bool.and_eq_true] at hml'
  have h1 := hml'.1
  have h2 := hml'.2
  have q1 := inB_iff.1 h1
  have q2 := inB_iff.1 h2
  have hpn := prC_nd zs ds m l hml
  by_cases hc : ndC zs ds = 0
  rotate_left
  · have hc' : ¬ prC zs ds m l = 0 := by rw [hpn]; exact hc
    rw [(prm_bad hc').1, (prm_bad hc').2.1, (prm_bad hc').2.2, hpn]
    clear hpn hc' hA hB hml hml'
    generalize ndC zs ds = k at *
    by_cases hk : k = 2
    · have f1 : (k == 2) = true := by rw [hk]; rfl
      subst hk
      go_enter Try.func41, Try.ntmps41
      go_wp2_with (first | (go_at_call 78; refine (l11Margin_any _ _).mono ?_; rintro e w' ⟨rfl, rfl⟩) | (go_at_call 77; refine (l03Press_any _ _).mono ?_; rintro e w' ⟨rfl, rfl⟩) | (go_at_call 85; refine HW.out.mono ?_; rintro e w' ⟨rfl, hb'⟩; have hb := bnext hb hb'; clear hb'))
      go_ret3
      exact ⟨rfl, hb⟩
    · have f1 : (k == 2) = false := beq_eq_false_iff_ne.2 hk
      go_enter Try.func41, Try.ntmps41
      go_wp2_with (first | (go_at_call 78; refine (l11Margin_any _ _).mono ?_; rintro e w' ⟨rfl, rfl⟩) | (go_at_call 77; refine (l03Press_any _ _).mono ?_; rintro e w' ⟨rfl, rfl⟩) | (go_at_call 85; refine HW.out.mono ?_; rintro e w' ⟨rfl, hb'⟩; have hb := bnext hb hb'; clear hb'))
      go_ret3
      exact ⟨rfl, hb⟩
  have hp0 : prC zs ds m l = 0 := hpn.trans hc
  have HW := Lib.hid (by have h := HW.out; rw [hc] at h; exact h)
  obtain ⟨hz, hd, hl, h16⟩ := ndC_ok hc
  by_cases h0 : 0 < zs.length
  rotate_left
  · rw [(prm_none hp0 h0).1, (prm_none hp0 h0).2.1, (prm_none hp0 h0).2.2]
    have f0 : ((zs.length : Int) == 0) = true := beq_iff_eq.2 (by omega)
    clear hA hB hl hc hpn hp0 hml hml'
    go_enter Try.func41, Try.ntmps41
    go_wp2_with (first | (go_at_call 78; refine (l11Margin_any _ _).mono ?_; rintro e w' ⟨rfl, rfl⟩) | (go_at_call 77; refine (l03Press_any _ _).mono ?_; rintro e w' ⟨rfl, rfl⟩) | (go_at_call 85; refine HW.out.mono ?_; rintro e w' ⟨rfl, hb'⟩; have hb := bnext hb hb'; clear hb'))
    go_ret3
    exact ⟨rfl, hb⟩
  have f0 : ((zs.length : Int) == 0) = false := beq_eq_false_iff_ne.2 (by omega)
  have hres : (lowI' zs ds m ≤ topI' zs l ∧ pressureRoomR0 zs ds m l = lowI' zs ds m ∧ pressureRoomR1 zs ds m l = topI' zs l ∧ pressureRoomR2 zs ds m l = 0) ∨ (topI' zs l < lowI' zs ds m ∧ pressureRoomR0 zs ds m l = 0 ∧ pressureRoomR1 zs ds m l = 0 ∧ pressureRoomR2 zs ds m l = 3) := by
    by_cases hgo : lowI' zs ds m ≤ topI' zs l
    · exact .inl ⟨hgo, prm_ok hp0 h0 hgo⟩
    · exact .inr ⟨by omega, prm_no hp0 h0 hgo⟩
  have HRES := Lib.hid hres
  generalize pressureRoomR0 zs ds m l = r0 at *
  generalize pressureRoomR1 zs ds m l = r1 at *
  generalize pressureRoomR2 zs ds m l = r2 at *
  have HA := Lib.hid hA
  have HB := Lib.hid hB
  have HZ := Lib.hid hz
  have HD := Lib.hid hd
  have HLEN := Lib.hid hl
  have HF := Lib.hid (fun k (hk : k < zs.length) => surF_bd hz hl k hk)
  have hlc : (ds.length : Int) = (zs.length : Int) := by omega
  have bS := Lib.hid (fun k (hk : k < zs.length) => minTo_bd (f := surF zs ds) (lo := -200000000) (hi := 200000000) (k := k) (fun j hj => by have := surF_bd hz hl j (by omega); omega))
  have bM := Lib.hid (fun k (hk : k < zs.length) => maxTo_bd (f := fun k => zs.getD k 0) (lo := -100000000) (hi := 100000000) (k := k) (fun j hj => by have := allIn_one' hz (show j < zs.length by omega); exact this))
  obtain ⟨bp, op, rfl, q0⟩ := intsCell hA h0
  obtain ⟨bd, od, rfl, q3⟩ := intsCell hB (show 0 < ds.length by omega)
  have q0 : w.cell? ⟨bp, op, none⟩ = some (.int .i64 (zs.getD 0 0)) := q0
  have q3 : w.cell? ⟨bd, od, none⟩ = some (.int .i64 (ds.getD 0 0)) := q3
  have hp1 : (0 : Int) < ((zs.length : Nat) : Int) := by omega
  have hp2 : (0 : Int) < ((ds.length : Nat) : Int) := by omega
  have d0 := allIn_one' hd (show 0 < ds.length by omega)
  have z0 := allIn_one' hz h0
  have HS0 := Lib.hid (fun W => l11Steam_any (ds.getD 0 0) W d0.2)
  have s0 := stm_bd (ds.getD 0 0)
  have e0 : minTo (surF zs ds) (1 - 1) = zs.getD 0 0 - stmI (ds.getD 0 0) := rfl
  have e1 : maxTo (fun k => zs.getD k 0) (1 - 1) = zs.getD 0 0 := rfl
  clear hA hB hl hc hpn hp0 hml hml' hz hd hres
  generalize stmI (ds.getD 0 0) = t0 at *
  generalize zs.getD 0 0 = y0 at *
  generalize ds.getD 0 0 = x0 at *
  have E0 : Hid (t0 + m - y0 = m - minTo (surF zs ds) (1 - 1)) := Lib.hid (by omega)
  have E1 : Hid (l - y0 = l - maxTo (fun k => zs.getD k 0) (1 - 1)) := Lib.hid (by omega)
  clear e0 e1
  have w1 : IntKind.i64.wrap (t0 + m) = t0 + m := IntWalk.i64_in _ (by omega)
  have w2 : IntKind.i64.wrap (t0 + m - y0) = t0 + m - y0 := IntWalk.i64_in _ (by omega)
  go_enter Try.func41, Try.ntmps41
  go_wp2_with (first | (go_at_call 78; refine (l11Margin_any _ _).mono ?_; rintro e w' ⟨rfl, rfl⟩) | (go_at_call 77; refine (l03Press_any _ _).mono ?_; rintro e w' ⟨rfl, rfl⟩) | (go_at_call 85; refine HW.out.mono ?_; rintro e w' ⟨rfl, hb'⟩; have hb := bnext hb hb'; have q0 := (hb'.cell (World.block_lt_of_cell? _ _ q0)).trans q0; have q3 := (hb'.cell (World.block_lt_of_cell? _ _ q3)).trans q3; clear hb'))
  go_region_held3 (fun w' => w'.cell? ⟨bp, op, none⟩ = some (.int .i64 y0) ∧ w'.cell? ⟨bd, od, none⟩ = some (.int .i64 x0) ∧ Below w.heap.size w w') (first | assumption | exact ⟨q0, q3, below_drewN hb 1⟩ | (go_split_ands; exact ⟨(hb'.cell (World.block_lt_of_cell? _ _ (by assumption))).trans (by assumption), (hb'.cell (World.block_lt_of_cell? _ _ (by assumption))).trans (by assumption), bnext (by assumption) hb'⟩)) (first | (go_at_call 79; refine (HS0.out _).mono ?_; rintro e w' ⟨rfl, hb'⟩))
  rename_i hHeld
  obtain ⟨q0, q3, hb⟩ := hHeld
  clear w1 w2
  go_wp2_with fail
  go_loopw [12, 13, 14] (fun a c i wr => ∃ (k : Nat) (u v : Int), 1 ≤ k ∧ k ≤ zs.length ∧ i = .int .i64 k ∧ a = .int .i64 u ∧ c = .int .i64 v ∧ Below w.heap.size w wr ∧ Hid (u = m - minTo (surF zs ds) (k - 1)) ∧ Hid (v = l - maxTo (fun k => zs.getD k 0) (k - 1))) (fun _ _ i _ => zs.length - (intOf i).toNat)
  case atStart => exact ⟨1, _, _, Nat.le_refl _, by omega, rfl, rfl, rfl, by assumption, E0, E1⟩
  case round =>
    clear q0 q3
    obtain ⟨k, u, v, k0, hk, rfl, rfl, rfl, hb, U, V⟩ := hrel
    by_cases hlt : k < zs.length
    · obtain ⟨bp', op', e', q0⟩ := intsCell (HA.out.next hb) hlt
      have e3 : bp = bp' ∧ op = op' := by simp at e'; exact e'
      obtain ⟨e4, e5⟩ := e3
      subst e4
      subst e5
      obtain ⟨bd', od', e2, q1⟩ := intsCell (HB.out.next hb) (show k < ds.length by rw [← HLEN.out]; exact hlt)
      have e3 : bd = bd' ∧ od = od' := by simp at e2; exact e2
      obtain ⟨e4, e5⟩ := e3
      subst e4
      subst e5
      have hk1 : (k : Int) < ((zs.length : Nat) : Int) := by omega
      have hk2 : (k : Int) < ((ds.length : Nat) : Int) := by omega
      have d1 := allIn_one' HD.out (show k < ds.length by rw [← HLEN.out]; exact hlt)
      have z1 := allIn_one' HZ.out hlt
      have HS1 := Lib.hid (fun W => l11Steam_any (ds.getD k 0) W d1.2)
      have s1 := stm_bd (ds.getD k 0)
      have UN : Hid (max u (stmI (ds.getD k 0) + m - zs.getD k 0) = m - minTo (surF zs ds) (k + 1 - 1)) := Lib.hid (by
        obtain ⟨j, rfl⟩ : ∃ j, k = j + 1 := ⟨k - 1, by omega⟩
        have a1 := U.out
        rw [show j + 1 - 1 = j from rfl] at a1
        show max u (stmI (ds.getD (j + 1) 0) + m - zs.getD (j + 1) 0) = m - min (minTo (surF zs ds) j) (surF zs ds (j + 1))
        have a2 : surF zs ds (j + 1) = zs.getD (j + 1) 0 - stmI (ds.getD (j + 1) 0) := rfl
        omega)
      have VN : Hid (min v (l - zs.getD k 0) = l - maxTo (fun k => zs.getD k 0) (k + 1 - 1)) := Lib.hid (by
        obtain ⟨j, rfl⟩ : ∃ j, k = j + 1 := ⟨k - 1, by omega⟩
        have a1 := V.out
        rw [show j + 1 - 1 = j from rfl] at a1
        show min v (l - zs.getD (j + 1) 0) = l - max (maxTo (fun k => zs.getD k 0) j) (zs.getD (j + 1) 0)
        omega)
      have u0 := bS.out (k - 1) (by omega)
      have v0 := bM.out (k - 1) (by omega)
      have u1 : -300000000 ≤ u ∧ u ≤ 300000000 := by have := U.out; omega
      have v1 : -300000000 ≤ v ∧ v ≤ 300000000 := by have := V.out; omega
      clear u0 v0 U V e' e2
      generalize stmI (ds.getD k 0) = t1 at *
      generalize zs.getD k 0 = y1 at *
      generalize ds.getD k 0 = x1 at *
      have w1 : IntKind.i64.wrap (t1 + m) = t1 + m := IntWalk.i64_in _ (by omega)
      have w2 : IntKind.i64.wrap (t1 + m - y1) = t1 + m - y1 := IntWalk.i64_in _ (by omega)
      go_wp2_with fail
      go_region_held3 (fun w' => w'.cell? ⟨bp, op + k, none⟩ = some (.int .i64 y1) ∧ w'.cell? ⟨bd, od + k, none⟩ = some (.int .i64 x1) ∧ Below w.heap.size w w') (first | assumption | exact ⟨q0, q1, below_drewN hb 1⟩ | (go_split_ands; exact ⟨(hb'.cell (World.block_lt_of_cell? _ _ (by assumption))).trans (by assumption), (hb'.cell (World.block_lt_of_cell? _ _ (by assumption))).trans (by assumption), bnext (by assumption) hb'⟩)) (first | (go_at_call 79; refine (HS1.out _).mono ?_; rintro e w' ⟨rfl, hb'⟩) | (go_at_call 95; refine (l00Max_any _ _ _).mono ?_; rintro e w' ⟨rfl, rfl⟩))
      all_goals rename_i hHeld
      all_goals obtain ⟨q0, q1, hb⟩ := hHeld
      clear w1 w2
      go_wp2_with (first | (go_at_call 104; refine (l00Min_any _ _ _).mono ?_; rintro e w' ⟨rfl, rfl⟩))
      go_roundw
      case rel => exact ⟨k + 1, _, _, by omega, by omega, by go_num, rfl, rfl, hb, UN, VN⟩
      case measure => simp [intOf]; omega
    · have he : k = zs.length := by omega
      subst he
      rcases HRES.out with ⟨hgo, e0, e1, e2⟩ | ⟨hgo, e0, e1, e2⟩
      · have f1 : decide (v < u) = false := decide_eq_false (by unfold lowI' topI' at hgo; have := U.out; have := V.out; omega)
        have U2 := Lib.hid (U.out.trans e0.symm)
        have V2 := Lib.hid (V.out.trans e1.symm)
        have Z2 := Lib.hid e2
        clear U V e0 e1 e2 hgo
        go_wp2
        go_ret3
        exact ⟨by rw [← U2.out, ← V2.out, Z2.out]; rfl, hb⟩
      · have f1 : decide (v < u) = true := decide_eq_true (by unfold lowI' topI' at hgo; have := U.out; have := V.out; omega)
        have A0 := Lib.hid e0
        have A1 := Lib.hid e1
        have A2 := Lib.hid e2
        clear U V e0 e1 e2 hgo
        go_wp2
        go_ret3
        exact ⟨by rw [A0.out, A1.out, A2.out]; rfl, hb⟩
end Go.Proofs.Ytdaedgdglammhaa
