/-
  ForecastOf and HeatOf of both sides.
-/
import Derived.Test.YthidaoemonjemabLd6
namespace Go.Proofs.Ythidaoemonjemab
open Go.ChangeShapes Go.WideShapes Go.ChangeAt Go.RowKit

set_option maxRecDepth 100000
set_option maxHeartbeats 700000
set_option linter.unusedVariables false

theorem fcTo_length (ds : List Bl) (zs : List Int) (k : Nat) : (fcTo ds zs k).length = k := by simp [fcTo]
theorem fcTo_succ (ds : List Bl) (zs : List Int) (k : Nat) : fcTo ds zs (k + 1) = fcTo ds zs k ++ [sumI ds (zs.getD k 0) k] := by unfold fcTo; rw [List.range_succ, List.map_append]; rfl
def forecastOfX (ds : List Bl) (zs : List Int) : List Int := if fcC ds zs = 0 then fcX ds zs else []
def forecastOfC (ds : List Bl) (zs : List Int) : Int := fcC ds zs
theorem forecastOfX_short (ds : List Bl) (zs : List Int) : (forecastOfX ds zs).length ≤ 1048576 := by
  unfold forecastOfX fcX
  split
  · rw [fcTo_length]; omega
  · simp
theorem fcC_ok {ds : List Bl} {zs : List Int} (h : fcC ds zs = 0) : okBs ds = true ∧ dayB zs = true := by
  unfold fcC at h
  by_cases h1 : okBs ds = true
  · by_cases h2 : dayB zs = true
    · exact ⟨h1, h2⟩
    · simp [h1, h2] at h
  · simp [h1] at h
theorem dayB_parts {zs : List Int} (h : dayB zs = true) : zs.length = 24 ∧ allIn (-4000) 4500 zs = true := by
  unfold dayB at h
  simpa using h
theorem fc_bd {ds : List Bl} {zs : List Int} (h : fcC ds zs = 0) (k j : Nat) : 0 ≤ (fcTo ds zs k).getD j 0 ∧ (fcTo ds zs k).getD j 0 ≤ 138000000 := by
  obtain ⟨h1, h2⟩ := fcC_ok h
  obtain ⟨b1, b2, -⟩ := okBs_parts h1
  obtain ⟨z1, z2⟩ := dayB_parts h2
  by_cases hj : j < k
  · have e : (fcTo ds zs k).getD j 0 = sumI ds (zs.getD j 0) j := by simp [fcTo, List.getD, hj]
    rw [e]
    by_cases hj2 : j < zs.length
    · have ht := allIn_at _ _ zs z2 j hj2
      have := take_sum_bd b2 b1 (zs.getD j 0) j ht.1 ht.2 ds.length
      rw [sumI_all] at this
      exact this
    · have e0 : zs.getD j 0 = 0 := by simp [List.getD, Nat.le_of_not_lt hj2]
      rw [e0]
      have := take_sum_bd b2 b1 0 j (by omega) (by omega) ds.length
      rw [sumI_all] at this
      exact this
  · have e : (fcTo ds zs k).getD j 0 = 0 := by simp [fcTo, List.getD, hj]
    rw [e]; omega

theorem l05Day_any (B : Option Addr) (d : Nat) (zs : List Int) (w : World) (hB : CellsAt w B (intsV zs)) (hz : zs.length ≤ 1048576) :
    Calls Try.prog 74 #[.slice B zs.length d] w fun e w' => e = .returned (.bool (dayB zs)) ∧ w = w' := by
  have hm : zs.length ≤ 9223372036854775807 := by omega
  have HB := Lib.hid hB
  clear hB
  go_enter Try.func74, Try.ntmps74
  go_wp2
  go_loop [3] (fun i => ∃ k : Nat, k ≤ zs.length ∧ i = .int .i64 k ∧ Hid (allIn (-4000) 4500 (zs.take k) = true)) (fun i => zs.length - (intOf i).toNat)
  case atStart => exact ⟨0, Nat.zero_le _, rfl, Lib.hid (by simp [allIn])⟩
  case round =>
    obtain ⟨k, hk, rfl, HA⟩ := hrel
    by_cases hlt : k < zs.length
    · obtain ⟨b0, o0, rfl, hc⟩ := HB.out (by rw [intsV_length]; omega)
      have hcell : w.cell? ⟨b0, o0 + k, none⟩ = some (.int .i64 (zs.getD k 0)) := by
        rw [hc k (by rw [intsV_length]; exact hlt), intsV_at _ _ hlt]
        simp [List.getD, hlt]
      have HTS := Lib.hid (allIn_take_succ (-4000) 4500 zs k hlt)
      have HFS := Lib.hid (allIn_false (-4000) 4500 zs k hlt)
      generalize zs.getD k 0 = z at *
      clear hc
      by_cases hz : inB z (-4000) 4500 = true
      · have HI := Lib.hid (inB_iff.1 hz)
        go_wp2_with ((go_at_call 99; refine (l05Outdoor_any _ _).mono ?_; rintro e w' ⟨rfl, rfl⟩))
        go_round
        case rel => exact ⟨k + 1, by omega, by go_num, Lib.hid (by rw [HTS.out, HA.out, Bool.true_and]; exact decide_eq_true HI.out)⟩
        case measure => simp [intOf]; omega
      · have hz' : inB z (-4000) 4500 = false := by simpa using hz
        have HN := Lib.hid (HFS.out (fun h => hz (inB_true h)))
        have HV := Lib.hid (show dayB zs = false from by unfold dayB; rw [HN.out]; simp)
        clear hz
        go_wp2_with ((go_at_call 99; refine (l05Outdoor_any _ _).mono ?_; rintro e w' ⟨rfl, rfl⟩))
        go_ret
        exact ⟨by rw [HV.out]; rfl, rfl⟩
    · have e : k = zs.length := by omega
      subst e
      have HV := Lib.hid (show dayB zs = decide (zs.length = 24) from by have := HA.out; rw [List.take_length] at this; unfold dayB; rw [this]; simp)
      have hbq : ((zs.length : Int) == 24) = decide (zs.length = 24) := by
        by_cases h : zs.length = 24
        · simp [h]
        · have : ¬ (zs.length : Int) = 24 := by omega
          simp [h, this]
      go_wp2
      go_ret
      exact ⟨by rw [HV.out]; first | rfl | (simp [hbq]), rfl⟩
theorem l05Ask_any (A : Option Addr) (n c : Nat) (xs : List Bd) (B : Option Addr) (d : Nat) (zs : List Int) (w : World) (hx : BdsOk w A n xs) (hB : CellsAt w B (intsV zs)) (hz : zs.length ≤ 1048576) :
    Calls Try.prog 41 #[.slice A n c, .slice B zs.length d] w fun e w' => e = .returned (.int .i64 (fcC (xs.map Bd.d) zs)) ∧ Drawn w w' := by
  have HO := Lib.hid (fun k => l05Ok_any A n c xs (w.drewN k) (hx.go (below_drewN (Below.refl _ _) k)))
  have HD := Lib.hid (fun k => l05Day_any B d zs (w.drewN k) (hB.next (below_drewN (Below.refl _ _) k)) hz)
  clear hx hB
  by_cases ho : okBs (xs.map Bd.d) = true
  rotate_left
  · have ho : okBs (xs.map Bd.d) = false := by simpa only [Bool.not_eq_true] using ho
    have HFC := Lib.hid (show fcC (xs.map Bd.d) zs = 1 from by unfold fcC; rw [ho]; rfl)
    go_enter Try.func41, Try.ntmps41
    go_wp2_with fail
    refine (HO.out 0).mono ?_
    rintro e w1 ⟨rfl, ⟨k, rfl⟩⟩
    rw [ho]
    go_wp2
    go_ret
    exact ⟨by rw [HFC.out]; rfl, ⟨_, rfl⟩⟩
  have HFC := Lib.hid (show fcC (xs.map Bd.d) zs = if dayB zs then 0 else 7 from by unfold fcC; rw [ho]; rfl)
  generalize dayB zs = v at *
  go_enter Try.func41, Try.ntmps41
  go_wp2_with fail
  refine (HO.out 0).mono ?_
  rintro e w1 ⟨rfl, ⟨k, rfl⟩⟩
  rw [ho]
  go_wp2_with fail
  refine (HD.out _).mono ?_
  rintro e w2 ⟨rfl, rfl⟩
  cases v
  · go_wp2
    go_ret
    exact ⟨by rw [HFC.out]; rfl, ⟨_, rfl⟩⟩
  · go_wp2
    go_ret
    exact ⟨by rw [HFC.out]; rfl, ⟨_, rfl⟩⟩

theorem l05Forecast_any (A : Option Addr) (n c : Nat) (xs : List Bd) (B : Option Addr) (d : Nat) (zs : List Int) (w : World) (hx : BdsOk w A n xs) (hB : CellsAt w B (intsV zs)) (hfc : fcC (xs.map Bd.d) zs = 0) :
    Calls Try.prog 42 #[.slice A n c, .slice B zs.length d] w (RetRow 2 (intsV (fcX (xs.map Bd.d) zs)) w) := by
  obtain ⟨i0, hi, hz0, hz1, hz2⟩ := info_parts infoI64
  obtain ⟨ho, hd⟩ := fcC_ok hfc
  obtain ⟨b1, b2, -⟩ := okBs_parts ho
  rw [List.length_map] at b1
  have hlen := hx.1.1
  have b1 : n ≤ 12 := by omega
  obtain ⟨hz24, hza⟩ := dayB_parts hd
  have HX := Lib.hid hx
  have HB := Lib.hid hB
  have HB2 := Lib.hid b2
  have HTI := Lib.hid (fun (k : Nat) (hk : k < 24) => allIn_at (-4000) 4500 zs hza k (by omega))
  have hz24a : 24 ≤ zs.length := by omega
  clear hx hB b2 ho hd hza hfc hz24 hlen
  go_enter Try.func42, Try.ntmps42
  go_wp2
  go_loopw [5, 6] (fun v i wr => ∃ (k : Nat) (T : Option Addr) (td : Nat), k ≤ 24 ∧ i = .int .i64 k ∧ v = .slice T k td ∧ wr.ownsRow w.heap.size 2 1 (.slice T k td) k (intsV (fcTo (xs.map Bd.d) zs k)) ∧ Below w.heap.size w wr) (fun _ i _ => 24 - (intOf i).toNat)
  case atStart => exact ⟨0, _, _, Nat.zero_le _, rfl, rfl, owns_empty _ _ _ (Nat.le_refl _), (Below.refl _ _).alloc (Nat.le_refl _) _⟩
  case round =>
    obtain ⟨k, T, td, hk', rfl, rfl, hro, hb⟩ := hrel
    by_cases hlt : k < 24
    · have hcs : intsV (fcTo (xs.map Bd.d) zs (k + 1)) = intsV (fcTo (xs.map Bd.d) zs k) ++ [Value.int .i64 (sumI (xs.map Bd.d) (zs.getD k 0) k)] := by
        rw [fcTo_succ, intsV_snoc]
      have HS := Lib.hid hcs
      obtain ⟨b0, o0, rfl, hc⟩ := HB.out (by rw [intsV_length]; omega)
      have hcell : wr.cell? ⟨b0, o0 + k, none⟩ = some (.int .i64 (zs.getD k 0)) := by
        have h1 : w.cell? ⟨b0, o0 + k, none⟩ = some (.int .i64 (zs.getD k 0)) := by
          rw [hc k (by rw [intsV_length]; omega), intsV_at _ _ (by omega)]
          simp [List.getD, show k < zs.length by omega]
        exact (hb.cell (p := ⟨b0, o0 + k, none⟩) (World.block_lt_of_cell? _ _ h1)).trans h1
      have ht := HTI.out k hlt
      have HC := Lib.hid (fun j => l05Sum_any A n c xs (zs.getD k 0) k (wr.drewN j) ((HX.out.go hb).go (below_drewN (Below.refl _ _) j)) HB2.out b1 ht.1 ht.2 (by omega) (by omega))
      generalize sumI (xs.map Bd.d) (zs.getD k 0) k = v at *
      generalize zs.getD k 0 = t at *
      clear hcs hc
      go_wp2_with fail
      refine (HC.out 0).mono ?_
      rintro e w1 ⟨rfl, ⟨k2, rfl⟩⟩
      have hb1 : Below w.heap.size w ((wr.drewN 0).drewN k2) := below_drewN (below_drewN hb 0) k2
      have hro1 := owns_below hro (below_drewN (below_drewN (Below.refl wr.heap.size wr) 0) k2) (Nat.le_refl _)
      go_wp2_with (at_builtin; refine wpList_append_own _ rfl _ _ 23 rfl w.heap.size 2 i0 (.int .i64 0) 1 8 Try.underlying23 hi hz0 hz1 hz2 rfl (by decide) _ _ _ rfl (hro1.alloc _) ⟨wr.heap.size, 0, none⟩ 1 1 [.int .i64 v] rfl rfl (cell_one_new _ _ _) (by simp [Value.oneCell']) ?_ ?_ ?_ ?_; (unfold maxLen; omega); (omega); (have := hb.size; simp; omega); intro v4 w4 hown4 hgrow4 _)
      obtain ⟨T4, d4, rfl⟩ := owns_form hown4
      go_roundw
      case rel =>
        exact ⟨k + 1, T4, d4, by omega, by go_num, rfl, by rw [HS.out]; exact hown4, (bal hb1 _).grown hgrow4 (by have := hb.size; simp; omega) (owns_ge hro)⟩
      case measure => simp [intOf]; omega
    · obtain rfl : k = 24 := by omega
      go_wp2
      go_ret
      exact retRow_mk rfl hro rfl hb

theorem fcC_ways (ds : List Bl) (zs : List Int) : fcC ds zs = 0 ∨ fcC ds zs = 1 ∨ fcC ds zs = 7 := by
  unfold fcC
  cases okBs ds <;> cases dayB zs <;> simp
def tot (l : List Int) (k : Nat) : Int := ((List.range k).map (fun j => l.getD j 0)).sum
theorem tot_succ (l : List Int) (k : Nat) : tot l (k + 1) = tot l k + l.getD k 0 := by
  unfold tot
  rw [List.range_succ, List.map_append, List.sum_append]
  simp
theorem tot_bd {ds : List Bl} {zs : List Int} (h : fcC ds zs = 0) (k : Nat) : 0 ≤ tot (fcX ds zs) k ∧ tot (fcX ds zs) k ≤ 138000000 * k := by
  induction k with
  | zero => simp [tot]
  | succ k ih =>
    rw [tot_succ]
    have := fc_bd h 24 k
    unfold fcX at *
    omega
def heatOfR0 (ds : List Bl) (zs : List Int) : Int := if fcC ds zs = 0 then nearI (tot (fcX ds zs) 24) 1000 else 0
def heatOfR1 (ds : List Bl) (zs : List Int) : Int := fcC ds zs
end Go.Proofs.Ythidaoemonjemab
