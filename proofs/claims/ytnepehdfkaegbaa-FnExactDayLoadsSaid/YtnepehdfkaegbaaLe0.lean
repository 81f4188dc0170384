/-
  DayLoads of both sides.
-/
import Derived.Test.YtnepehdfkaegbaaLd9
import Derived.Test.YtnepehdfkaegbaaLd3
namespace Go.Proofs.Ytnepehdfkaegbaa
open Go.ChangeShapes Go.WideShapes Go.ChangeAt Go.RowKit

set_option maxRecDepth 100000
set_option maxHeartbeats 1600000
set_option linter.unusedVariables false

theorem okBs_one (d : Bl) : okBs [d] = d.ok := by
  unfold okBs
  simp [keysBl, riseK, riseKAt]
theorem sumI_one (d : Bl) (t h : Int) : sumI [d] t h = loadI d t h := by simp [sumI]
def dayLoadsX (d : Bl) (zs : List Int) : List Int := forecastOfX [d] zs
def dayLoadsC (d : Bl) (zs : List Int) : Int := forecastOfC [d] zs
theorem dayLoadsX_short (d : Bl) (zs : List Int) : (dayLoadsX d zs).length ≤ 1048576 := forecastOfX_short [d] zs

theorem specDayLoads_ic (x : Bd) (B : Option Addr) (d : Nat) (zs : List Int) (w : World) (hx : x.okay w) (hB : CellsAt w B (intsV zs)) (hz : zs.length ≤ 1048576) :
    Calls Try.prog 35 #[.agg #[.string x.d.id, .int .i64 x.d.nd, .int .i64 x.d.ba, .int .i64 x.d.sl, .int .i64 x.d.li, .slice x.prA x.d.pr.length x.prc], .slice B zs.length d] w (RetIC (dayLoadsX x.d zs) (dayLoadsC x.d zs) w) := by
  obtain ⟨i0, hi, hz0, hz1, hz2⟩ := info_parts infoI64
  have hb0 : Below w.heap.size w (w.alloc (.cells #[.string x.d.id, .int .i64 x.d.nd, .int .i64 x.d.ba, .int .i64 x.d.sl, .int .i64 x.d.li, .slice x.prA x.d.pr.length x.prc] 40)) := bal (Below.refl _ _) _
  have hN := BdO.new w x 40
  have HO := Lib.hid (fun k => l05One_any w.heap.size 0 x ((w.alloc (.cells #[.string x.d.id, .int .i64 x.d.nd, .int .i64 x.d.ba, .int .i64 x.d.sl, .int .i64 x.d.li, .slice x.prA x.d.pr.length x.prc] 40)).drewN k) hN (hx.go hb0).1)
  have HD := Lib.hid (fun wx (hb : Below w.heap.size w wx) => l05Day_any B d zs wx (hB.next hb) hz)
  have HX := Lib.hid (hx.go hb0).1
  have HB := Lib.hid (hB.next hb0)
  have HN := Lib.hid hN
  have HB0 := Lib.hid hb0
  clear hx hB hN
  by_cases ho : x.d.ok = true
  rotate_left
  · have ho : x.d.ok = false := by simpa only [Bool.not_eq_true] using ho
    have hc : fcC [x.d] zs = 1 := by unfold fcC; rw [okBs_one, ho]; rfl
    have hX : dayLoadsX x.d zs = [] := by unfold dayLoadsX forecastOfX; rw [if_neg (by rw [hc]; decide)]
    have hC := show dayLoadsC x.d zs = _ from hc
    rw [hX, hC]
    clear hX hC hc
    go_enter Try.func35, Try.ntmps35
    go_wp2_with fail
    refine (HO.out 0).mono ?_
    rintro e w' ⟨rfl, ⟨n1, rfl⟩⟩
    rw [ho]
    go_wp2
    go_ret2
    exact retIC_nil rfl (below_drewN HB0.out _)
  by_cases hd : dayB zs = true
  rotate_left
  · have hd : dayB zs = false := by simpa only [Bool.not_eq_true] using hd
    have hc : fcC [x.d] zs = 7 := by unfold fcC; rw [okBs_one, ho, hd]; rfl
    have hX : dayLoadsX x.d zs = [] := by unfold dayLoadsX forecastOfX; rw [if_neg (by rw [hc]; decide)]
    have hC := show dayLoadsC x.d zs = _ from hc
    rw [hX, hC]
    clear hX hC hc
    go_enter Try.func35, Try.ntmps35
    go_wp2_with fail
    refine (HO.out 0).mono ?_
    rintro e w' ⟨rfl, ⟨n1, rfl⟩⟩
    rw [ho]
    go_wp2_with fail
    refine (HD.out _ (below_drewN HB0.out _)).mono ?_
    rintro e w' ⟨rfl, rfl⟩
    rw [hd]
    go_wp2
    go_ret2
    exact retIC_nil rfl (below_drewN HB0.out _)
  have hfc : fcC [x.d] zs = 0 := by unfold fcC; rw [okBs_one, ho, hd]; rfl
  have hX : dayLoadsX x.d zs = fcX [x.d] zs := by unfold dayLoadsX forecastOfX; rw [if_pos hfc]
  have hC := show dayLoadsC x.d zs = _ from hfc
  rw [hX, hC]
  clear hX hC hfc
  obtain ⟨hz24, hza⟩ := dayB_parts hd
  have HTI := Lib.hid (fun (k : Nat) (hk : k < 24) => allIn_at (-4000) 4500 zs hza k (by omega))
  have hz24a : 24 ≤ zs.length := by omega
  have HOK := Lib.hid ho
  clear hza hz24
  go_enter Try.func35, Try.ntmps35
  go_wp2_with fail
  refine (HO.out 0).mono ?_
  rintro e w' ⟨rfl, ⟨n1, rfl⟩⟩
  rw [ho]
  go_wp2_with fail
  refine (HD.out _ (below_drewN HB0.out _)).mono ?_
  rintro e w' ⟨rfl, rfl⟩
  rw [hd]
  clear hd ho
  go_wp2
  go_loopw [6, 7] (fun v i wr => ∃ (k : Nat) (T : Option Addr) (td : Nat), k ≤ 24 ∧ i = .int .i64 k ∧ v = .slice T k td ∧ wr.ownsRow (w.alloc (.cells #[.string x.d.id, .int .i64 x.d.nd, .int .i64 x.d.ba, .int .i64 x.d.sl, .int .i64 x.d.li, .slice x.prA x.d.pr.length x.prc] 40)).heap.size 2 1 (.slice T k td) k (intsV (fcTo [x.d] zs k)) ∧ Hid (Below (w.alloc (.cells #[.string x.d.id, .int .i64 x.d.nd, .int .i64 x.d.ba, .int .i64 x.d.sl, .int .i64 x.d.li, .slice x.prA x.d.pr.length x.prc] 40)).heap.size (w.alloc (.cells #[.string x.d.id, .int .i64 x.d.nd, .int .i64 x.d.ba, .int .i64 x.d.sl, .int .i64 x.d.li, .slice x.prA x.d.pr.length x.prc] 40)) wr)) (fun _ i _ => 24 - (intOf i).toNat)
  case atStart => exact ⟨0, _, _, Nat.zero_le _, rfl, rfl, (by have ho0 := owns_empty ((w.alloc (.cells #[.string x.d.id, .int .i64 x.d.nd, .int .i64 x.d.ba, .int .i64 x.d.sl, .int .i64 x.d.li, .slice x.prA x.d.pr.length x.prc] 40)).drewN n1) (w.alloc (.cells #[.string x.d.id, .int .i64 x.d.nd, .int .i64 x.d.ba, .int .i64 x.d.sl, .int .i64 x.d.li, .slice x.prA x.d.pr.length x.prc] 40)).heap.size 2 (Nat.le_refl _); have e0 : ((w.alloc (.cells #[.string x.d.id, .int .i64 x.d.nd, .int .i64 x.d.ba, .int .i64 x.d.sl, .int .i64 x.d.li, .slice x.prA x.d.pr.length x.prc] 40)).drewN n1).heap.size = w.heap.size + 1 := (by first | simp | (show (w.alloc (.cells #[.string x.d.id, .int .i64 x.d.nd, .int .i64 x.d.ba, .int .i64 x.d.sl, .int .i64 x.d.li, .slice x.prA x.d.pr.length x.prc] 40)).heap.size = _; simp)); rw [e0] at ho0; exact ho0), Lib.hid (bal (below_drewN (below_drewN (Below.refl _ _) 0) n1) _)⟩
  case round =>
    obtain ⟨k, T, td, hk', rfl, rfl, hro, Hb⟩ := hrel
    by_cases hlt : k < 24
    · have hcs : intsV (fcTo [x.d] zs (k + 1)) = intsV (fcTo [x.d] zs k) ++ [Value.int .i64 (loadI x.d (zs.getD k 0) k)] := by
        rw [fcTo_succ, intsV_snoc, sumI_one]
      have HS := Lib.hid hcs
      obtain ⟨b0, o0, rfl, hc⟩ := HB.out (by rw [intsV_length]; omega)
      have hcell : wr.cell? ⟨b0, o0 + k, none⟩ = some (.int .i64 (zs.getD k 0)) := by
        have h1 : (w.alloc (.cells #[.string x.d.id, .int .i64 x.d.nd, .int .i64 x.d.ba, .int .i64 x.d.sl, .int .i64 x.d.li, .slice x.prA x.d.pr.length x.prc] 40)).cell? ⟨b0, o0 + k, none⟩ = some (.int .i64 (zs.getD k 0)) := by
          rw [hc k (by rw [intsV_length]; omega), intsV_at _ _ (by omega)]
          simp [List.getD, show k < zs.length by omega]
        exact (Hb.out.cell (p := ⟨b0, o0 + k, none⟩) (World.block_lt_of_cell? _ _ h1)).trans h1
      have ht := HTI.out k hlt
      have HC := Lib.hid (fun j => l05Load_any w.heap.size 0 x (zs.getD k 0) k (wr.drewN j) ((HN.out.next Hb.out).next (below_drewN (Below.refl _ _) j)) ((HX.out.go Hb.out).go (below_drewN (Below.refl _ _) j)) HOK.out ht.1 ht.2 (by omega) (by omega))
      generalize loadI x.d (zs.getD k 0) k = v at *
      generalize zs.getD k 0 = t at *
      clear hcs hc
      go_wp2_with fail
      refine (HC.out 0).mono ?_
      rintro e w1 ⟨rfl, ⟨k2, rfl⟩⟩
      have Hb1 := Lib.hid (below_drewN (below_drewN Hb.out 0) k2)
      have hsz := Hb.out.size
      have hro1 := owns_below hro (below_drewN (below_drewN (Below.refl wr.heap.size wr) 0) k2) (Nat.le_refl _)
      go_wp2_with (at_builtin; refine wpList_append_own _ rfl _ _ 26 rfl (w.alloc (.cells #[.string x.d.id, .int .i64 x.d.nd, .int .i64 x.d.ba, .int .i64 x.d.sl, .int .i64 x.d.li, .slice x.prA x.d.pr.length x.prc] 40)).heap.size 2 i0 (.int .i64 0) 1 8 Try.underlying26 hi hz0 hz1 hz2 rfl (by decide) _ _ _ rfl (hro1.alloc _) ⟨wr.heap.size, 0, none⟩ 1 1 [.int .i64 v] rfl rfl (cell_one_new _ _ _) (by simp [Value.oneCell']) ?_ ?_ ?_ ?_; (unfold maxLen; omega); (omega); (simp at *; omega); intro v4 w4 hown4 hgrow4 _)
      obtain ⟨T4, d4, rfl⟩ := owns_form hown4
      go_roundw
      case rel => exact ⟨k + 1, T4, d4, by omega, by go_num, rfl, by rw [HS.out]; exact hown4, Lib.hid ((bal Hb1.out _).grown hgrow4 (by simp at *; omega) (owns_ge hro))⟩
      case measure => simp [intOf]; omega
    · obtain rfl : k = 24 := by omega
      go_wp2
      go_ret2
      exact retIC_mk rfl hro (by simp) (bnext HB0.out Hb.out)

theorem bds_one (x : Bd) (w : World) (hx : x.okay w) : BdsOk (w.alloc (.cells #[.string x.d.id, .int .i64 x.d.nd, .int .i64 x.d.ba, .int .i64 x.d.sl, .int .i64 x.d.li, .slice x.prA x.d.pr.length x.prc] 40)) (some ⟨w.heap.size, 0, none⟩) 1 [x] := by
  have hb : Below w.heap.size w (w.alloc (.cells #[.string x.d.id, .int .i64 x.d.nd, .int .i64 x.d.ba, .int .i64 x.d.sl, .int .i64 x.d.li, .slice x.prA x.d.pr.length x.prc] 40)) := bal (Below.refl _ _) _
  refine ⟨⟨rfl, by unfold maxLen; omega, fun _ => ⟨w.heap.size, 0, rfl, fun k hk => ?_⟩, ?_⟩, by omega, ?_⟩
  · have hk : k < 6 := hk
    rcases k with _ | _ | _ | _ | _ | _ | k
    all_goals first | (simp [rowsBd, Bd.cs]; done) | omega
  · intro y hy
    obtain rfl : y = x := by simpa using hy
    exact (hx.go hb).1
  · intro y hy
    obtain rfl : y = x := by simpa using hy
    exact hx.2
theorem implDayLoads_ic (x : Bd) (B : Option Addr) (d : Nat) (zs : List Int) (w : World) (hx : x.okay w) (hB : CellsAt w B (intsV zs)) (hz : zs.length ≤ 1048576) :
    Calls Try.prog 37 #[.agg #[.string x.d.id, .int .i64 x.d.nd, .int .i64 x.d.ba, .int .i64 x.d.sl, .int .i64 x.d.li, .slice x.prA x.d.pr.length x.prc], .slice B zs.length d] w (RetICE 68 (dayLoadsX x.d zs) (dayLoadsC x.d zs) w) := by
  have hb0 : Below w.heap.size w (w.alloc (.cells #[.string x.d.id, .int .i64 x.d.nd, .int .i64 x.d.ba, .int .i64 x.d.sl, .int .i64 x.d.li, .slice x.prA x.d.pr.length x.prc] 40)) := bal (Below.refl _ _) _
  have hb1 : Below w.heap.size w ((w.alloc (.cells #[.string x.d.id, .int .i64 x.d.nd, .int .i64 x.d.ba, .int .i64 x.d.sl, .int .i64 x.d.li, .slice x.prA x.d.pr.length x.prc] 40)).alloc (.cells #[.string x.d.id, .int .i64 x.d.nd, .int .i64 x.d.ba, .int .i64 x.d.sl, .int .i64 x.d.li, .slice x.prA x.d.pr.length x.prc] 40)) := bal hb0 _
  have h1 := bds_one x (w.alloc (.cells #[.string x.d.id, .int .i64 x.d.nd, .int .i64 x.d.ba, .int .i64 x.d.sl, .int .i64 x.d.li, .slice x.prA x.d.pr.length x.prc] 40)) (hx.go hb0)
  have e0 : (w.alloc (.cells #[.string x.d.id, .int .i64 x.d.nd, .int .i64 x.d.ba, .int .i64 x.d.sl, .int .i64 x.d.li, .slice x.prA x.d.pr.length x.prc] 40)).heap.size = w.heap.size + 1 := by simp
  rw [e0] at h1
  have HF := Lib.hid (implForecastOf_ic (some ⟨w.heap.size + 1, 0, none⟩) 1 1 [x] B d zs _ h1 (hB.next hb1) hz)
  have HB1 := Lib.hid hb1
  clear hx hB h1 e0 hb0 hb1
  go_enter Try.func37, Try.ntmps37
  go_wp2_with fail
  refine HF.out.mono ?_
  rintro e w2 ⟨T, tc, rfl, hown, hb2⟩
  go_wp2
  go_ret2
  exact retICE_mk rfl hown HB1.out.size (bnext HB1.out hb2)

end Go.Proofs.Ytnepehdfkaegbaa
