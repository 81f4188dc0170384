/-
  PeakHour of the model.
-/
import Derived.Test.YthidaoemonjemabLd9
namespace Go.Proofs.Ythidaoemonjemab
open Go.ChangeShapes Go.WideShapes Go.ChangeAt Go.RowKit

set_option maxRecDepth 100000
set_option maxHeartbeats 1600000
set_option linter.unusedVariables false

/-- the first place of the greatest among the places 0 to k -/
def bestTo (l : List Int) : Nat → Nat
  | 0 => 0
  | k + 1 => if l.getD (bestTo l k) 0 < l.getD (k + 1) 0 then k + 1 else bestTo l k
theorem bestTo_le (l : List Int) (k : Nat) : bestTo l k ≤ k := by
  induction k with
  | zero => exact Nat.le_refl _
  | succ k ih => unfold bestTo; split <;> omega
def peakHourR0 (ds : List Bl) (zs : List Int) : Int := if fcC ds zs = 0 then bestTo (fcX ds zs) 23 else 0
def peakHourR1 (ds : List Bl) (zs : List Int) : Int := if fcC ds zs = 0 then (fcX ds zs).getD (bestTo (fcX ds zs) 23) 0 else 0
def peakHourR2 (ds : List Bl) (zs : List Int) : Int := fcC ds zs

theorem specPeakHour_ds (A : Option Addr) (n c : Nat) (xs : List Bd) (B : Option Addr) (d : Nat) (zs : List Int) (w : World) (hx : BdsOk w A n xs) (hB : CellsAt w B (intsV zs)) (hz : zs.length ≤ 1048576) :
    Calls Try.prog 12 #[.slice A n c, .slice B zs.length d] w fun e w' => e = .returned (.tuple #[.int .i64 (peakHourR0 (xs.map Bd.d) zs), .int .i64 (peakHourR1 (xs.map Bd.d) zs), .int .i64 (peakHourR2 (xs.map Bd.d) zs)]) ∧ Below w.heap.size w w' := by
  have HA := Lib.hid (l05Ask_any A n c xs B d zs w hx hB hz)
  have HF := Lib.hid (fun k => l05Forecast_any A n c xs B d zs (w.drewN k) (hx.go (below_drewN (Below.refl _ _) k)) (hB.next (below_drewN (Below.refl _ _) k)))
  clear hx hB
  rcases fcC_ways (xs.map Bd.d) zs with h | h | h
  · have hX : peakHourR0 (xs.map Bd.d) zs = bestTo (fcX (xs.map Bd.d) zs) 23 := by unfold peakHourR0; rw [if_pos h]
    have hY : peakHourR1 (xs.map Bd.d) zs = (fcX (xs.map Bd.d) zs).getD (bestTo (fcX (xs.map Bd.d) zs) 23) 0 := by unfold peakHourR1; rw [if_pos h]
    have hC : peakHourR2 (xs.map Bd.d) zs = 0 := h
    obtain ⟨r, hr⟩ : ∃ r : Int, r = bestTo (fcX (xs.map Bd.d) zs) 23 := ⟨_, rfl⟩
    obtain ⟨q, hq⟩ : ∃ q : Int, q = (fcX (xs.map Bd.d) zs).getD (bestTo (fcX (xs.map Bd.d) zs) 23) 0 := ⟨_, rfl⟩
    rw [hX, hY, hC, ← hr, ← hq]
    have HR := Lib.hid hr
    have HQ := Lib.hid hq
    clear hX hY hC hr hq
    have hl : (fcX (xs.map Bd.d) zs).length = 24 := fcTo_length _ _ _
    go_enter Try.func12, Try.ntmps12
    go_wp2_with fail
    refine HA.out.mono ?_
    rintro e w1 ⟨rfl, ⟨k, rfl⟩⟩
    rw [h]
    go_wp2_with fail
    refine (HF.out _ h).mono ?_
    rintro e w2 ⟨T, tc, rfl, hown, hb2⟩
    rw [intsV_length]
    rw [hl]
    have HC := Lib.hid (owns_cells hown)
    have HE := Lib.hid (bnext (below_drewN (Below.refl _ _) k) hb2)
    clear hown hb2 h
    generalize fcX (xs.map Bd.d) zs = l at *
    obtain ⟨b0, o0, rfl, hc⟩ := HC.out (by rw [intsV_length]; omega)
    have HAT := Lib.hid (fun (q : Nat) (hq : q < 24) => show w2.cell? ⟨b0, o0 + q, none⟩ = some (.int .i64 (l.getD q 0)) by
      rw [hc q (by rw [intsV_length]; omega), intsV_at _ _ (by omega)]
      simp [List.getD, show q < l.length by omega])
    clear hc hl
    go_wp2
    go_loopw [9, 10] (fun s i wr => ∃ (q b : Nat), 1 ≤ q ∧ q ≤ 24 ∧ b < q ∧ s = .int .i64 b ∧ i = .int .i64 q ∧ Hid (b = bestTo l (q - 1)) ∧ Drawn w2 wr) (fun _ i _ => 24 - (intOf i).toNat)
    case atStart => exact ⟨1, 0, by omega, by omega, by omega, rfl, rfl, Lib.hid rfl, Drawn.rfl' _⟩
    case round =>
      obtain ⟨q, b, hq1, hq, hbq, rfl, rfl, HT, ⟨nr, rfl⟩⟩ := hrel
      have hcb := HAT.out b (by omega)
      by_cases hlt : q < 24
      · have hcell := HAT.out q hlt
        have HB := Lib.hid (show bestTo l q = if l.getD b 0 < l.getD q 0 then q else b by obtain ⟨p, rfl⟩ : ∃ p, q = p + 1 := ⟨q - 1, by omega⟩; rw [HT.out]; rfl)
        generalize l.getD q 0 = v at *
        generalize l.getD b 0 = u at *
        by_cases hvu : u < v
        · go_wp2
          go_quiet (fail)
          go_wp2
          go_roundw
          case rel => exact ⟨q + 1, q, by omega, by omega, by omega, rfl, by go_num, Lib.hid (by rw [Nat.add_sub_cancel, HB.out, if_pos hvu]), ⟨_, rfl⟩⟩
          case measure => simp [intOf]; omega
        · go_wp2
          go_quiet (fail)
          go_wp2
          go_roundw
          case rel => exact ⟨q + 1, b, by omega, by omega, by omega, rfl, by go_num, Lib.hid (by rw [Nat.add_sub_cancel, HB.out, if_neg (by omega)]), ⟨_, rfl⟩⟩
          case measure => simp [intOf]; omega
      · obtain rfl : q = 24 := by omega
        have HT' := Lib.hid HT.out.symm
        have HG := Lib.hid (show ∃ u, u = l.getD b 0 from ⟨_, rfl⟩)
        obtain ⟨u, hu⟩ := HG.out
        rw [← hu] at hcb
        have HU := Lib.hid hu
        clear hu HG
        go_wp2
        go_quiet (fail)
        go_wp2
        go_ret3
        exact ⟨by rw [HQ.out, HR.out, HT'.out, ← HU.out]; rfl, below_drewN (below_drewN HE.out _) _⟩
  all_goals
    have hX : peakHourR0 (xs.map Bd.d) zs = 0 := by unfold peakHourR0; rw [if_neg (by rw [h]; decide)]
    have hY : peakHourR1 (xs.map Bd.d) zs = 0 := by unfold peakHourR1; rw [if_neg (by rw [h]; decide)]
    have hC := show peakHourR2 (xs.map Bd.d) zs = _ from h
    rw [hX, hY, hC]
    clear hX hY hC
    go_enter Try.func12, Try.ntmps12
    go_wp2_with fail
    refine HA.out.mono ?_
    rintro e w1 ⟨rfl, ⟨k, rfl⟩⟩
    rw [h]
    go_wp2
    go_ret3
    exact ⟨rfl, below_drewN (Below.refl _ _) _⟩

end Go.Proofs.Ythidaoemonjemab
