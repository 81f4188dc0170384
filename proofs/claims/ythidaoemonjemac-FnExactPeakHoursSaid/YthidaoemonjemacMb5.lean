/-
  PeakHours of the program.
-/
import Derived.Test.YthidaoemonjemacMa2
import Derived.Test.YthidaoemonjemacMa6
namespace Go.Proofs.Ythidaoemonjemac
open Go.ChangeShapes Go.WideShapes Go.ChangeAt Go.RowKit Go.Sort

set_option maxRecDepth 100000
set_option maxHeartbeats 1600000
set_option linter.unusedVariables false

/-- the hours of the first k places, the greatest powers first -/
def hrsI (xs : List Rg) (k : Nat) : List Int := ((rankI (powI xs)).take k).map fun p => (rgAt xs (p.toNat + 1)).h
def peakHoursC (xs : List Rg) (count : Int) : Int := if okRs xs = true then (if inB count 0 ((xs.length - 1 : Nat) : Int) then 0 else 2) else 1
def peakHoursX (xs : List Rg) (count : Int) : List Int := if peakHoursC xs count = 0 then (hrsI xs count.toNat).mergeSort (fun x y => decide (x ≤ y)) else []
theorem rankI_at (l : List Int) (j : Nat) (hj : j < l.length) : ∃ q : Nat, (rankI l)[j]? = some ((q : Nat) : Int) ∧ q < l.length := by
  obtain ⟨m, hm⟩ : ∃ m, l.length = m + 1 := ⟨l.length - 1, by omega⟩
  rw [rankI_of l m hm]
  have hn := rankF_length l m
  refine ⟨((rankF l m)[j]'(by omega)).val, ?_, by omega⟩
  simp [show j < (rankF l m).length by omega]
theorem hrsI_length (xs : List Rg) (k : Nat) (hk : k ≤ xs.length - 1) : (hrsI xs k).length = k := by
  unfold hrsI
  rw [List.length_map, List.length_take, rankI_length, powI_length]; omega
theorem hrsI_at (xs : List Rg) (k j q : Nat) (hj : j < k) (hq : (rankI (powI xs))[j]? = some ((q : Nat) : Int)) : (hrsI xs k)[j]? = some (rgAt xs (q + 1)).h := by
  unfold hrsI
  rw [List.getElem?_map, List.getElem?_take_of_lt hj, hq]
  simp
theorem cellsAt_set {w : World} {b o g : Nat} {vs : List Value} (h : CellsAt w (some ⟨b, o, none⟩) vs) (hne : b ≠ g) (j : Nat) (v : Value) : CellsAt (w.setCell ⟨g, j, none⟩ v) (some ⟨b, o, none⟩) vs := by
  intro h0
  obtain ⟨b', o', e, hc⟩ := h h0
  cases e
  exact ⟨b, o, rfl, fun i hi => (World.cell?_setCell_other _ _ _ _ (by intro hh; injection hh with h1; exact hne h1.symm)).trans (hc i hi)⟩
theorem sortI_any (base g k : Nat) (hs : List Int) (W : World) (hk : hs.length = k) (hn : k ≤ 1048576) (hown : W.ownsRow base 2 1 (.slice (some ⟨g, 0, none⟩) k k) k (intsV hs)) :
    Calls Try.prog 22 #[.slice (some ⟨g, 0, none⟩) k k] W fun e w' => e = .returned (.tuple #[]) ∧ w'.ownsRow base 2 1 (.slice (some ⟨g, 0, none⟩) k k) k (intsV (hs.mergeSort fun x y => decide (x ≤ y))) ∧ W.grownBy w' (some g) := by
  obtain ⟨g', cap', cur, hvv, hbase, hg, h1, h2, h3, htake⟩ : ∃ g' cap' cur, Value.slice (some ⟨g, 0, none⟩) k k = .slice (some ⟨g', 0, none⟩) k cap' ∧ base ≤ g' ∧ W.heap[g']? = some (.cells cur 2 (0, 0)) ∧ k ≤ cap' ∧ cap' ≤ maxLen ∧ cur.size = cap' * 1 ∧ cur.toList.take (k * 1) = intsV hs := by
    rcases hown.2 with ⟨h0, _⟩ | h
    · cases h0
    · exact h
  cases hvv
  have hgl : g < W.heap.size := by
    rcases Nat.lt_or_ge g W.heap.size with h | h
    · exact h
    · rw [Array.getElem?_eq_none h] at hg; cases hg
  have hH := holds_of_blockI (ss := hs) hg (by rw [hk]; simpa [intsV] using htake)
  have hS := AnyM.slices_Sort_int Try.sortI g 0 k hs W hH hgl (by omega)
  change Calls Try.prog 22 _ _ _ at hS
  rw [hk] at hS
  refine hS.mono ?_
  rintro e w' ⟨rfl, n, os, rfl⟩
  have hl : (hs.mergeSort fun x y => decide (x ≤ y)).length = hs.length := List.length_mergeSort _
  have h := ownsRow_sortedI (w := W) (base := base) (g := g) (cap := k) (n := n) (e := 2) (os := os) (cur := cur) (ss := hs) (ts := hs.mergeSort fun x y => decide (x ≤ y)) hl hbase hg (by rw [hk]; exact h1) h2 h3
  rw [hk] at h
  exact ⟨rfl, h, grownBy_sortedI _⟩
theorem implPeakHours_ic (A : Option Addr) (n c : Nat) (xs : List Rg) (count : Int) (w : World) (h : RgsOk w A n xs) :
    Calls Try.prog 7 #[.slice A n c, .int .i64 count] w (RetIC (peakHoursX xs count) (peakHoursC xs count) w) := by
  have HM := Lib.hid (newMeter_any A n c xs w h)
  by_cases ho : okRs xs = true
  rotate_left
  · have ho : okRs xs = false := by simpa only [Bool.not_eq_true] using ho
    have hC : peakHoursC xs count = 1 := by unfold peakHoursC; rw [ho]; rfl
    have hX : peakHoursX xs count = [] := by unfold peakHoursX; rw [hC]; rfl
    rw [hX, hC]
    clear hX hC
    go_enter Try.func7, Try.ntmps7
    go_wp2_with fail
    refine HM.out.mono ?_
    rintro e w1 (⟨hn, -⟩ | ⟨-, rfl, hb⟩)
    · rw [ho] at hn; cases hn
    clear ho
    go_wp2
    go_ret2
    exact retIC_nil rfl (bal hb _)
  have hn : n ≤ 48 := by have := (okRs_parts ho).1; have := h.1.1; omega
  obtain rfl := h.1.1
  have HB := Lib.hid h.cells
  clear h
  by_cases hr : inB count 0 ((xs.length - 1 : Nat) : Int) = true
  rotate_left
  · have hr : inB count 0 ((xs.length - 1 : Nat) : Int) = false := by simpa only [Bool.not_eq_true] using hr
    have hC : peakHoursC xs count = 2 := by unfold peakHoursC; rw [ho, hr]; rfl
    have hX : peakHoursX xs count = [] := by unfold peakHoursX; rw [hC]; rfl
    rw [hX, hC]
    clear hX hC
    go_enter Try.func7, Try.ntmps7
    go_wp2_with fail
    refine HM.out.mono ?_
    rintro e w1 (⟨-, P, pd, rfl, hown, hb1⟩ | ⟨hn, -, -⟩)
    rotate_left
    · rw [ho] at hn; cases hn
    clear ho HM
    rw [powI_length] at hown ⊢
    have hb0 : Below w.heap.size w (w1.alloc (.cells #[.slice A xs.length c, .slice P (xs.length - 1) pd] 45)) := bal hb1 _
    have HBB := Lib.hid hb0
    have ⟨m0, m1, m2, m3⟩ := Two.new w1 (.slice A xs.length c) (.slice P (xs.length - 1) pd) 45
    clear hown hb1 hb0
    go_wp2_with (go_at_call 20; refine (one64Free _ _ _ _ _ _ (by simp)).mono ?_; rintro e w2 ⟨rfl, hb2⟩; have HB2 := Lib.hid (bnext HBB.out hb2); clear hb2; rw [hr])
    go_ret2
    exact retIC_nil rfl HB2.out
  obtain ⟨hr0, hr1⟩ := inB_iff.1 hr
  obtain ⟨k, rfl⟩ := Int.eq_ofNat_of_zero_le hr0
  have hC : peakHoursC xs (k : Int) = 0 := by unfold peakHoursC; rw [ho, hr]; rfl
  have hX : peakHoursX xs (k : Int) = (hrsI xs k).mergeSort (fun x y => decide (x ≤ y)) := by unfold peakHoursX; rw [hC]; rfl
  rw [hX, hC]
  clear hX hC
  have hk : k ≤ xs.length - 1 := by omega
  have hM : k ≤ maxLen := by unfold maxLen; omega
  obtain ⟨i0, hi, hz0, hz1, hz2⟩ := info_parts infoI64
  have HHL := Lib.hid (hrsI_length xs k hk)
  have HHA := Lib.hid (fun j q hj hq => hrsI_at xs k j q hj hq)
  have HRA := Lib.hid (fun j (hj : j < xs.length - 1) => rankI_at (powI xs) j (by rw [powI_length]; exact hj))
  have HRL := Lib.hid (show (rankI (powI xs)).length = xs.length - 1 by rw [rankI_length, powI_length])
  go_enter Try.func7, Try.ntmps7
  go_wp2_with fail
  refine HM.out.mono ?_
  rintro e w1 (⟨-, P, pd, rfl, hown, hb1⟩ | ⟨hn, -, -⟩)
  rotate_left
  · rw [ho] at hn; cases hn
  clear ho HM
  rw [powI_length] at hown ⊢
  have hb0 : Below w.heap.size w (w1.alloc (.cells #[.slice A xs.length c, .slice P (xs.length - 1) pd] 45)) := bal hb1 _
  have HBB := Lib.hid hb0
  have HM := Lib.hid (Two.new w1 (.slice A xs.length c) (.slice P (xs.length - 1) pd) 45)
  have HPC := Lib.hid ((owns_cells hown).next (bal (Below.refl _ _) (.cells #[.slice A xs.length c, .slice P (xs.length - 1) pd] 45)))
  have ⟨m0, m1, m2, m3⟩ := HM.out
  have HSZ1 := Lib.hid hb1.size
  clear hown hb1 hb0
  go_wp2_with (first | (go_at_call 20; refine (one64Free _ _ _ _ _ _ (by simp)).mono ?_; rintro e w2 ⟨rfl, hb2⟩; have HB2 := Lib.hid (bnext HBB.out hb2); have HM2 := Lib.hid (HM.out.next hb2); have HPC2 := Lib.hid (HPC.out.next hb2); clear hb2; rw [hr]) | (refine wpList_make_full _ rfl _ _ _ rfl w2.heap.size 2 i0 (.int .i64 0) 1 Try.underlying24 hi hz0 hz1 _ _ _ _ k rfl rfl rfl rfl (by rw [hz2]; omega) hM (Nat.le_refl _) ?_; intro w3 hown hgrow; have hb3 : Below w2.heap.size w2 w3 := Below.grown (Below.refl _ _) hgrow (Nat.le_refl _) (fun k hk => by cases hk); have HM3 := Lib.hid (HM2.out.next hb3); have ⟨m0, m1, m2, m3⟩ := HM3.out; have HPC3 := Lib.hid (HPC2.out.next hb3); have HB3 := Lib.hid (bnext HB2.out hb3); have HO3 := Lib.hid hown; have HSZ3 := Lib.hid hb3.size; clear hb3 hown hgrow) | (go_at_call 21; refine (greatestFirst_at P (xs.length - 1) pd (powI xs) w3 (by rw [powI_length]) (by omega) HPC3.out).mono ?_; rintro e w4 ⟨rfl, hownT, hb4⟩; have HB4 := Lib.hid (bnext HB3.out hb4); have HM4 := Lib.hid (HM3.out.next hb4); have hro4 := owns_below HO3.out hb4 (Nat.le_refl _); have HTC := Lib.hid (owns_cells hownT); clear hownT hb4))
  have HSZ2 := Lib.hid HB2.out.size
  have hlm := HM2.out.lies
  have hl1 := owns_len hro4
  generalize (madeCells (Value.int IntKind.i64 0).cells (k * 1)).toList = zs at *
  have HX := Lib.hid hl1
  clear hl1 m0 m1 m2 m3 hr HPC HPC2 HPC3 HO3 HM HM2 HM3
  go_wp2_with fail
  go_loopw [34] (fun i wr => ∃ j : Nat, j ≤ k ∧ i = .int .i64 j ∧ wr.ownsRow w2.heap.size 2 1 (.slice (some ⟨w2.heap.size, 0, none⟩) k k) k (fillV (fun (j : Nat) => .int .i64 ((hrsI xs k).getD j 0)) j zs) ∧ Below w.heap.size w wr ∧ Hid (Two wr w1.heap.size (.slice A xs.length c) (.slice P (xs.length - 1) pd)) ∧ Hid (CellsAt wr (some ⟨w3.heap.size + 1, 0, none⟩) (intsV (rankI (powI xs))))) (fun i _ => k - (intOf i).toNat)
  case atStart => exact ⟨0, Nat.zero_le _, rfl, hro4, HB4.out, HM4, HTC⟩
  case round =>
    clear hro4
    obtain ⟨j, hj, rfl, hro, hb, HMr, HTr⟩ := hrel
    by_cases hlt : j < k
    · obtain ⟨q, hq, hql⟩ := HRA.out j (by omega)
      rw [powI_length] at hql
      obtain ⟨tb, tf, he, htc⟩ := HTr.out (by rw [intsV_length, HRL.out]; omega)
      cases he
      have tcell := htc j (by rw [intsV_length, HRL.out]; omega)
      have hjr : j < (rankI (powI xs)).length := by rw [HRL.out]; omega
      rw [intsV_at _ _ hjr] at tcell
      rw [List.getElem?_eq_getElem hjr] at hq
      have hq' := Option.some.inj hq
      rw [hq', Nat.zero_add] at tcell
      obtain ⟨b, off, rfl, hrow⟩ := RgO.at (HB.out.next hb) (by omega)
      have ⟨p0, p1⟩ := hrow (q + 1) _ (rgAt_some xs (q + 1) (by omega))
      have hh := HHA.out j q hlt (by rw [List.getElem?_eq_getElem hjr, hq'])
      have hg : (hrsI xs k).getD j 0 = (rgAt xs (q + 1)).h := by rw [List.getD, hh]; rfl
      have hc1 := hro.cellAt j (by omega)
      have hf1 := hro.frozenAt j
      rw [fillV_get, List.getElem?_eq_getElem (by rw [HX.out]; exact hlt)] at hc1
      have hst := (hro.stored j (.int .i64 (rgAt xs (q + 1)).h)).1
      have hfs := fillV_set (fun (j : Nat) => Value.int .i64 ((hrsI xs k).getD j 0)) zs j (by rw [HX.out]; exact hlt)
      rw [hg] at hfs
      rw [hfs] at hst
      have Hst := Lib.hid hst
      generalize rgAt xs (q + 1) = x at *
      have ⟨m0, m1, m2, m3⟩ := HMr.out
      have hi2 : (0 : Int) ≤ (q : Int) + 1 := by omega
      have hi3 : ((q : Int) + 1).toNat = q + 1 := by omega
      have hi4 : (q : Int) + 1 < (xs.length : Int) := by omega
      have hi5 : IntKind.i64.wrap ((q : Int) + 1) = (q : Int) + 1 := IntWalk.i64_in _ (by omega)
      clear hrow hh hg hst hfs hq hq' htc p1 hjr
      have HHB := Lib.hid hb
      clear hb
      go_wp2
      go_roundw
      case rel => exact ⟨j + 1, by omega, by go_num, Hst.out, HHB.out.setCell HSZ2.out _, Lib.hid (HMr.out.setOther _ _ (by simp; omega)), Lib.hid (cellsAt_set HTr.out (by have := HSZ3.out; omega) _ _)⟩
      case measure => simp [intOf]; omega
    · have e : k = j := by omega
      subst e
      have hfa := fillV_all (fun (j : Nat) => Value.int .i64 ((hrsI xs k).getD j 0)) k zs HX.out
      have hru : (List.range k).map (fun (j : Nat) => Value.int .i64 ((hrsI xs k).getD j 0)) = intsV (hrsI xs k) := by
        refine List.ext_getElem (by rw [List.length_map, List.length_range, intsV_length, HHL.out]) fun i h1 h2 => ?_
        rw [List.length_map, List.length_range] at h1
        have := HHL.out
        simp [intsV, List.getD, show i < (hrsI xs k).length by omega]
      rw [hfa, hru] at hro
      have HS := Lib.hid (sortI_any w2.heap.size w2.heap.size k (hrsI xs k) wr HHL.out (by omega) hro)
      have HHB := Lib.hid hb
      clear hfa hru hro hb
      go_wp2_with (go_at_call 22; refine HS.out.mono ?_; rintro e w5 ⟨rfl, hown5, hgr5⟩; have HF := Lib.hid hown5; have HG := Lib.hid (Below.grown HHB.out hgr5 (HHB.out.size) (fun k hk => by cases hk; exact HSZ2.out)); clear hown5 hgr5)
      go_ret2
      exact retIC_mk rfl HF.out HSZ2.out HG.out

end Go.Proofs.Ythidaoemonjemac
