/-
  PeakHour of the program.
-/
import Derived.Test.YthidaoemonjemabMa6
import Derived.Test.YthidaoemonjemabLe1
namespace Go.Proofs.Ythidaoemonjemab
open Go.ChangeShapes Go.WideShapes Go.ChangeAt Go.RowKit

set_option maxRecDepth 100000
set_option maxHeartbeats 1600000
set_option linter.unusedVariables false

theorem bestTo_is (l : List Int) (b : Nat) : ∀ k, b ≤ k → (∀ j, j ≤ k → l.getD j 0 ≤ l.getD b 0) → (∀ j, j < b → l.getD j 0 < l.getD b 0) → bestTo l k = b := by
  have H : ∀ k, (∀ j, j ≤ k → l.getD j 0 ≤ l.getD (bestTo l k) 0) ∧ (∀ j, j < bestTo l k → l.getD j 0 < l.getD (bestTo l k) 0) := by
    intro k
    induction k with
    | zero => exact ⟨fun j hj => by obtain rfl : j = 0 := by omega
                                    exact Int.le_refl _, fun j hj => by simp [bestTo] at hj⟩
    | succ k ih =>
      have hle := bestTo_le l k
      unfold bestTo
      split
      · rename_i h
        refine ⟨fun j hj => ?_, fun j hj => ?_⟩
        · by_cases e : j = k + 1
          · subst e; exact Int.le_refl _
          · have := ih.1 j (by omega); omega
        · have := ih.1 j (by omega); omega
      · rename_i h
        refine ⟨fun j hj => ?_, ih.2⟩
        by_cases e : j = k + 1
        · subst e; omega
        · exact ih.1 j (by omega)
  intro k hk h1 h2
  have hh := H k
  have hle := bestTo_le l k
  rcases Nat.lt_trichotomy (bestTo l k) b with h | h | h
  · have a := h2 _ h
    have c := hh.1 b hk
    omega
  · exact h
  · have a := hh.2 b h
    have c := h1 _ hle
    omega
theorem rankI_first (l : List Int) (m : Nat) (hl : l.length = m + 1) : (rankI l)[0]? = some ((bestTo l m : Nat) : Int) := by
  rw [rankI_of l m hl]
  have hs := rankF_sorted l m
  have hp := rankF_perm l m
  have hn := rankF_length l m
  cases he : rankF l m with
  | nil => rw [he] at hn; simp at hn
  | cons x xs =>
    rw [he] at hs hp
    have hx := (List.pairwise_cons.1 hs).1
    have hall : ∀ y : Fin (m + 1), y ∈ x :: xs := fun y => hp.mem_iff.2 (List.mem_finRange y)
    have hb : bestTo l m = x.val := by
      refine bestTo_is l x.val m (by omega) (fun j hj => ?_) (fun j hj => ?_)
      · rcases List.mem_cons.1 (hall ⟨j, by omega⟩) with h | h
        · rw [← h]; exact Int.le_refl _
        · have h2 := hx _ h
          rw [rkF_lt] at h2
          simp only [decide_eq_false_iff_not] at h2
          omega
      · rcases List.mem_cons.1 (hall ⟨j, by omega⟩) with h | h
        · have := congrArg Fin.val h
          simp at this
          omega
        · have h2 := hx _ h
          rw [rkF_lt] at h2
          simp only [decide_eq_false_iff_not] at h2
          omega
    simp [hb]
theorem implPeakHour_ds (A : Option Addr) (n c : Nat) (xs : List Bd) (B : Option Addr) (d : Nat) (zs : List Int) (w : World) (hx : BdsOk w A n xs) (hB : CellsAt w B (intsV zs)) (hz : zs.length ≤ 1048576) :
    Calls Try.prog 15 #[.slice A n c, .slice B zs.length d] w fun e w' => e = .returned (.tuple #[.int .i64 (peakHourR0 (xs.map Bd.d) zs), .int .i64 (peakHourR1 (xs.map Bd.d) zs), .int .i64 (peakHourR2 (xs.map Bd.d) zs)]) ∧ Below w.heap.size w w' := by
  have HF := Lib.hid (forecast_any A n c xs B d zs w hx hB hz)
  clear hx hB
  rcases fcC_ways (xs.map Bd.d) zs with h | h | h
  · have hX : peakHourR0 (xs.map Bd.d) zs = bestTo (fcX (xs.map Bd.d) zs) 23 := by unfold peakHourR0; rw [if_pos h]
    have hY : peakHourR1 (xs.map Bd.d) zs = (fcX (xs.map Bd.d) zs).getD (bestTo (fcX (xs.map Bd.d) zs) 23) 0 := by unfold peakHourR1; rw [if_pos h]
    have hC : peakHourR2 (xs.map Bd.d) zs = 0 := h
    rw [hX, hY, hC]
    clear hX hY hC
    go_enter Try.func15, Try.ntmps15
    go_wp2_with fail
    refine HF.out.mono ?_
    rintro e w2 ⟨l, hl, hlx, rfl, hb⟩
    have hle := hlx h
    rw [h]
    have HLE := Lib.hid hle.symm
    clear hle hlx h
    have hin := infoDay l hl
    have hsz : (dayV l).size = 24 := by rw [dayV_size]; exact hl
    have hone := dayV_one l
    have HT := Lib.hid (show DayAt (w2.alloc (.cells (dayV l) 64)) w2.heap.size l from heap_alloc_new _ _)
    have HE := Lib.hid (bal hb (.cells (dayV l) 64))
    have hcells : CellsAt (w2.alloc (.cells (dayV l) 64)) (some ⟨w2.heap.size, 0, none⟩) (intsV l) := owns_cells (owns_day HT.out hl (Nat.le_refl _))
    have HGF := Lib.hid (greatestFirst_any (some ⟨w2.heap.size, 0, none⟩) 24 24 l (w2.alloc (.cells (dayV l) 64)) hl (by omega) hcells)
    have HBT := Lib.hid (rankI_first l 23 hl)
    have HBL := Lib.hid (bestTo_le l 23)
    have HRL := Lib.hid (show (rankI l).length = 24 by rw [rankI_length, hl])
    have HLL := Lib.hid hl
    clear hb hcells
    go_wp2_with (refine wpList_store_row rfl 64 _ _ rfl w2.heap.size (dayV l) rfl rfl 64 _ (heap_alloc_new _ _) hin (by rw [hsz]; rfl) hone ?_; rw [World.setRow_alloc_new])
    refine HGF.out.mono ?_
    rintro e w3 ⟨T, tc, rfl, hown, hb3⟩
    rw [intsV_length, HRL.out]
    have hcT := owns_cells hown
    obtain ⟨tb, to, rfl, hct⟩ := hcT (by rw [intsV_length, HRL.out]; omega)
    have hc0 := hct 0 (by rw [intsV_length, HRL.out]; omega)
    rw [intsV_at _ _ (by rw [HRL.out]; omega)] at hc0
    have h0 := HBT.out
    rw [List.getElem?_eq_getElem (by rw [HRL.out]; omega)] at h0
    have h0' := Option.some.inj h0
    rw [h0', Nat.add_zero] at hc0
    have HD3 := HT.out.next hb3
    have HE3 := Lib.hid (bnext HE.out hb3)
    have hbl := HBL.out
    obtain ⟨bb, hbb⟩ : ∃ bb, bb = bestTo l 23 := ⟨_, rfl⟩
    rw [← hbb] at hc0 hbl
    have hcell : w3.cell? ⟨w2.heap.size, bb, none⟩ = some (.int .i64 (l.getD bb 0)) := by
      have h := HD3.range bb (.int .i64 (l.getD bb 0)) (by rw [intsV_at _ _ (by rw [HLL.out]; omega)]; simp [List.getD, show bb < l.length by rw [HLL.out]; omega])
      rw [Nat.zero_add] at h
      exact h
    have HBB := Lib.hid hbb
    have HV : Hid (l.getD bb 0 = l.getD bb 0) := Lib.hid rfl
    obtain ⟨v, hv⟩ : ∃ v, v = l.getD bb 0 := ⟨_, rfl⟩
    rw [← hv] at hcell
    have HVV := Lib.hid hv
    clear hct h0 h0' hown hcT hb3 HD3 hbb hv HV
    go_wp2
    go_quiet (fail)
    go_wp2
    go_ret3
    exact ⟨by rw [HLE.out, ← HBB.out, ← HVV.out]; rfl, below_drewN HE3.out _⟩
  all_goals
    have hX : peakHourR0 (xs.map Bd.d) zs = 0 := by unfold peakHourR0; rw [if_neg (by rw [h]; decide)]
    have hY : peakHourR1 (xs.map Bd.d) zs = 0 := by unfold peakHourR1; rw [if_neg (by rw [h]; decide)]
    have hC := show peakHourR2 (xs.map Bd.d) zs = _ from h
    rw [hX, hY, hC]
    clear hX hY hC
    go_enter Try.func15, Try.ntmps15
    go_wp2_with fail
    refine HF.out.mono ?_
    rintro e w2 ⟨l, hl, hlx, rfl, hb⟩
    rw [h]
    clear hlx h
    have hin := infoDay l hl
    have hsz : (dayV l).size = 24 := by rw [dayV_size]; exact hl
    have hone := dayV_one l
    have HE := Lib.hid (bal hb (.cells (dayV l) 64))
    clear hb
    go_wp2_with (refine wpList_store_row rfl 64 _ _ rfl w2.heap.size (dayV l) rfl rfl 64 _ (heap_alloc_new _ _) hin (by rw [hsz]; rfl) hone ?_; rw [World.setRow_alloc_new])
    go_ret3
    exact ⟨rfl, HE.out⟩

end Go.Proofs.Ythidaoemonjemab
