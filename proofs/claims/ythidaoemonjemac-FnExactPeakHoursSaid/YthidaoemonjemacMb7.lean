/-
  PeakHours of the model.
-/
import Derived.Test.YthidaoemonjemacMb6
namespace Go.Proofs.Ythidaoemonjemac
open Go.ChangeShapes Go.WideShapes Go.ChangeAt Go.RowKit

set_option maxRecDepth 100000
set_option maxHeartbeats 1600000
set_option linter.unusedVariables false

/-- x stands ahead of y -/
def aheadP (l : List Int) (x y : Nat) : Prop := l.getD y 0 < l.getD x 0 ∨ (l.getD y 0 = l.getD x 0 ∧ x < y)
theorem rankF_ahead (l : List Int) (m : Nat) : (rankF l m).Pairwise fun x y => aheadP l x.val y.val := by
  have nd : (rankF l m).Pairwise (fun x y => x ≠ y) := (rankF_perm l m).nodup_iff.2 (List.nodup_finRange _)
  refine ((rankF_sorted l m).and nd).imp ?_
  rintro x y ⟨h1, h2⟩
  rw [rkF_lt] at h1
  simp only [decide_eq_false_iff_not] at h1
  have h3 : x.val ≠ y.val := fun h => h2 (Fin.ext h)
  unfold aheadP
  omega
/-- whether a place is among the first k -/
def chB (l : List Int) (k j : Nat) : Bool := ((rankI l).take k).any fun c => c == (j : Int)
theorem chB_iff (l : List Int) (m k j : Nat) (hl : l.length = m + 1) : chB l k j = true ↔ ∃ i, ∃ h : i < (rankF l m).length, i < k ∧ ((rankF l m)[i]).val = j := by
  unfold chB
  rw [rankI_of l m hl, ← List.map_take, List.any_map, List.any_eq_true]
  constructor
  · rintro ⟨x, hx, he⟩
    obtain ⟨i, hi, rfl⟩ := List.getElem_of_mem hx
    rw [List.length_take] at hi
    refine ⟨i, by omega, by omega, ?_⟩
    simp only [Function.comp_apply, beq_iff_eq, List.getElem_take] at he
    omega
  · rintro ⟨i, h, hk, he⟩
    refine ⟨(rankF l m)[i], List.mem_take_iff_getElem.2 ⟨i, by omega, rfl⟩, ?_⟩
    simp only [Function.comp_apply, beq_iff_eq]
    omega
theorem aheadF (l : List Int) (m i j : Nat) (h : i < j) (hj : j < (rankF l m).length) : aheadP l ((rankF l m)[i]'(by omega)).val ((rankF l m)[j]).val :=
  List.pairwise_iff_getElem.1 (rankF_ahead l m) i j (by omega) hj h
/-- the best place so far -/
def bestR (l : List Int) (k i : Nat) (b : Int) : Prop := (b = -1 ∧ ∀ j, j < i → chB l k j = true) ∨ (∃ q : Nat, b = q ∧ q < i ∧ chB l k q = false ∧ ∀ j, j < i → chB l k j = false → j = q ∨ aheadP l q j)
theorem bestR_zero (l : List Int) (k : Nat) : bestR l k 0 (-1) := .inl ⟨rfl, fun j hj => absurd hj (Nat.not_lt_zero _)⟩
theorem lt_succ_cases {j i : Nat} (h : j < i + 1) : j < i ∨ j = i := by omega
theorem bestR_skip {l : List Int} {k i : Nat} {b : Int} (hc : chB l k i = true) (h : bestR l k i b) : bestR l k (i + 1) b := by
  rcases h with ⟨e, h⟩ | ⟨q, e, hq, hu, h⟩
  · refine .inl ⟨e, fun j hj => ?_⟩
    rcases lt_succ_cases hj with h1 | rfl
    · exact h j h1
    · exact hc
  · refine .inr ⟨q, e, by omega, hu, fun j hj hj2 => ?_⟩
    rcases lt_succ_cases hj with h1 | rfl
    · exact h j h1 hj2
    · rw [hc] at hj2; cases hj2
theorem bestR_first {l : List Int} {k i : Nat} (hc : chB l k i = false) (h : bestR l k i (-1)) : bestR l k (i + 1) (i : Int) := by
  rcases h with ⟨e, h⟩ | ⟨q, e, hq, hu, h⟩
  · refine .inr ⟨i, rfl, by omega, hc, fun j hj hj2 => ?_⟩
    rcases lt_succ_cases hj with h1 | h1
    · rw [h j h1] at hj2; cases hj2
    · exact .inl h1
  · omega
theorem bestR_new {l : List Int} {k i q : Nat} (hc : chB l k i = false) (h : bestR l k i (q : Int)) (hv : l.getD q 0 < l.getD i 0) : bestR l k (i + 1) (i : Int) := by
  rcases h with ⟨e, h⟩ | ⟨q', e, hq, hu, h⟩
  · omega
  · obtain rfl : q = q' := by omega
    refine .inr ⟨i, rfl, by omega, hc, fun j hj hj2 => ?_⟩
    rcases lt_succ_cases hj with h1 | h1
    · right
      rcases h j h1 hj2 with rfl | h2
      · exact .inl hv
      · unfold aheadP at *; omega
    · exact .inl h1
theorem bestR_keep {l : List Int} {k i q : Nat} (hc : chB l k i = false) (h : bestR l k i (q : Int)) (hv : ¬ l.getD q 0 < l.getD i 0) : bestR l k (i + 1) (q : Int) := by
  rcases h with ⟨e, h⟩ | ⟨q', e, hq, hu, h⟩
  · omega
  · obtain rfl : q = q' := by omega
    refine .inr ⟨q, rfl, by omega, hu, fun j hj hj2 => ?_⟩
    rcases lt_succ_cases hj with h1 | rfl
    · exact h j h1 hj2
    · right; unfold aheadP; omega
theorem bestR_lt {l : List Int} {k i q : Nat} (h : bestR l k i (q : Int)) : q < i := by
  rcases h with ⟨e, h⟩ | ⟨q', e, hq, _⟩ <;> omega
theorem bestR_end {l : List Int} {k : Nat} {b : Int} (hk : k < l.length) (h : bestR l k l.length b) : ∃ q : Nat, b = q ∧ q < l.length ∧ (rankI l)[k]? = some ((q : Nat) : Int) := by
  obtain ⟨m, hm⟩ : ∃ m, l.length = m + 1 := ⟨l.length - 1, by omega⟩
  have hF := rankF_length l m
  have hkF : k < (rankF l m).length := by omega
  have hun : chB l k ((rankF l m)[k]).val = false := by
    rw [Bool.eq_false_iff]
    intro hc
    obtain ⟨i, hi, hik, he⟩ := (chB_iff l m k _ hm).1 hc
    have := aheadF l m i k hik hkF
    rw [he] at this
    unfold aheadP at this
    omega
  rcases h with ⟨-, h⟩ | ⟨q, rfl, hq, hu, h⟩
  · have := h _ (show ((rankF l m)[k]).val < l.length by have := ((rankF l m)[k]).isLt; omega)
    rw [hun] at this
    cases this
  · refine ⟨q, rfl, hq, ?_⟩
    rw [rankI_of l m hm]
    have hmem : (⟨q, by omega⟩ : Fin (m + 1)) ∈ rankF l m := (rankF_perm l m).mem_iff.2 (List.mem_finRange _)
    obtain ⟨i, hi, he⟩ := List.getElem_of_mem hmem
    have hev : ((rankF l m)[i]).val = q := by rw [he]
    have hik : i = k := by
      rcases Nat.lt_trichotomy i k with h1 | h1 | h1
      · have := (chB_iff l m k q hm).2 ⟨i, hi, h1, hev⟩
        rw [hu] at this; cases this
      · exact h1
      · have a := aheadF l m k i h1 hi
        rw [hev] at a
        rcases h _ (show ((rankF l m)[k]).val < l.length by have := ((rankF l m)[k]).isLt; omega) hun with h2 | h2
        · rw [h2] at a; unfold aheadP at a; omega
        · unfold aheadP at a h2; omega
    subst hik
    simp [hi, hev]
theorem hr_lt {xs : List Rg} (ok : okRs xs = true) (i j : Nat) (h : i < j) (hj : j < xs.length) : (rgAt xs i).h < (rgAt xs j).h := by
  induction j with
  | zero => omega
  | succ j ih =>
    have a := (okRs_two ok j hj).1
    by_cases e : i = j
    · subst e; exact a
    · have := ih (by omega) (by omega); omega
theorem hrsI_succ (xs : List Rg) (k q : Nat) (hq : (rankI (powI xs))[k]? = some ((q : Nat) : Int)) : hrsI xs (k + 1) = hrsI xs k ++ [(rgAt xs (q + 1)).h] ∧ (rankI (powI xs)).take (k + 1) = (rankI (powI xs)).take k ++ [(q : Int)] := by
  have e : (rankI (powI xs)).take (k + 1) = (rankI (powI xs)).take k ++ [(q : Int)] := by rw [List.take_add_one, hq]; rfl
  refine ⟨?_, e⟩
  unfold hrsI
  rw [e, List.map_append]
  simp
theorem hrsI_fresh {xs : List Rg} (ok : okRs xs = true) (k q : Nat) (hk : k < xs.length - 1) (hq : (rankI (powI xs))[k]? = some ((q : Nat) : Int)) : ∀ x ∈ hrsI xs k, x ≠ (rgAt xs (q + 1)).h := by
  have hlp : (powI xs).length = xs.length - 1 := powI_length xs
  obtain ⟨m, hm⟩ : ∃ m, (powI xs).length = m + 1 := ⟨(powI xs).length - 1, by omega⟩
  have hF := rankF_length (powI xs) m
  intro x hx he
  obtain ⟨i, hi, rfl⟩ := List.getElem_of_mem hx
  have hil : i < k := by
    unfold hrsI at hi
    rw [List.length_map, List.length_take] at hi; omega
  obtain ⟨p, hp, hpl⟩ := rankI_at (powI xs) i (by omega)
  have h1 := hrsI_at xs k i p hil hp
  rw [List.getElem?_eq_getElem hi] at h1
  have h2 := Option.some.inj h1
  rw [h2] at he
  have hpq : p ≠ q := by
    intro e
    subst e
    rw [rankI_of _ m hm] at hp hq
    have a := aheadF (powI xs) m i k hil (by omega)
    simp [show i < (rankF (powI xs) m).length by omega] at hp
    simp [show k < (rankF (powI xs) m).length by omega] at hq
    have h3 : ((rankF (powI xs) m)[i]'(by omega)).val = ((rankF (powI xs) m)[k]'(by omega)).val := by omega
    rw [h3] at a
    unfold aheadP at a
    omega
  obtain ⟨q', hq', hql⟩ := rankI_at (powI xs) k (by omega)
  rw [hq] at hq'
  have : q = q' := by have := Option.some.inj hq'; omega
  subst this
  rcases Nat.lt_or_ge p q with h | h
  · have := hr_lt ok (p + 1) (q + 1) (by omega) (by omega); omega
  · have := hr_lt ok (q + 1) (p + 1) (by omega) (by omega); omega
def lenV : Value → Nat
  | .slice _ l _ => l
  | _ => 0
theorem keep_other {w w' : World} {base B2 : Nat} {E : TypeId} {T U : Option Addr} {j td ud l : Nat} {vs ts : List Value} (ht : w.ownsRow base E 1 (.slice T j td) j ts) (h : w.ownsRow B2 E 1 (.slice U l ud) l vs) (g : w.grownBy w' (Value.slice T j td).ownBlock) (hT : LiesIn B2 T) : w'.ownsRow B2 E 1 (.slice U l ud) l vs := by
  refine h.kept g ?_
  cases U with
  | none => exact .inl rfl
  | some a =>
    refine .inr (fun e => ?_)
    have g1 := owns_ge h a.block (by simp [Value.ownBlock])
    rcases ht.2 with ⟨h0, _⟩ | ⟨g', cap', cur, hv, _⟩
    · cases h0
      simp [Value.ownBlock] at e
    · cases hv
      have g2 := hT g' 0 rfl
      have e2 : a.block = g' := by simpa [Value.ownBlock] using e
      omega
theorem peakHoursX_short (xs : List Rg) (count : Int) : (peakHoursX xs count).length ≤ 1048576 := by
  unfold peakHoursX
  split
  · rename_i h
    have ok : okRs xs = true := by
      unfold peakHoursC at h
      by_cases o : okRs xs = true
      · exact o
      · rw [if_neg o] at h; cases h
    have h48 := (okRs_parts ok).1
    rw [List.length_mergeSort]
    unfold hrsI
    rw [List.length_map, List.length_take, rankI_length, powI_length]
    omega
  · exact Nat.zero_le _
theorem putRow_len (hs : List Int) : (hs.foldl putI []).length = hs.length := by rw [(foldl_put hs [] List.Pairwise.nil).2.length_eq]; simp
theorem specPeakHours_ic (A : Option Addr) (n c : Nat) (xs : List Rg) (count : Int) (w : World) (h : RgsOk w A n xs) :
    Calls Try.prog 5 #[.slice A n c, .int .i64 count] w (RetIC (peakHoursX xs count) (peakHoursC xs count) w) := by
  have HO := Lib.hid (l06Ok_any A n c xs w h)
  by_cases ho : okRs xs = true
  rotate_left
  · have ho : okRs xs = false := by simpa only [Bool.not_eq_true] using ho
    have hC : peakHoursC xs count = 1 := by unfold peakHoursC; rw [ho]; rfl
    have hX : peakHoursX xs count = [] := by unfold peakHoursX; rw [hC]; rfl
    rw [hX, hC]
    rw [ho] at HO
    clear hX hC
    go_enter Try.func5, Try.ntmps5
    go_wp2_with (go_at_call 13; refine HO.out.mono ?_; rintro e w1 ⟨rfl, ⟨d, rfl⟩⟩)
    go_ret2
    exact retIC_nil rfl (below_drewN (Below.refl _ _) d)
  have HP := Lib.hid (fun (d : Nat) => l06Powers_any A n c xs (w.drewN d) (h.go (below_drewN (Below.refl _ _) d)) ho)
  have hn : n ≤ 48 := by have := (okRs_parts ho).1; have := h.1.1; omega
  obtain rfl := h.1.1
  have HB := Lib.hid h.cells
  clear h
  by_cases hr : inB count 0 ((xs.length - 1 : Nat) : Int) = true
  rotate_left
  · have hr : inB count 0 ((xs.length - 1 : Nat) : Int) = false := by simpa only [Bool.not_eq_true] using hr
    have hC : peakHoursC xs count = 2 := by unfold peakHoursC; rw [ho, hr]; rfl
    have hX : peakHoursX xs count = [] := by unfold peakHoursX; rw [hC]; rfl
    rw [hX, hC]
    rw [ho] at HO
    clear hX hC
    go_enter Try.func5, Try.ntmps5
    go_wp2_with (first | (go_at_call 13; refine HO.out.mono ?_; rintro e w1 ⟨rfl, ⟨d, rfl⟩⟩) | (go_at_call 14; refine (HP.out d).mono ?_; rintro e w2 ⟨P, pd, rfl, hown, hb2⟩; rw [intsV_length, powI_length]; have HB2 := Lib.hid (bnext (below_drewN (Below.refl _ _) d) hb2); clear hown hb2) | (go_at_call 15; refine (in_any _ _ _ _).mono ?_; rintro e w' ⟨rfl, rfl⟩; rw [hr]))
    go_ret2
    exact retIC_nil rfl HB2.out
  obtain ⟨hr0, hr1⟩ := inB_iff.1 hr
  obtain ⟨k, rfl⟩ := Int.eq_ofNat_of_zero_le hr0
  have hC : peakHoursC xs (k : Int) = 0 := by unfold peakHoursC; rw [ho, hr]; rfl
  have hX : peakHoursX xs (k : Int) = (hrsI xs k).foldl putI [] := by unfold peakHoursX; rw [hC, if_pos rfl, put_all]; rfl
  rw [hX, hC]
  rw [ho] at HO
  clear hX hC
  have hk : k ≤ xs.length - 1 := by omega
  obtain ⟨i0, hi, hz0, hz1, hz2⟩ := info_parts infoI64
  have HOK := Lib.hid ho
  go_enter Try.func5, Try.ntmps5
  go_wp2_with (first | (go_at_call 13; refine HO.out.mono ?_; rintro e w1 ⟨rfl, ⟨d, rfl⟩⟩) | (go_at_call 14; refine (HP.out d).mono ?_; rintro e w2 ⟨P, pd, rfl, hown, hb2⟩; rw [intsV_length, powI_length]; have HB2 := Lib.hid (bnext (below_drewN (Below.refl _ _) d) hb2); have HPC := Lib.hid (owns_cells hown); clear hown hb2) | (go_at_call 15; refine (in_any _ _ _ _).mono ?_; rintro e w' ⟨rfl, rfl⟩; rw [hr]))
  have HRL := Lib.hid (show ∀ j, j ≤ k → ((rankI (powI xs)).take j).length = j from fun j hj => by rw [List.length_take, rankI_length, powI_length]; omega)
  have HUL := Lib.hid (show ∀ j, j ≤ k → ((hrsI xs j).foldl putI []).length = j from fun j hj => by rw [putRow_len, hrsI_length xs j (by omega)])
  have hb3 : Below w.heap.size w ((w2.alloc (.cells #[] 2)).alloc (.cells #[] 2)) := bal (bal HB2.out _) _
  have hb4 : Below w2.heap.size w2 ((w2.alloc (.cells #[] 2)).alloc (.cells #[] 2)) := bal (bal (Below.refl _ _) _) _
  have hoT : ((w2.alloc (.cells #[] 2)).alloc (.cells #[] 2)).ownsRow w2.heap.size 2 1 (.slice (some ⟨w2.heap.size, 0, none⟩) 0 0) 0 [] := (owns_empty w2 w2.heap.size 2 (Nat.le_refl _)).alloc _
  have hoU : ((w2.alloc (.cells #[] 2)).alloc (.cells #[] 2)).ownsRow (w2.heap.size + 1) 2 1 (.slice (some ⟨w2.heap.size + 1, 0, none⟩) 0 0) 0 [] := by
    have h := owns_empty (w2.alloc (.cells #[] 2)) (w2.heap.size + 1) 2 (by simp)
    simpa using h
  have HLT0 : Hid (LiesIn (w2.heap.size + 1) (some ⟨w2.heap.size, 0, none⟩)) := Lib.hid (fun b off e => by cases e; omega)
  go_loopw [7, 8] (fun cv ov wr => ∃ (j : Nat) (T : Option Addr) (td : Nat) (U : Option Addr) (ud B2 : Nat), j ≤ k ∧ cv = .slice T j td ∧ ov = .slice U j ud ∧ wr.ownsRow w2.heap.size 2 1 (.slice T j td) j (intsV ((rankI (powI xs)).take j)) ∧ wr.ownsRow B2 2 1 (.slice U j ud) j (intsV ((hrsI xs j).foldl putI [])) ∧ Hid (LiesIn B2 T) ∧ w2.heap.size ≤ B2 ∧ Below w.heap.size w wr ∧ Below w2.heap.size w2 wr) (fun cv _ _ => k - lenV cv)
  case atStart => exact ⟨0, _, 0, _, 0, w2.heap.size + 1, Nat.zero_le _, rfl, rfl, hoT, hoU, HLT0, by omega, hb3, hb4⟩
  case round =>
    clear hb3 hb4 hoT hoU HLT0
    obtain ⟨j, T, td, U, ud, B2, hj, rfl, rfl, hoT, hoU, HLT, hB2, hb, hbw⟩ := hrel
    by_cases hlt : j < k
    rotate_left
    · have e : k = j := by omega
      subst e
      have HF := Lib.hid (retIC_mk (w := w) (w' := wr) (C := 0) rfl (owns_base hoU hB2) HB2.out.size hb)
      clear hoT hoU hb hbw
      go_wp2
      go_ret2
      exact HF.out
    have HTC := Lib.hid (owns_cells hoT)
    have HPW := Lib.hid (HPC.out.next hbw)
    have HHS := Lib.hid (fun (i d : Nat) => show Calls Try.prog 16 #[.slice T j td, .int .i64 (i : Int)] (wr.drewN d) fun e w' => e = .returned (.bool (chB (powI xs) j i)) ∧ Drawn (wr.drewN d) w' from by
      have h := l00Has2_any T td ((rankI (powI xs)).take j) (i : Int) (wr.drewN d) (by rw [HRL.out j hj]; omega) (CellsAt.drewN HTC.out d)
      rw [HRL.out j hj] at h
      exact h)
    have HOT := Lib.hid hoT
    have HOU := Lib.hid hoU
    have HBW := Lib.hid hbw
    have HBB := Lib.hid hb
    clear hoT hoU hb hbw
    go_wp2_with fail
    go_loopw [9, 10] (fun bv iv wi => ∃ (i : Nat) (b : Int), i ≤ xs.length - 1 ∧ iv = .int .i64 i ∧ bv = .int .i64 b ∧ Hid (bestR (powI xs) j i b) ∧ Drawn wr wi) (fun _ iv _ => xs.length - 1 - (intOf iv).toNat)
    case atStart => exact ⟨0, -1, Nat.zero_le _, rfl, rfl, Lib.hid (bestR_zero _ _), Drawn.rfl' _⟩
    case round =>
      obtain ⟨i, b, hi1, rfl, rfl, HBR, ⟨nq, rfl⟩⟩ := hrel
      by_cases hil : i < xs.length - 1
      rotate_left
      · have e : i = xs.length - 1 := by omega
        subst e
        have hbe : bestR (powI xs) j (powI xs).length b := by rw [powI_length]; exact HBR.out
        obtain ⟨q, rfl, hql, hrq⟩ := bestR_end (by rw [powI_length]; omega) hbe
        rw [powI_length] at hql
        obtain ⟨hs1, hs2⟩ := hrsI_succ xs j q hrq
        have hfr := hrsI_fresh HOK.out j q (by omega) hrq
        have HX := Lib.hid (rgAt_some xs (q + 1) (by omega))
        have hfr2 : ∀ y ∈ (hrsI xs j).foldl putI [], y ≠ (rgAt xs (q + 1)).h := fun y hy => hfr y (by simpa using (foldl_put (hrsI xs j) [] List.Pairwise.nil).2.mem_iff.1 hy)
        have hU1 : (hrsI xs (j + 1)).foldl putI [] = putI ((hrsI xs j).foldl putI []) (rgAt xs (q + 1)).h := by rw [hs1, List.foldl_append]; rfl
        have HU1 := Lib.hid hU1
        have HT1 : Hid (intsV ((rankI (powI xs)).take j) ++ [Value.int .i64 q] = intsV ((rankI (powI xs)).take (j + 1))) := Lib.hid (by rw [hs2, intsV_snoc])
        have HFR := Lib.hid hfr2
        have HUJ := HUL.out j hj
        generalize rgAt xs (q + 1) = x at *
        generalize (hrsI xs j).foldl putI [] = us at *
        have HUJ' := Lib.hid HUJ
        have hoT := owns_below HOT.out (below_drewN (Below.refl wr.heap.size wr) nq) (Nat.le_refl _)
        have hoU := owns_below HOU.out (below_drewN (Below.refl wr.heap.size wr) nq) (Nat.le_refl _)
        have hbq := below_drewN HBB.out nq
        have hbwq := below_drewN HBW.out nq
        have hi2 : (0 : Int) ≤ (q : Int) + 1 := by omega
        have hi3 : ((q : Int) + 1).toNat = q + 1 := by omega
        have hi4 : (q : Int) + 1 < (xs.length : Int) := by omega
        have hi5 : IntKind.i64.wrap ((q : Int) + 1) = (q : Int) + 1 := IntWalk.i64_in _ (by omega)
        clear hs1 hs2 hfr hfr2 hU1 hrq hbe HBR HUJ
        go_upto_region 16 with (at_builtin; refine wpList_append_own _ rfl _ _ 24 rfl w2.heap.size 2 i0 (.int .i64 0) 1 8 Try.underlying24 hi hz0 hz1 hz2 rfl (by decide) _ _ _ rfl (hoT.alloc _) ⟨wr.heap.size, 0, none⟩ 1 1 [.int .i64 q] rfl rfl (cell_one_new _ _ _) (by simp [Value.oneCell']) ?_ ?_ ?_ ?_; (unfold maxLen; omega); (omega); (have := HBW.out.size; simp; omega); intro v4 w4 hown4 hgrow4 _; rw [HT1.out] at hown4; obtain ⟨T4, d4, rfl⟩ := owns_form hown4)
        have hbw4 := (bal hbwq (.cells #[.int .i64 q] 2)).grown hgrow4 (by have := HBW.out.size; simp; omega) (owns_ge hoT)
        have hb4 := (bal hbq (.cells #[.int .i64 q] 2)).grown hgrow4 (by have := HBB.out.size; simp; omega) (fun k hk => Nat.le_trans HB2.out.size (owns_ge hoT k hk))
        have hoU4 : w4.ownsRow B2 2 1 (.slice U j ud) j (intsV us) := keep_other (hoT.alloc _) (hoU.alloc _) hgrow4 HLT.out
        obtain ⟨bA, off, rfl, hrow⟩ := RgO.at (HB.out.next hb4) (by omega)
        have ⟨p0, p1⟩ := hrow (q + 1) _ HX.out
        have HPUT := Lib.hid (l00Put_any U ud us x.h w4 (by rw [HUJ'.out]; omega) (owns_cells hoU4) HFR.out)
        have HB4 := Lib.hid hb4
        have HBW4 := Lib.hid hbw4
        have HO4 := Lib.hid hown4
        rw [HUJ'.out] at HPUT
        clear hrow hb4 hbw4 hown4 hoU4 hgrow4 hoT hoU hbq hbwq p1
        go_wp2_with (go_at_call 17; refine HPUT.out.mono ?_; rintro e w5 ⟨U5, u5, rfl, hoU5, hb5⟩; rw [intsV_length, putI_length, HUJ'.out] at hoU5 ⊢; have HB5 := Lib.hid (bnext HB4.out hb5); have HBW5 := Lib.hid (bnext HBW4.out hb5); have hoT5 := owns_below HO4.out hb5 (Nat.le_refl _); have HLT5 := Lib.hid (owns_lies HO4.out); rw [← HU1.out] at hoU5; clear hb5)
        go_roundw
        case rel => exact ⟨j + 1, T4, d4, U5, u5, w4.heap.size, by omega, rfl, rfl, hoT5, hoU5, HLT5, HBW4.out.size, HB5.out, HBW5.out⟩
        case measure => simp [lenV]; omega
      obtain ⟨pb, pf, rfl, hpc⟩ := HPW.out (by rw [intsV_length, powI_length]; omega)
      have pcell : ∀ t, t < xs.length - 1 → wr.cell? ⟨pb, pf + t, none⟩ = some (.int .i64 ((powI xs).getD t 0)) := fun t ht => by
        have hl := powI_length xs
        rw [hpc t (by rw [intsV_length, powI_length]; exact ht), intsV_at _ _ (by omega)]
        simp [List.getD, show t < (powI xs).length by omega]
      have PC := Lib.hid pcell
      clear hpc pcell
      have HS1 := Lib.hid (fun (hc : chB (powI xs) j i = true) => bestR_skip hc HBR.out)
      have HS2 := Lib.hid (fun (hc : chB (powI xs) j i = false) => fun (e : b = -1) => bestR_first hc (by rw [← e]; exact HBR.out))
      have HS3 := Lib.hid (fun (hc : chB (powI xs) j i = false) (q : Nat) (e : b = q) hv => bestR_new (q := q) hc (by rw [← e]; exact HBR.out) hv)
      have HS4 := Lib.hid (fun (hc : chB (powI xs) j i = false) (q : Nat) (e : b = q) hv => bestR_keep (q := q) hc (by rw [← e]; exact HBR.out) hv)
      have HH := Lib.hid (fun d => HHS.out i d)
      cases hc : chB (powI xs) j i
      · have HS1' := HS1
        rw [hc] at HH
        rcases Int.lt_or_le b 0 with hb0 | hb0
        · have hb1 : b = -1 := by
            rcases HBR.out with ⟨e, -⟩ | ⟨q, e, -⟩
            · exact e
            · omega
          have HN := Lib.hid (HS2.out hc hb1)
          clear hc
          go_wp2
          go_quiet ((go_at_call 16; exact quiet_drawn2 (HH.out _)))
          go_wp2
          go_roundw
          case rel => exact ⟨i + 1, i, by omega, by go_num, rfl, HN, ⟨_, rfl⟩⟩
          case measure => simp [intOf]; omega
        · obtain ⟨q, rfl⟩ := Int.eq_ofNat_of_zero_le hb0
          have hq := bestR_lt HBR.out
          have hq2 : q < xs.length - 1 := by omega
          have hq3 : (q : Int) < ((xs.length - 1 : Nat) : Int) := by omega
          have hq4 : ¬ ((q : Int) < 0) := by omega
          have c1 := PC.out i hil
          have c2 := PC.out q (by omega)
          have HN3 := Lib.hid (HS3.out hc q rfl)
          have HN4 := Lib.hid (HS4.out hc q rfl)
          generalize (powI xs).getD i 0 = u at *
          generalize (powI xs).getD q 0 = v at *
          clear hc
          by_cases hv : v < u
          · have HN := Lib.hid (HN3.out hv)
            go_wp2
            go_quiet ((go_at_call 16; exact quiet_drawn2 (HH.out _)))
            go_wp2
            go_roundw
            case rel => exact ⟨i + 1, i, by omega, by go_num, rfl, HN, ⟨_, rfl⟩⟩
            case measure => simp [intOf]; omega
          · have HN := Lib.hid (HN4.out hv)
            go_wp2
            go_quiet ((go_at_call 16; exact quiet_drawn2 (HH.out _)))
            go_wp2
            go_roundw
            case rel => exact ⟨i + 1, q, by omega, by go_num, rfl, HN, ⟨_, rfl⟩⟩
            case measure => simp [intOf]; omega
      · have HN := Lib.hid (HS1.out hc)
        rw [hc] at HH
        clear hc
        go_wp2
        go_quiet ((go_at_call 16; exact quiet_drawn2 (HH.out _)))
        go_wp2
        go_roundw
        case rel => exact ⟨i + 1, b, by omega, by go_num, rfl, HN, ⟨_, rfl⟩⟩
        case measure => simp [intOf]; omega

end Go.Proofs.Ythidaoemonjemac
