/-
  LeastMargin of both sides.
-/
import Derived.Test.YtdaedgdglammhaaBo2
namespace Go.Proofs.Ytdaedgdglammhaa
open Go.ChangeShapes Go.WideShapes Go.ChangeAt Go.RowKit Go.Shelf

set_option linter.unusedVariables false
set_option maxRecDepth 100000
set_option maxHeartbeats 4000000
def ndC (zs ds : List Int) : Int := nodC (prB zs && waB ds) zs.length ds.length
theorem ndC_ok {zs ds : List Int} (h : ndC zs ds = 0) : prB zs = true ∧ waB ds = true ∧ zs.length = ds.length ∧ zs.length ≤ 16 := by
  unfold ndC nodC at h
  split at h
  · next hh =>
    rw [Bool.and_eq_true] at hh
    split at h
    · next hl => exact ⟨hh.1, hh.2, hl.1, hl.2⟩
    · cases h
  · cases h
def leastMarginR0 (zs ds : List Int) : Int := if ndC zs ds = 0 ∧ 0 < zs.length then (argTo (surF zs ds) (zs.length - 1) : Nat) else 0
def leastMarginR1 (zs ds : List Int) : Int := if ndC zs ds = 0 ∧ 0 < zs.length then minTo (surF zs ds) (zs.length - 1) else 0
def leastMarginR2 (zs ds : List Int) : Int := if ndC zs ds = 0 then (if 0 < zs.length then 0 else 3) else ndC zs ds
theorem lm_bad {zs ds : List Int} (h : ¬ ndC zs ds = 0) : leastMarginR0 zs ds = 0 ∧ leastMarginR1 zs ds = 0 ∧ leastMarginR2 zs ds = ndC zs ds := by
  unfold leastMarginR0 leastMarginR1 leastMarginR2
  exact ⟨if_neg (fun k => h k.1), if_neg (fun k => h k.1), if_neg h⟩
theorem lm_none {zs ds : List Int} (h : ndC zs ds = 0) (h0 : ¬ 0 < zs.length) : leastMarginR0 zs ds = 0 ∧ leastMarginR1 zs ds = 0 ∧ leastMarginR2 zs ds = 3 := by
  unfold leastMarginR0 leastMarginR1 leastMarginR2
  exact ⟨if_neg (fun k => h0 k.2), if_neg (fun k => h0 k.2), (if_pos h).trans (if_neg h0)⟩
theorem lm_ok {zs ds : List Int} (h : ndC zs ds = 0) (h0 : 0 < zs.length) : leastMarginR0 zs ds = (argTo (surF zs ds) (zs.length - 1) : Nat) ∧ leastMarginR1 zs ds = minTo (surF zs ds) (zs.length - 1) ∧ leastMarginR2 zs ds = 0 := by
  unfold leastMarginR0 leastMarginR1 leastMarginR2
  exact ⟨if_pos ⟨h, h0⟩, if_pos ⟨h, h0⟩, (if_pos h).trans (if_pos h0)⟩
theorem surL_getD (zs ds : List Int) (k : Nat) (h : k < zs.length) : (surL zs ds).getD k 0 = surF zs ds k := by
  rw [List.getD_eq_getElem?_getD, List.getElem?_eq_getElem (by rw [surL_length]; exact h), surL_at zs ds k h]; rfl
theorem minTo_congr {f g : Nat → Int} {k : Nat} (h : ∀ j, j ≤ k → f j = g j) : minTo f k = minTo g k := by
  induction k with
  | zero => exact h 0 (Nat.le_refl _)
  | succ k ih => unfold minTo; rw [ih (fun j hj => h j (by omega)), h (k + 1) (Nat.le_refl _)]
theorem minTo_sur (zs ds : List Int) (h : 0 < zs.length) : minTo (fun k => (surL zs ds).getD k 0) ((surL zs ds).length - 1) = minTo (surF zs ds) (zs.length - 1) := by
  rw [surL_length]
  exact minTo_congr fun j hj => surL_getD zs ds j (by omega)
theorem surF_bd {zs ds : List Int} (hz : prB zs = true) (hl : zs.length = ds.length) (k : Nat) (hk : k < zs.length) : -101300000 ≤ surF zs ds k ∧ surF zs ds k ≤ 100000000 := by
  have := allIn_one' hz hk
  have := stm_bd (ds.getD k 0)
  unfold surF
  omega

theorem implLeastMargin_ds (A : Option Addr) (ca : Nat) (zs : List Int) (B : Option Addr) (cb : Nat) (ds : List Int) (w : World) (hA : CellsAt w A (intsV zs)) (hn : zs.length ≤ 1048576) (hB : CellsAt w B (intsV ds)) (hm : ds.length ≤ 1048576) :
    Calls Try.prog 36 #[.slice A zs.length ca, .slice B ds.length cb] w (fun e w' => e = .returned (.tuple #[.int .i64 (leastMarginR0 zs ds), .int .i64 (leastMarginR1 zs ds), .int .i64 (leastMarginR2 zs ds)]) ∧ Below w.heap.size w w') := by
  have HW := Lib.hid (waterCode_any A B ca cb zs ds true w hA hB hn hm)
  have hb : Below w.heap.size w w := Below.refl _ _
  change Hid (Calls _ _ _ _ fun e w' => e = .returned (.int .i64 (ndC zs ds)) ∧ _) at HW
  by_cases hc : ndC zs ds = 0
  rotate_left
  · rw [(lm_bad hc).1, (lm_bad hc).2.1, (lm_bad hc).2.2]
    generalize ndC zs ds = k at *
    clear hA hB
    go_enter Try.func36, Try.ntmps36
    go_wp2_with ((go_at_call 87; refine HW.out.mono ?_; rintro e w' ⟨rfl, hb'⟩; have hb := bnext hb hb'))
    go_ret3
    exact ⟨rfl, hb⟩
  have HW := Lib.hid (by have h := HW.out; rw [hc] at h; exact h)
  obtain ⟨hz, hd, hl, h16⟩ := ndC_ok hc
  by_cases h0 : 0 < zs.length
  rotate_left
  · rw [(lm_none hc h0).1, (lm_none hc h0).2.1, (lm_none hc h0).2.2]
    have f0 : ((zs.length : Int) == 0) = true := beq_iff_eq.2 (by omega)
    clear hA hB hl hc
    go_enter Try.func36, Try.ntmps36
    go_wp2_with ((go_at_call 87; refine HW.out.mono ?_; rintro e w' ⟨rfl, hb'⟩; have hb := bnext hb hb'))
    go_ret3
    exact ⟨rfl, hb⟩
  rw [(lm_ok hc h0).1, (lm_ok hc h0).2.1, (lm_ok hc h0).2.2]
  have HS := Lib.hid (fun (W : World) (hW : Below w.heap.size w W) => surpluses_any A B ca cb zs ds W (hA.next hW) (hB.next hW) hn hl hz hd)
  have HM := Lib.hid (fun (S : Option Addr) (c : Nat) (W : World) (h : CellsAt W S (intsV (surL zs ds))) => by
    have k := slicesMin_any S c (surL zs ds) W h (by rw [surL_length]; exact h0) (by rw [surL_length]; exact hn)
    rw [minTo_sur zs ds h0, surL_length] at k
    exact k)
  have HI := Lib.hid (fun (S : Option Addr) (c : Nat) (W : World) (h : CellsAt W S (intsV (surL zs ds))) => by
    have k := slicesIndex_any S c (surL zs ds) (minTo (surF zs ds) (zs.length - 1)) (argTo (surF zs ds) (zs.length - 1)) W h (by rw [surL_length]; have := argTo_le (surF zs ds) (zs.length - 1); omega)
      (by rw [surL_getD zs ds _ (by have := argTo_le (surF zs ds) (zs.length - 1); omega)]; exact argTo_min _ _)
      (fun j hj => by
        rw [surL_getD zs ds j (by have := argTo_le (surF zs ds) (zs.length - 1); omega)]
        have := argTo_first (surF zs ds) (zs.length - 1) j hj
        omega) (by rw [surL_length]; exact hn)
    rw [surL_length] at k
    exact k)
  have f0 : ((zs.length : Int) == 0) = false := beq_eq_false_iff_ne.2 (by omega)
  have hr := argTo_le (surF zs ds) (zs.length - 1)
  generalize minTo (surF zs ds) (zs.length - 1) = v at *
  generalize argTo (surF zs ds) (zs.length - 1) = r at *
  have hlen := surL_length zs ds
  generalize surL zs ds = ss at *
  have HL := Lib.hid hlen
  clear hA hB hl hc hlen
  go_enter Try.func36, Try.ntmps36
  go_wp2_with ((go_at_call 87; refine HW.out.mono ?_; rintro e w' ⟨rfl, hb'⟩; have hb := bnext hb hb'))
  refine (HS.out _ hb).mono ?_
  rintro e w2 hq
  obtain ⟨S, sc, rfl, ho, hbs⟩ := retInts_of hq
  have hS := owns_cells ho
  have hb := bnext hb hbs
  rw [HL.out] at ho ⊢
  clear hq ho hbs
  go_wp2_with fail
  refine (HM.out _ _ _ hS).mono ?_
  rintro e w3 ⟨rfl, hb'⟩
  have hS := hS.next hb'
  have hb := bnext hb hb'
  clear hb'
  go_wp2_with fail
  refine (HI.out _ _ _ hS).mono ?_
  rintro e w4 ⟨rfl, hb'⟩
  have hb := bnext hb hb'
  go_wp2
  go_ret3
  exact ⟨rfl, hb⟩
end Go.Proofs.Ytdaedgdglammhaa
