import Derived.Test.YtgdafgnjaogmeaaMga28630ce
import Derived.Test.YtgdafgnjaogmeaaLd7
import Derived.Test.YtgdafgnjaogmeaaQt
import Derived.Shelf.SlSortCmp.Kit1
import Derived.Sort.OwnSortedInts
import Derived.Lib.SortBridge
/-
  The places of numbers, that of the greatest first.
-/
namespace Go.Proofs.Ytgdafgnjaogmeaa
open Go.ChangeShapes Go.WideShapes Go.ChangeAt Go.RowKit Go.Sort

set_option maxRecDepth 100000
set_option maxHeartbeats 1600000
set_option linter.unusedVariables false

/-- the order of two places: the greater number first, of equal ones the earlier place -/
def rkI (l : List Int) (x y : Nat) : Int := if cmpI (l.getD y 0) (l.getD x 0) = 0 then cmpI (x : Int) (y : Int) else cmpI (l.getD y 0) (l.getD x 0)
def rkF (l : List Int) (m : Nat) (x y : Fin m) : Int := rkI l x.val y.val
theorem cmpI_neg (a b : Int) : cmpI a b < 0 ↔ a < b := by unfold cmpI; (repeat' split) <;> omega
theorem cmpI_zero (a b : Int) : cmpI a b = 0 ↔ a = b := by unfold cmpI; (repeat' split) <;> omega
theorem rkI_neg (l : List Int) (x y : Nat) : rkI l x y < 0 ↔ (l.getD y 0 < l.getD x 0 ∨ (l.getD y 0 = l.getD x 0 ∧ x < y)) := by
  unfold rkI
  have h1 := cmpI_neg (l.getD y 0) (l.getD x 0)
  have h2 := cmpI_zero (l.getD y 0) (l.getD x 0)
  have h3 := cmpI_neg (x : Int) (y : Int)
  split <;> omega
theorem rkF_lt (l : List Int) (m : Nat) (x y : Fin m) : Go.Proofs.ltOf (rkF l m) x y = decide (l.getD y.val 0 < l.getD x.val 0 ∨ (l.getD y.val 0 = l.getD x.val 0 ∧ x.val < y.val)) := by
  unfold Go.Proofs.ltOf rkF
  exact decide_eq_decide.2 (rkI_neg l x.val y.val)
theorem rkF_swo (l : List Int) (m : Nat) : SWO (Go.Proofs.ltOf (rkF l m)) where
  irrefl x := by rw [rkF_lt]; simp
  trans x y z h1 h2 := by
    rw [rkF_lt] at *
    simp only [decide_eq_true_eq] at *
    omega
  ntrans x y z h1 h2 := by
    rw [rkF_lt] at *
    simp only [decide_eq_false_iff_not] at *
    omega
theorem rkF_total (l : List Int) (m : Nat) (x y : Fin m) (h1 : Go.Proofs.ltOf (rkF l m) x y = false) (h2 : Go.Proofs.ltOf (rkF l m) y x = false) : x = y := by
  rw [rkF_lt] at *
  simp only [decide_eq_false_iff_not] at *
  exact Fin.ext (by omega)
/-- the places, that of the greatest first -/
def rankF (l : List Int) (m : Nat) : List (Fin (m + 1)) := (List.finRange (m + 1)).mergeSort fun x y => !(Go.Proofs.ltOf (rkF l (m + 1)) y x)
def rankI (l : List Int) : List Int := if h : l = [] then [] else (rankF l (l.length - 1)).map fun x => (x.val : Int)
theorem rankF_perm (l : List Int) (m : Nat) : (rankF l m).Perm (List.finRange (m + 1)) := List.mergeSort_perm _ _
theorem rankF_length (l : List Int) (m : Nat) : (rankF l m).length = m + 1 := by rw [(rankF_perm l m).length_eq, List.length_finRange]
theorem rankF_sorted (l : List Int) (m : Nat) : (rankF l m).Pairwise fun x y => Go.Proofs.ltOf (rkF l (m + 1)) y x = false := by
  have H := rkF_swo l (m + 1)
  have h := List.pairwise_mergeSort (le := fun x y => !(Go.Proofs.ltOf (rkF l (m + 1)) y x)) (fun a b c h1 h2 => by
    simp only [Bool.not_eq_true'] at *
    exact H.ntrans c b a h2 h1) (fun a b => by
    rw [rkF_lt, rkF_lt]
    simp only [Bool.or_eq_true, Bool.not_eq_true', decide_eq_false_iff_not]
    omega) (List.finRange (m + 1))
  exact h.imp (fun h => by simpa using h)
theorem rankI_length (l : List Int) : (rankI l).length = l.length := by
  unfold rankI
  split
  · rename_i h; rw [h]
  · rename_i h
    have : 0 < l.length := List.length_pos_iff.2 h
    rw [List.length_map, rankF_length]; omega
theorem rankI_of (l : List Int) (m : Nat) (h : l.length = m + 1) : rankI l = (rankF l m).map fun x => (x.val : Int) := by
  unfold rankI
  have h0 : l ≠ [] := fun e => by rw [e] at h; cases h
  have h1 : l.length - 1 = m := by omega
  rw [dif_neg h0]
  subst h1
  rfl

theorem compareInt_any (a b : Int) (w : World) : Calls Try.prog 166 #[.int .i64 a, .int .i64 b] w fun e w' => e = .returned (.int .i64 (cmpI a b)) ∧ w = w' := by
  have H : Hid (cmpI a b = _) := Lib.hid (by unfold cmpI; rfl)
  by_cases h1 : a < b
  · rw [if_pos h1] at H
    go_enter Try.func166, Try.ntmps166
    go_wp2
    go_ret
    exact ⟨by rw [H.out]; rfl, rfl⟩
  · by_cases h2 : b < a
    · rw [if_neg h1, if_pos h2] at H
      go_enter Try.func166, Try.ntmps166
      go_wp2
      go_ret
      exact ⟨by rw [H.out]; rfl, rfl⟩
    · rw [if_neg h1, if_neg h2] at H
      go_enter Try.func166, Try.ntmps166
      go_wp2
      go_ret
      exact ⟨by rw [H.out]; rfl, rfl⟩
theorem or_any (b : Nat) (x y : Int) (w : World) (h : w.cell? ⟨b, 0, none⟩ = some (.int .i64 x) ∧ w.cell? ⟨b, 1, none⟩ = some (.int .i64 y)) :
    Calls Try.prog 164 #[.slice (some ⟨b, 0, none⟩) 2 2] w fun e w' => e = .returned (.int .i64 (if x = 0 then y else x)) ∧ w = w' := by
  obtain ⟨c0, c1⟩ := h
  have H : Hid ((if x = 0 then y else x) = (if x = 0 then y else x)) := Lib.hid rfl
  obtain ⟨r, hr⟩ : ∃ r : Int, r = (if x = 0 then y else x) := ⟨_, rfl⟩
  rw [← hr]
  have HR := Lib.hid hr
  clear hr H
  go_enter Try.func164, Try.ntmps164
  go_wp2
  go_loopw [8] (fun i wr => ∃ k : Nat, k ≤ 2 ∧ i = .int .i64 k ∧ Hid (1 ≤ k → x = 0) ∧ Hid (2 ≤ k → y = 0) ∧ w = wr) (fun i _ => 2 - (intOf i).toNat)
  case atStart => exact ⟨0, by omega, rfl, Lib.hid (fun h => absurd h (by omega)), Lib.hid (fun h => absurd h (by omega)), rfl⟩
  case round =>
    obtain ⟨k, hk, rfl, HX, HY, rfl⟩ := hrel
    by_cases h2 : k = 2
    · subst h2
      have e0 : r = 0 := by rw [HR.out, if_pos (HX.out (by omega))]; exact HY.out (by omega)
      have HE := Lib.hid e0
      clear e0
      go_wp2
      go_ret
      exact ⟨by rw [HE.out]; rfl, rfl⟩
    by_cases h1 : k = 1
    · subst h1
      have e0 := HX.out (by omega)
      by_cases hy : y = 0
      · have hyb : (y != 0) = false := by simp [hy]
        have HY2 := Lib.hid hy
        clear hy
        go_wp2
        go_roundw
        case rel => exact ⟨2, by omega, by go_num, Lib.hid (fun _ => HX.out (by omega)), Lib.hid (fun _ => HY2.out), trivial⟩
        case measure => simp [intOf]
      · have hyb : (y != 0) = true := by simp [hy]
        have HE := Lib.hid (show r = y by rw [HR.out, if_pos e0])
        clear e0
        go_wp2
        go_ret
        exact ⟨by rw [HE.out]; rfl, rfl⟩
    have h0 : k = 0 := by omega
    subst h0
    by_cases hx : x = 0
    · have hxb : (x != 0) = false := by simp [hx]
      have HX2 := Lib.hid hx
      clear hx
      go_wp2
      go_roundw
      case rel => exact ⟨1, by omega, by go_num, Lib.hid (fun _ => HX2.out), Lib.hid (fun h => absurd h (by omega)), trivial⟩
      case measure => simp [intOf]
    · have hxb : (x != 0) = true := by simp [hx]
      have HE := Lib.hid (show r = x by rw [HR.out, if_neg hx])
      go_wp2
      go_ret
      exact ⟨by rw [HE.out]; rfl, rfl⟩
theorem rank1_any (vb : Nat) (b off n c : Nat) (l : List Int) (x y : Nat) (w : World) (hl : l.length = n) (hx : x < n) (hy : y < n) (hn : n ≤ 1048576) (hv : One w vb (.slice (some ⟨b, off, none⟩) n c)) (hc : ∀ j, j < n → w.cell? ⟨b, off + j, none⟩ = some (.int .i64 (l.getD j 0))) :
    Calls Try.prog 163 #[.int .i64 x, .int .i64 y, .pointer (some ⟨vb, 0, none⟩)] w fun e w' => e = .returned (.int .i64 (rkI l x y)) ∧ ∃ q os, w' = grow (w.drewN q) os := by
  have hcx := hc x hx
  have hcy := hc y hy
  have HR : Hid (rkI l x y = _) := Lib.hid (by unfold rkI; rfl)
  clear hc hl
  generalize rkI l x y = r at *
  generalize l.getD x 0 = u at *
  generalize l.getD y 0 = v at *
  have ⟨v0, v1⟩ := hv
  generalize hcu : cmpI v u = cu at *
  generalize hci : cmpI (x : Int) (y : Int) = ci at *
  have HU := Lib.hid (fun W => by have h := compare64_any v u W; rw [hcu] at h; exact h)
  have HI := Lib.hid (fun W => by have h := compareInt_any (x : Int) (y : Int) W; rw [hci] at h; exact h)
  clear hcu hci
  go_enter Try.func163, Try.ntmps163
  go_wp2_with fail
  refine quiet_tail 12 (by kernel_rfl) (by kernel_rfl) ?_
  simp only [List.take_succ_cons, List.take_zero, List.drop_succ_cons, List.drop_zero]
  go_simp
  repeat (go_big_quiet_step ((first | (go_at_call 165; exact quiet_same (HU.out _)) | (go_at_call 166; exact quiet_same (HI.out _)))))
  refine wpQuiet_nil ?_
  intro nq
  have h0 : ((w.drewN nq).alloc (.cells #[.int .i64 cu, .int .i64 ci] 3)).cell? ⟨w.heap.size, 0, none⟩ = some (.int .i64 cu) ∧ ((w.drewN nq).alloc (.cells #[.int .i64 cu, .int .i64 ci] 3)).cell? ⟨w.heap.size, 1, none⟩ = some (.int .i64 ci) := ⟨(Two.new (w.drewN nq) _ _ _).1, (Two.new (w.drewN nq) _ _ _).2.1⟩
  have h1 := or_any _ _ _ _ h0
  rw [← HR.out] at h1
  have HO := Lib.hid h1
  clear h1
  clear h0
  go_wp2_with (go_at_call 164; refine HO.out.mono ?_; rintro e w' ⟨rfl, rfl⟩)
  go_ret
  exact ⟨rfl, nq, _, alloc_eq_grow _ _⟩

end Go.Proofs.Ytgdafgnjaogmeaa
