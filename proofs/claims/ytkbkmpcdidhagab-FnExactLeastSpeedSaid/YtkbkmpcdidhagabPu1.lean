/-
  Points; what makes a pump valid: the model's side.
-/
import Derived.Test.YtkbkmpcdidhagabPm0
import Derived.Test.YtkbkmpcdidhagabPt0
import Derived.Test.YtkbkmpcdidhagabRi
import Derived.Test.YtkbkmpcdidhagabB2
import Derived.Test.YtkbkmpcdidhagabB6
import Derived.Test.YtkbkmpcdidhagabW3
import Derived.Test.YtkbkmpcdidhagabP2
import Derived.Deep.RegionHeld3
import Derived.IntWalk
namespace Go.Proofs.Ytkbkmpcdidhagab
open Go.ChangeShapes Go.WideShapes Go.ChangeAt Go.RowKit

set_option maxRecDepth 100000
set_option linter.unusedVariables false

def ptOk (p : Int × Int) : Bool := inB p.1 0 100000 && inB p.2 0 2000000
def yOk (p : Int × Int) : Bool := inB p.2 0 2000000
def xUp (a b : Int × Int) : Bool := decide (a.1 < b.1)
def yDn (a b : Int × Int) : Bool := decide (b.2 ≤ a.2)
def pUp (a b : Int × Int) : Bool := xUp a b && yDn a b
/-- the points of a pump that is valid -/
def okC (ps : List (Int × Int)) : Bool := (decide (2 ≤ ps.length) && decide (ps.length ≤ 8)) && (ps.all ptOk && (decide ((ptAt ps 0).1 = 0) && riseBy pUp ps ps.length))
theorem okC_parts {ps : List (Int × Int)} (h : okC ps = true) : 2 ≤ ps.length ∧ ps.length ≤ 8 ∧ ps.all ptOk = true ∧ (ptAt ps 0).1 = 0 ∧ riseBy pUp ps ps.length = true := by
  unfold okC at h
  simp only [Bool.and_eq_true, decide_eq_true_eq] at h
  exact ⟨h.1.1, h.1.2, h.2.1, h.2.2.1, h.2.2.2⟩
theorem okC_one {ps : List (Int × Int)} (h : okC ps = true) (i : Nat) (hi : i < ps.length) : 0 ≤ (ptAt ps i).1 ∧ (ptAt ps i).1 ≤ 100000 ∧ 0 ≤ (ptAt ps i).2 ∧ (ptAt ps i).2 ≤ 2000000 := by
  have := List.all_eq_true.1 (okC_parts h).2.2.1 _ (List.mem_of_getElem? (ptAt_some ps i hi))
  unfold ptOk at this
  simp only [Bool.and_eq_true, inB_iff] at this
  omega
theorem okC_two {ps : List (Int × Int)} (h : okC ps = true) (i : Nat) (hi : i + 1 < ps.length) : (ptAt ps i).1 < (ptAt ps (i + 1)).1 ∧ (ptAt ps (i + 1)).2 ≤ (ptAt ps i).2 := by
  have := riseBy_get (okC_parts h).2.2.2.2 i hi _ _ (ptAt_some ps i (by omega)) (ptAt_some ps (i + 1) hi)
  unfold pUp xUp yDn at this
  simp only [Bool.and_eq_true, decide_eq_true_eq] at this
  exact this
theorem okC_le {ps : List (Int × Int)} (h : okC ps = true) (i j : Nat) (hij : i ≤ j) (hj : j < ps.length) : (ptAt ps i).1 ≤ (ptAt ps j).1 := by
  induction j with
  | zero => have : i = 0 := by omega
            subst this; exact Int.le_refl _
  | succ j ih =>
    by_cases e : i = j + 1
    · subst e; exact Int.le_refl _
    · have := ih (by omega) (by omega)
      have := (okC_two h j hj).1
      omega
/-- a point out of a list of numbers -/
def toPt (z : List Int) : Int × Int := (z.getD 0 0, z.getD 1 0)
/-- the points of lists, none if one of them is not a pair -/
def crv (Z : List (List Int)) : List (Int × Int) := if Z.all (fun z => decide (z.length = 2)) = true then Z.map toPt else []
def rowOk (z : List Int) : Bool := decide (z.length = 2) && ptOk (toPt z)
def okZ (Z : List (List Int)) : Bool := (decide (2 ≤ Z.length) && decide (Z.length ≤ 8)) && (Z.all rowOk && (decide ((ptAt (Z.map toPt) 0).1 = 0) && riseBy pUp (Z.map toPt) Z.length))
theorem all_and' {α : Type} (f g : α → Bool) (l : List α) : l.all (fun a => f a && g a) = (l.all f && l.all g) := by
  induction l with
  | nil => rfl
  | cons a r ih => simp only [List.all_cons, ih]; cases f a <;> cases g a <;> simp
theorem okC_crv (Z : List (List Int)) : okC (crv Z) = okZ Z := by
  unfold crv
  by_cases h : Z.all (fun z => decide (z.length = 2)) = true
  · rw [if_pos h]
    unfold okC okZ rowOk
    rw [all_and', h, Bool.true_and, List.length_map, List.all_map]
    rfl
  · rw [if_neg h]
    have h' : Z.all (fun z => decide (z.length = 2)) = false := by simpa only [Bool.not_eq_true] using h
    unfold okZ rowOk
    rw [all_and', h']
    simp [okC]
def okPu (x : PmD) : Bool := nameL x.id.data.toList && okZ x.cv

theorem all_take_at {α : Type} (f : α → Bool) (l : List α) (k : Nat) (a : α) (h : l[k]? = some a) : (l.take (k + 1)).all f = ((l.take k).all f && f a) := by
  rw [List.take_add_one, h, List.all_append]; simp
theorem all_false_of {α : Type} (f : α → Bool) (l : List α) (k : Nat) (a : α) (h : l[k]? = some a) (hf : f a = false) : l.all f = false := by
  rw [List.all_eq_false]
  exact ⟨a, List.mem_of_getElem? h, by simp [hf]⟩
set_option maxHeartbeats 2000000 in
theorem l08Ok_any (b : Nat) (x : Pm) (w : World) (hO : PmO w b 0 x) (h : x.okay w) :
    Calls Try.prog 46 #[.pointer (some ⟨b, 0, none⟩)] w fun e w' => e = .returned (.bool (okPu x.d)) ∧ Drawn w w' := by
  have ⟨n0, n1⟩ := hO
  have HF := Lib.hid h.1
  have hsz := h.1.1
  have HNM := Lib.hid (fun wx => l01Name_any x.d.id wx hsz)
  have hcl : x.d.cv.length ≤ 1048576 := h.2.1
  clear h
  by_cases hn : nameL x.d.id.data.toList = true
  rotate_left
  · have hn : nameL x.d.id.data.toList = false := by simpa only [Bool.not_eq_true] using hn
    have HV : Hid (okPu x.d = false) := Lib.hid (by unfold okPu; rw [hn]; rfl)
    rw [hn] at HNM
    go_enter Try.func46, Try.ntmps46
    go_wp2_with fail
    refine (HNM.out _).mono ?_
    rintro e w1 ⟨rfl, rfl⟩
    go_wp2
    go_ret
    exact ⟨by rw [HV.out]; rfl, Drawn.rfl' _⟩
  have HV0 : Hid (okPu x.d = okZ x.d.cv) := Lib.hid (by unfold okPu; rw [hn]; rfl)
  rw [hn] at HNM
  clear hn
  by_cases hl2 : x.d.cv.length < 2
  · have HV : Hid (okPu x.d = false) := Lib.hid (by rw [HV0.out]; unfold okZ; rw [decide_eq_false (by omega : ¬ 2 ≤ x.d.cv.length)]; rfl)
    go_enter Try.func46, Try.ntmps46
    go_wp2_with fail
    refine (HNM.out _).mono ?_
    rintro e w1 ⟨rfl, rfl⟩
    go_wp2
    go_ret
    exact ⟨by rw [HV.out]; rfl, Drawn.rfl' _⟩
  by_cases hl8 : 8 < x.d.cv.length
  · have HV : Hid (okPu x.d = false) := Lib.hid (by rw [HV0.out]; unfold okZ; rw [decide_eq_false (by omega : ¬ x.d.cv.length ≤ 8)]; simp)
    have hl2' : 2 ≤ x.d.cv.length := by omega
    clear hl2
    go_enter Try.func46, Try.ntmps46
    go_wp2_with fail
    refine (HNM.out _).mono ?_
    rintro e w1 ⟨rfl, rfl⟩
    go_wp2
    go_ret
    exact ⟨by rw [HV.out]; rfl, Drawn.rfl' _⟩
  have hl2' : 2 ≤ x.d.cv.length := by omega
  have hl8' : x.d.cv.length ≤ 8 := by omega
  have HV1 : Hid (okPu x.d = (x.d.cv.all rowOk && (decide ((ptAt (x.d.cv.map toPt) 0).1 = 0) && riseBy pUp (x.d.cv.map toPt) x.d.cv.length))) := Lib.hid (by rw [HV0.out]; unfold okZ; rw [decide_eq_true hl2', decide_eq_true hl8']; rfl)
  clear hl2 hl8 HV0
  go_enter Try.func46, Try.ntmps46
  go_wp2_with fail
  refine (HNM.out _).mono ?_
  rintro e w1 ⟨rfl, rfl⟩
  go_wp2
  go_loopw [3] (fun i wr => ∃ q : Nat, q ≤ x.d.cv.length ∧ i = .int .i64 q ∧ Hid ((x.d.cv.take q).all rowOk = true ∧ riseBy pUp (x.d.cv.map toPt) q = true ∧ (0 < q → decide ((ptAt (x.d.cv.map toPt) 0).1 = 0) = true)) ∧ Drawn w wr) (fun i _ => x.d.cv.length - (intOf i).toNat)
  case atStart => exact ⟨0, Nat.zero_le _, rfl, Lib.hid ⟨by simp, rfl, fun h => by omega⟩, Drawn.rfl' _⟩
  case round =>
    obtain ⟨q, hq, rfl, HIN, ⟨nr, rfl⟩⟩ := hrel
    by_cases hlq : q < x.d.cv.length
    rotate_left
    · have e : q = x.d.cv.length := by omega
      have HV : Hid (okPu x.d = true) := Lib.hid (by
        have h1 := HIN.out
        rw [e] at h1
        rw [List.take_of_length_le (Nat.le_refl _)] at h1
        rw [HV1.out, h1.1, h1.2.1, h1.2.2 (by omega)]; rfl)
      have hlq' : ¬ ((q : Int) < (x.d.cv.length : Int)) := by omega
      go_wp2
      go_ret
      exact ⟨by rw [HV.out]; rfl, ⟨_, rfl⟩⟩
    · obtain ⟨bt, ot, hA, hrow⟩ := HF.out.2.2.at (by omega)
      have hlr : q < x.rs.length := by rw [HF.out.2.2.1]; exact hlq
      have hp := List.getElem?_eq_getElem hlr
      have p0 := hrow q _ hp
      have hfr := HF.out.2.2.2.2.2 _ (List.mem_of_getElem? hp)
      have hzq : x.d.cv[q]? = some (x.rs[q]).z := by rw [← HF.out.2.1, List.getElem?_map, hp]; rfl
      have hptq : (x.d.cv.map toPt)[q]? = some (toPt (x.rs[q]).z) := by rw [List.getElem?_map, hzq]; rfl
      have HROW := Lib.hid hrow
      generalize x.rs[q] = r at *
      have HHA := Lib.hid hA
      rw [hA] at n1
      have HS : Hid ((x.d.cv.take (q + 1)).all rowOk = ((x.d.cv.take q).all rowOk && rowOk r.z)) := Lib.hid (all_take_at _ _ _ _ hzq)
      have HNo : Hid (rowOk r.z = false → okPu x.d = false) := Lib.hid (fun hf => by rw [HV1.out, all_false_of _ _ _ _ hzq hf]; rfl)
      have HRS := Lib.hid (riseBy_succ pUp (x.d.cv.map toPt) q)
      have HRF : Hid (riseByAt pUp (x.d.cv.map toPt) q = false → okPu x.d = false) := Lib.hid (fun hf => by
        have := riseBy_false pUp (x.d.cv.map toPt) q x.d.cv.length hlq hf
        rw [HV1.out, this]; simp)
      have HPT := Lib.hid hptq
      clear hp hrow hzq hptq hA
      by_cases hz2 : r.z.length = 2
      rotate_left
      · have HV : Hid (okPu x.d = false) := Lib.hid (HNo.out (by unfold rowOk; rw [decide_eq_false hz2]; rfl))
        have hz2' : ((r.z.length : Int) != 2) = true := by rw [bne_iff_ne]; omega
        clear hz2
        go_wp2_with (first | (go_at_call 54; refine (l02Flow_any _ _).mono ?_; rintro e w' ⟨rfl, rfl⟩) | (go_at_call 75; refine (in_any _ _ _ _).mono ?_; rintro e w' ⟨rfl, rfl⟩))
        go_ret
        exact ⟨by rw [HV.out]; rfl, ⟨_, rfl⟩⟩
      have hz2' : ((r.z.length : Int) != 2) = false := by rw [hz2]; rfl
      obtain ⟨bz, oz, hzA, hzc⟩ := hfr.2.2.1 (by rw [List.length_map, hz2]; omega)
      have c0 : w.cell? ⟨bz, oz, none⟩ = some (.int .i64 (toPt r.z).1) := by
        have := hzc 0 (by rw [List.length_map, hz2]; omega)
        rw [Nat.add_zero] at this
        rw [this, List.getElem?_map]
        unfold toPt
        rw [List.getD, List.getElem?_eq_getElem (by omega)]; rfl
      have c1 : w.cell? ⟨bz, oz + 1, none⟩ = some (.int .i64 (toPt r.z).2) := by
        have := hzc 1 (by rw [List.length_map, hz2]; omega)
        rw [this, List.getElem?_map]
        unfold toPt
        rw [List.getD, List.getD, List.getElem?_eq_getElem (by omega), List.getElem?_eq_getElem (by omega)]; rfl
      have HRO : Hid (rowOk r.z = ptOk (toPt r.z)) := Lib.hid (by unfold rowOk; rw [decide_eq_true hz2]; rfl)
      rw [hzA] at p0
      have hlz : ((2 : Nat) : Int) = (r.z.length : Int) := by omega
      have hL2 : (r.z.length) = 2 := hz2
      rw [hL2] at p0
      clear hzc hfr hlz hzA
      generalize toPt r.z = pt at *
      clear hz2 hL2 hz2'
      by_cases h1 : inB pt.1 0 100000 = true
      rotate_left
      · have h1 : inB pt.1 0 100000 = false := by simpa only [Bool.not_eq_true] using h1
        have HV : Hid (okPu x.d = false) := Lib.hid (HNo.out (by rw [HRO.out]; unfold ptOk; rw [h1]; rfl))
        go_wp2_with (first | (go_at_call 54; refine (l02Flow_any _ _).mono ?_; rintro e w' ⟨rfl, rfl⟩) | (go_at_call 75; refine (in_any _ _ _ _).mono ?_; rintro e w' ⟨rfl, rfl⟩))
        go_ret
        exact ⟨by rw [HV.out]; rfl, ⟨_, rfl⟩⟩
      by_cases h2 : inB pt.2 0 2000000 = true
      rotate_left
      · have h2 : inB pt.2 0 2000000 = false := by simpa only [Bool.not_eq_true] using h2
        have HV : Hid (okPu x.d = false) := Lib.hid (HNo.out (by rw [HRO.out]; unfold ptOk; rw [h1, h2]; rfl))
        go_wp2_with (first | (go_at_call 54; refine (l02Flow_any _ _).mono ?_; rintro e w' ⟨rfl, rfl⟩) | (go_at_call 75; refine (in_any _ _ _ _).mono ?_; rintro e w' ⟨rfl, rfl⟩))
        go_ret
        exact ⟨by rw [HV.out]; rfl, ⟨_, rfl⟩⟩
      have HOK : Hid (rowOk r.z = true) := Lib.hid (by rw [HRO.out]; unfold ptOk; rw [h1, h2]; rfl)
      by_cases hq0 : q = 0
      · have hi00 : ((q : Int) == 0) = true := by rw [beq_iff_eq]; omega
        have hi01 : (q == 0) = true := by rw [beq_iff_eq]; exact hq0
        have hi02 : decide ((0 : Int) < (q : Int)) = false := decide_eq_false (by omega)
        have hi03 : decide (0 < q) = false := decide_eq_false (by omega)
        have HQ0 := Lib.hid hq0
        clear hq0
        by_cases h3 : pt.1 = 0
        · have HFZ : Hid (decide ((ptAt (x.d.cv.map toPt) 0).1 = 0) = true) := Lib.hid (by
            have h9 := HPT.out
            rw [HQ0.out] at h9
            rw [ptAt_get h9]; exact decide_eq_true h3)
          have hne : (pt.1 != 0) = false := by rw [h3]; rfl
          have HR0 : Hid (riseByAt pUp (x.d.cv.map toPt) q = true) := Lib.hid (by rw [HQ0.out]; exact riseByAt_zero ..)
          clear h3
          go_wp2_with (first | (go_at_call 54; refine (l02Flow_any _ _).mono ?_; rintro e w' ⟨rfl, rfl⟩) | (go_at_call 75; refine (in_any _ _ _ _).mono ?_; rintro e w' ⟨rfl, rfl⟩))
          go_quiet (fail)
          go_wp2
          go_roundw
          case rel => exact ⟨q + 1, by omega, by go_num, Lib.hid ⟨by rw [HS.out, HIN.out.1, HOK.out]; rfl, by rw [HRS.out, HIN.out.2.1, HR0.out]; rfl, fun _ => HFZ.out⟩, ⟨_, by first | rfl | exact World.drewN_drewN ..⟩⟩
          case measure => simp [intOf]; omega
        · have HV : Hid (okPu x.d = false) := Lib.hid (by
            have h9 := HPT.out
            rw [HQ0.out] at h9
            rw [HV1.out, ptAt_get h9, decide_eq_false h3]; simp)
          have hne : (pt.1 != 0) = true := by simpa using h3
          clear h3
          go_wp2_with (first | (go_at_call 54; refine (l02Flow_any _ _).mono ?_; rintro e w' ⟨rfl, rfl⟩) | (go_at_call 75; refine (in_any _ _ _ _).mono ?_; rintro e w' ⟨rfl, rfl⟩))
          go_quiet (fail)
          go_wp2
          go_ret
          exact ⟨by rw [HV.out]; rfl, ⟨_, World.drewN_drewN ..⟩⟩
      · obtain ⟨r', hr⟩ : ∃ r', q = r' + 1 := ⟨q - 1, by omega⟩
        have hlr' : r' < x.rs.length := by omega
        have hp' := List.getElem?_eq_getElem hlr'
        have s0 := HROW.out r' _ hp'
        have hfr' := HF.out.2.2.2.2.2 _ (List.mem_of_getElem? hp')
        have hzq' : x.d.cv[r']? = some (x.rs[r']).z := by rw [← HF.out.2.1, List.getElem?_map, hp']; rfl
        have hro' : rowOk (x.rs[r']).z = true := by
          have h9 := HIN.out.1
          rw [hr, all_take_at _ _ _ _ hzq', Bool.and_eq_true] at h9
          exact h9.2
        have hat : riseByAt pUp (x.d.cv.map toPt) q = pUp (toPt (x.rs[r']).z) pt := by
          have := riseByAt_at pUp (x.d.cv.map toPt) r' (toPt (x.rs[r']).z) pt (by rw [List.getElem?_map, hzq']; rfl) (by rw [← hr]; exact HPT.out)
          rw [← hr] at this
          exact this
        generalize x.rs[r'] = rr at *
        have hz2 : rr.z.length = 2 := by unfold rowOk at hro'; simp only [Bool.and_eq_true, decide_eq_true_eq] at hro'; exact hro'.1
        obtain ⟨by', oy, hyA, hyc⟩ := hfr'.2.2.1 (by rw [List.length_map, hz2]; omega)
        have d0 : w.cell? ⟨by', oy, none⟩ = some (.int .i64 (toPt rr.z).1) := by
          have := hyc 0 (by rw [List.length_map, hz2]; omega)
          rw [Nat.add_zero] at this
          rw [this, List.getElem?_map]
          unfold toPt
          rw [List.getD, List.getElem?_eq_getElem (by omega)]; rfl
        have d1 : w.cell? ⟨by', oy + 1, none⟩ = some (.int .i64 (toPt rr.z).2) := by
          have := hyc 1 (by rw [List.length_map, hz2]; omega)
          rw [this, List.getElem?_map]
          unfold toPt
          rw [List.getD, List.getD, List.getElem?_eq_getElem (by omega), List.getElem?_eq_getElem (by omega)]; rfl
        rw [hyA, hz2] at s0
        have hi0 : 0 < q := by omega
        have hi1 : decide (0 < q) = true := decide_eq_true hi0
        have hi00 : ((q : Int) == 0) = false := by rw [beq_eq_false_iff_ne]; omega
        have hi01 : (q == 0) = false := by rw [beq_eq_false_iff_ne]; omega
        have hi2 : (0 : Int) ≤ (q : Int) - 1 := by omega
        have hi3 : ((q : Int) - 1).toNat = r' := by omega
        have hi4 : (q : Int) - 1 < (x.d.cv.length : Int) := by omega
        have HR := Lib.hid hr
        clear hr hyc hfr' hyA hro' hzq' hp' hz2 hq0
        generalize toPt rr.z = pt' at *
        by_cases hx : pt'.1 < pt.1
        rotate_left
        · have HV : Hid (okPu x.d = false) := Lib.hid (HRF.out (by rw [hat]; unfold pUp xUp; rw [decide_eq_false hx]; rfl))
          have hx' : pt.1 ≤ pt'.1 := by omega
          clear hat hx
          go_wp2_with (first | (go_at_call 54; refine (l02Flow_any _ _).mono ?_; rintro e w' ⟨rfl, rfl⟩) | (go_at_call 75; refine (in_any _ _ _ _).mono ?_; rintro e w' ⟨rfl, rfl⟩))
          go_quiet (fail)
          go_wp2
          go_ret
          exact ⟨by rw [HV.out]; rfl, ⟨_, World.drewN_drewN ..⟩⟩
        have hx1 : decide (pt.1 ≤ pt'.1) = false := decide_eq_false (by omega)
        by_cases hy : pt.2 ≤ pt'.2
        · have HAT : Hid (riseByAt pUp (x.d.cv.map toPt) q = true) := Lib.hid (by rw [hat]; unfold pUp xUp yDn; rw [decide_eq_true hx, decide_eq_true hy]; rfl)
          have HQ := Lib.hid hi0
          have hy1 : decide (pt'.2 < pt.2) = false := decide_eq_false (by omega)
          clear hat
          go_wp2_with (first | (go_at_call 54; refine (l02Flow_any _ _).mono ?_; rintro e w' ⟨rfl, rfl⟩) | (go_at_call 75; refine (in_any _ _ _ _).mono ?_; rintro e w' ⟨rfl, rfl⟩))
          go_quiet (fail)
          go_wp2
          go_roundw
          case rel => exact ⟨q + 1, by omega, by go_num, Lib.hid ⟨by rw [HS.out, HIN.out.1, HOK.out]; rfl, by rw [HRS.out, HIN.out.2.1, HAT.out]; rfl, fun _ => HIN.out.2.2 HQ.out⟩, ⟨_, by first | rfl | exact World.drewN_drewN ..⟩⟩
          case measure => simp [intOf]; omega
        · have HV : Hid (okPu x.d = false) := Lib.hid (HRF.out (by rw [hat]; unfold pUp xUp yDn; rw [decide_eq_true hx, decide_eq_false hy]; rfl))
          have hy1 : decide (pt'.2 < pt.2) = true := decide_eq_true (by omega)
          clear hat hy
          go_wp2_with (first | (go_at_call 54; refine (l02Flow_any _ _).mono ?_; rintro e w' ⟨rfl, rfl⟩) | (go_at_call 75; refine (in_any _ _ _ _).mono ?_; rintro e w' ⟨rfl, rfl⟩))
          go_quiet (fail)
          go_wp2
          go_ret
          exact ⟨by rw [HV.out]; rfl, ⟨_, World.drewN_drewN ..⟩⟩
theorem specVP_any (x : Pm) (w : World) (h : x.okay w) :
    Calls Try.prog 14 #[.agg #[.string x.d.id, .slice x.cvA x.d.cv.length x.cvc]] w fun e w' => e = .returned (.bool (okPu x.d)) ∧ Below w.heap.size w w' := by
  have hb : Below w.heap.size w (w.alloc (.cells #[.string x.d.id, .slice x.cvA x.d.cv.length x.cvc] 27)) := bal (Below.refl _ _) _
  have hO := PmO.new w x 27
  have HC := Lib.hid (l08Ok_any w.heap.size x _ hO (h.go hb))
  have ⟨n0, n1⟩ := hO
  clear h hO
  go_enter Try.func14, Try.ntmps14
  go_wp2_with fail
  refine HC.out.mono ?_
  rintro e w1 ⟨rfl, ⟨k, rfl⟩⟩
  go_wp2
  go_ret
  exact ⟨rfl, below_drewN hb _⟩
def validPumpR0 (d : PmD) : Bool := okPu d
end Go.Proofs.Ytkbkmpcdidhagab
