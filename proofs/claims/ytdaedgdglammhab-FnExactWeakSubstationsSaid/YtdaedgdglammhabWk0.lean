/-
  The code of substations, of their primary water and of their loads: both sides.
-/
import Derived.Test.YtdaedgdglammhabSv0
import Derived.Test.YtdaedgdglammhabB6
namespace Go.Proofs.Ytdaedgdglammhab
open Go.ChangeShapes Go.WideShapes Go.ChangeAt Go.RowKit Go.Shelf

set_option linter.unusedVariables false
set_option maxRecDepth 100000
set_option maxHeartbeats 4000000
def rangeB (n : Nat) (p : Int) (gs : List Int) : Bool := inB p 0 18000 && (decide (gs.length = n) && allIn 0 100000000 gs)
def loadC (xs : List Sb) (p : Int) (gs : List Int) : Int := argC (okSbs xs) (rangeB xs.length p gs)
theorem loadC_ok {xs : List Sb} {p : Int} {gs : List Int} (h : loadC xs p gs = 0) : okSbs xs = true ∧ inB p 0 18000 = true ∧ gs.length = xs.length ∧ allIn 0 100000000 gs = true := by
  unfold loadC argC at h
  split at h
  · next h1 =>
    split at h
    · next h2 =>
      unfold rangeB at h2
      simp only [Bool.and_eq_true, decide_eq_true_eq] at h2
      exact ⟨h1, h2.1, h2.2.1, h2.2.2⟩
    · cases h
  · cases h
theorem gsCell {w : World} {A : Option Addr} {zs : List Int} (h : CellsAt w A (intsV zs)) {k : Nat} (hk : k < zs.length) : ∃ b o, A = some ⟨b, o, none⟩ ∧ w.cell? ⟨b, o + k, none⟩ = some (.int .i64 (zs.getD k 0)) := by
  obtain ⟨b, o, rfl, hc⟩ := h (by rw [intsV_length]; omega)
  refine ⟨b, o, rfl, ?_⟩
  rw [hc k (by rw [intsV_length]; exact hk), intsV_at _ _ hk]
  simp [List.getD, hk]
theorem isPowerList_any (D : Option Addr) (dc : Nat) (ds : List Int) (w : World) (hD : CellsAt w D (intsV ds)) (hm : ds.length ≤ 1048576) :
    Calls Try.prog 53 #[.slice D ds.length dc] w fun e w' => e = .returned (.bool (allIn 0 100000000 ds)) ∧ w = w' := by
  have H := Lib.hid (within64_cells 0 100000000 D dc ds.length ds w rfl (by unfold maxLen; omega) hD)
  go_enter Try.func53, Try.ntmps53
  go_wp2_with ((go_at_call 75; refine H.out.mono ?_; rintro e w' ⟨rfl, rfl⟩))
  go_ret
  exact ⟨rfl, rfl⟩
theorem isWaterNew (a : Int) (b : Nat) (w : World) (hc : w.cell? ⟨b, 0, none⟩ = some (.int .i64 a)) :
    Calls Try.prog 52 #[.slice (some ⟨b, 0, none⟩) 1 1] w fun e w' => e = .returned (.bool (inB a 0 18000)) ∧ w = w' := by
  have H := Lib.hid (within64_free 0 18000 a b w hc)
  go_enter Try.func52, Try.ntmps52
  go_wp2_with ((go_at_call 75; refine H.out.mono ?_; rintro e w' ⟨rfl, rfl⟩))
  go_ret
  exact ⟨rfl, rfl⟩
theorem loadsCode_any (A : Option Addr) (n c : Nat) (xs : List Sb) (p : Int) (G : Option Addr) (gc : Nat) (gs : List Int) (w : World) (h : SbsOk w A n xs) (hG : CellsAt w G (intsV gs)) (hg : gs.length ≤ 1048576) :
    Calls Try.prog 69 #[.slice A n c, .int .i64 p, .slice G gs.length gc] w fun e w' => e = .returned (.int .i64 (loadC xs p gs)) ∧ Below w.heap.size w w' := by
  have hn := h.2
  obtain rfl := h.1.1
  have hb : Below w.heap.size w w := Below.refl _ _
  have HV := Lib.hid (fun (W : World) (hW : Below w.heap.size w W) => implVS_any A xs.length c xs W (h.go hW))
  have HP := Lib.hid (fun (W : World) (hW : Below w.heap.size w W) => isPowerList_any G gc gs W (hG.next hW) hg)
  have HW := Lib.hid (fun (W : World) (b : Nat) hc => isWaterNew p b W hc)
  have HA := Lib.hid (fun (v r : Bool) (W : World) => argumentCode_any v r W)
  clear h hG
  unfold loadC rangeB
  generalize okSbs xs = v at *
  generalize inB p 0 18000 = a at *
  generalize allIn 0 100000000 gs = q at *
  by_cases hl : gs.length = xs.length
  · have f1 : ((gs.length : Int) == (xs.length : Int)) = true := by rw [hl]; simp
    have f2 : decide (gs.length = xs.length) = true := decide_eq_true hl
    rw [f2]
    clear hl f2
    cases a <;> cases q
    all_goals go_enter Try.func69, Try.ntmps69
    all_goals go_wp2_with (first | (go_at_call 52; refine (HW.out _ _ ?hn).mono ?_; (case hn => first | exact (World.cell?_alloc_at _ _ _ _ (by simp)).trans rfl | simp); rintro e w' ⟨rfl, rfl⟩) | (go_at_call 53; (first | refine (HP.out _ hb).mono ?_ | refine (HP.out _ (bal hb _)).mono ?_ | refine (HP.out _ (bal (bal hb _) _)).mono ?_); rintro e w' ⟨rfl, rfl⟩) | (go_at_call 15; (first | refine (HV.out _ hb).mono ?_ | refine (HV.out _ (bal hb _)).mono ?_ | refine (HV.out _ (bal (bal hb _) _)).mono ?_); rintro e w' ⟨rfl, hb'⟩; (first | have hb := bnext hb hb' | have hb := bnext (bal hb _) hb' | have hb := bnext (bal (bal hb _) _) hb'); clear hb') | (go_at_call 77; refine (HA.out _ _ _).mono ?_; rintro e w' ⟨rfl, rfl⟩))
    all_goals go_ret
    all_goals first | exact ⟨rfl, hb⟩ | (exact ⟨by simp, hb⟩)
  · have f1 : ((gs.length : Int) == (xs.length : Int)) = false := beq_eq_false_iff_ne.2 (by omega)
    have f2 : decide (gs.length = xs.length) = false := decide_eq_false hl
    rw [f2]
    clear hl f2
    cases a
    all_goals go_enter Try.func69, Try.ntmps69
    all_goals go_wp2_with (first | (go_at_call 52; refine (HW.out _ _ ?hn).mono ?_; (case hn => first | exact (World.cell?_alloc_at _ _ _ _ (by simp)).trans rfl | simp); rintro e w' ⟨rfl, rfl⟩) | (go_at_call 53; (first | refine (HP.out _ hb).mono ?_ | refine (HP.out _ (bal hb _)).mono ?_ | refine (HP.out _ (bal (bal hb _) _)).mono ?_); rintro e w' ⟨rfl, rfl⟩) | (go_at_call 15; (first | refine (HV.out _ hb).mono ?_ | refine (HV.out _ (bal hb _)).mono ?_ | refine (HV.out _ (bal (bal hb _) _)).mono ?_); rintro e w' ⟨rfl, hb'⟩; (first | have hb := bnext hb hb' | have hb := bnext (bal hb _) hb' | have hb := bnext (bal (bal hb _) _) hb'); clear hb') | (go_at_call 77; refine (HA.out _ _ _).mono ?_; rintro e w' ⟨rfl, rfl⟩))
    all_goals go_ret
    all_goals first | exact ⟨rfl, hb⟩ | (exact ⟨by simp, hb⟩)

theorem l12Ask_any (A : Option Addr) (n c : Nat) (xs : List Sb) (p : Int) (G : Option Addr) (gc : Nat) (gs : List Int) (w : World) (h : SbsOk w A n xs) (hG : CellsAt w G (intsV gs)) (hg : gs.length ≤ 1048576) :
    Calls Try.prog 67 #[.slice A n c, .int .i64 p, .slice G gs.length gc] w fun e w' => e = .returned (.int .i64 (loadC xs p gs)) ∧ Below w.heap.size w w' := by
  have hn := h.2
  obtain rfl := h.1.1
  have HO := Lib.hid (l12Ok_any A xs.length c xs w h)
  have HB := Lib.hid hG
  clear h hG
  by_cases hv : okSbs xs = true
  rotate_left
  · have hv' : okSbs xs = false := by simpa using hv
    have hc : loadC xs p gs = 1 := by unfold loadC argC; rw [hv']; rfl
    have HO := Lib.hid (by have k := HO.out; rw [hv'] at k; exact k)
    rw [hc]
    clear hv hv' hc
    go_enter Try.func67, Try.ntmps67
    go_wp2_with (first | (go_at_call 40; refine HO.out.mono ?_; rintro e w' ⟨rfl, hd'⟩; have hb := drawn_below hd'; clear hd') | (go_at_call 48; refine (l02Degrees_any _ _).mono ?_; rintro e w' ⟨rfl, rfl⟩))
    go_ret
    exact ⟨rfl, hb⟩
  have HO := Lib.hid (by have k := HO.out; rw [hv] at k; exact k)
  by_cases h1 : inB p 0 18000 = true
  rotate_left
  · have h1' : inB p 0 18000 = false := by simpa using h1
    have hc : loadC xs p gs = 2 := by unfold loadC argC rangeB; rw [hv, h1']; rfl
    rw [hc]
    clear hv hc
    go_enter Try.func67, Try.ntmps67
    go_wp2_with (first | (go_at_call 40; refine HO.out.mono ?_; rintro e w' ⟨rfl, hd'⟩; have hb := drawn_below hd'; clear hd') | (go_at_call 48; refine (l02Degrees_any _ _).mono ?_; rintro e w' ⟨rfl, rfl⟩))
    go_ret
    exact ⟨rfl, hb⟩
  by_cases hl : gs.length = xs.length
  rotate_left
  · have f1 : ((gs.length : Int) != (xs.length : Int)) = true := bne_iff_ne.2 (by omega)
    have hc : loadC xs p gs = 2 := by unfold loadC argC rangeB; rw [hv, h1, decide_eq_false hl]; rfl
    rw [hc]
    clear hv hc hl
    go_enter Try.func67, Try.ntmps67
    go_wp2_with (first | (go_at_call 40; refine HO.out.mono ?_; rintro e w' ⟨rfl, hd'⟩; have hb := drawn_below hd'; clear hd') | (go_at_call 48; refine (l02Degrees_any _ _).mono ?_; rintro e w' ⟨rfl, rfl⟩))
    go_ret
    exact ⟨rfl, hb⟩
  have f1 : ((gs.length : Int) != (xs.length : Int)) = false := by rw [hl]; simp
  have hcc : loadC xs p gs = if allIn 0 100000000 gs = true then 0 else 2 := by unfold loadC argC rangeB; rw [hv, h1, decide_eq_true hl]; simp
  have HCC := Lib.hid hcc
  generalize loadC xs p gs = R at *
  clear hv hl hcc
  go_enter Try.func67, Try.ntmps67
  go_wp2_with (first | (go_at_call 40; refine HO.out.mono ?_; rintro e w' ⟨rfl, hd'⟩; have hb := drawn_below hd'; clear hd') | (go_at_call 48; refine (l02Degrees_any _ _).mono ?_; rintro e w' ⟨rfl, rfl⟩))
  go_loopw [7] (fun i wr => ∃ k : Nat, k ≤ gs.length ∧ i = .int .i64 k ∧ Below w.heap.size w wr ∧ Hid (allIn 0 100000000 (gs.take k) = true)) (fun i _ => gs.length - (intOf i).toNat)
  case atStart => exact ⟨0, by omega, rfl, by assumption, Lib.hid rfl⟩
  case round =>
    obtain ⟨k, hk, rfl, hb, I⟩ := hrel
    by_cases hlt : k < gs.length
    · obtain ⟨b, off, rfl, q0⟩ := gsCell (HB.out.next hb) hlt
      have hk1 : (k : Int) < ((gs.length : Nat) : Int) := by omega
      have HI := Lib.hid (fun W => l02Watts_any (gs.getD k 0) W)
      by_cases hin : inB (gs.getD k 0) 0 100000000 = true
      · have IN : Hid (allIn 0 100000000 (gs.take (k + 1)) = true) := Lib.hid (by rw [allIn_take_succ 0 100000000 gs k hlt, I.out, Bool.true_and]; exact decide_eq_true (inB_iff.1 hin))
        have HI := Lib.hid (fun W => by have h := HI.out W; rw [hin] at h; exact h)
        clear hin
        generalize gs.getD k 0 = v at *
        go_wp2_with ((go_at_call 49; refine (HI.out _).mono ?_; rintro e w' ⟨rfl, rfl⟩))
        go_roundw
        case rel => exact ⟨k + 1, by omega, by go_num, hb, IN⟩
        case measure => simp [intOf]; omega
      · have hin' : inB (gs.getD k 0) 0 100000000 = false := by simpa using hin
        have HV : Hid (R = 2) := Lib.hid (by rw [HCC.out, allIn_false 0 100000000 gs k hlt (fun hh => by rw [inB_true hh] at hin'; cases hin')]; exact if_neg (by decide))
        have HI := Lib.hid (fun W => by have h := HI.out W; rw [hin'] at h; exact h)
        clear hin hin'
        generalize gs.getD k 0 = v at *
        go_wp2_with ((go_at_call 49; refine (HI.out _).mono ?_; rintro e w' ⟨rfl, rfl⟩))
        go_ret
        exact ⟨by rw [HV.out]; rfl, hb⟩
    · have he : k = gs.length := by omega
      subst he
      have HV : Hid (R = 0) := Lib.hid (by have h := I.out; rw [List.take_length] at h; rw [HCC.out, h]; exact if_pos rfl)
      go_wp2
      go_ret
      exact ⟨by rw [HV.out]; rfl, hb⟩
end Go.Proofs.Ytdaedgdglammhab
