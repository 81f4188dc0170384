/-
  PressureRoom of the program.
-/
import Derived.Test.YtdaedgdglammhaaBo3
namespace Go.Proofs.Ytdaedgdglammhaa
open Go.ChangeShapes Go.WideShapes Go.ChangeAt Go.RowKit Go.Shelf

set_option linter.unusedVariables false
set_option maxRecDepth 100000
set_option maxHeartbeats 4000000
def mlB (m l : Int) : Bool := inB m 0 1000000 && inB l 0 100000000
def prC (zs ds : List Int) (m l : Int) : Int := nodC (mlB m l && (prB zs && waB ds)) zs.length ds.length
def lowI' (zs ds : List Int) (m : Int) : Int := m - minTo (surF zs ds) (zs.length - 1)
def topI' (zs : List Int) (l : Int) : Int := l - maxTo (fun k => zs.getD k 0) (zs.length - 1)
def prGood (zs ds : List Int) (m l : Int) : Prop := prC zs ds m l = 0 ∧ 0 < zs.length ∧ lowI' zs ds m ≤ topI' zs l
instance (zs ds : List Int) (m l : Int) : Decidable (prGood zs ds m l) := by unfold prGood; exact inferInstance
def pressureRoomR0 (zs ds : List Int) (m l : Int) : Int := if prGood zs ds m l then lowI' zs ds m else 0
def pressureRoomR1 (zs ds : List Int) (m l : Int) : Int := if prGood zs ds m l then topI' zs l else 0
def pressureRoomR2 (zs ds : List Int) (m l : Int) : Int := if prC zs ds m l = 0 then (if 0 < zs.length then (if lowI' zs ds m ≤ topI' zs l then 0 else 3) else 6) else prC zs ds m l
theorem prm_bad {zs ds : List Int} {m l : Int} (h : ¬ prC zs ds m l = 0) : pressureRoomR0 zs ds m l = 0 ∧ pressureRoomR1 zs ds m l = 0 ∧ pressureRoomR2 zs ds m l = prC zs ds m l := by
  unfold pressureRoomR0 pressureRoomR1 pressureRoomR2
  exact ⟨if_neg (fun k => h k.1), if_neg (fun k => h k.1), if_neg h⟩
theorem prm_none {zs ds : List Int} {m l : Int} (h : prC zs ds m l = 0) (h0 : ¬ 0 < zs.length) : pressureRoomR0 zs ds m l = 0 ∧ pressureRoomR1 zs ds m l = 0 ∧ pressureRoomR2 zs ds m l = 6 := by
  unfold pressureRoomR0 pressureRoomR1 pressureRoomR2
  exact ⟨if_neg (fun k => h0 k.2.1), if_neg (fun k => h0 k.2.1), (if_pos h).trans (if_neg h0)⟩
theorem prm_no {zs ds : List Int} {m l : Int} (h : prC zs ds m l = 0) (h0 : 0 < zs.length) (h1 : ¬ lowI' zs ds m ≤ topI' zs l) : pressureRoomR0 zs ds m l = 0 ∧ pressureRoomR1 zs ds m l = 0 ∧ pressureRoomR2 zs ds m l = 3 := by
  unfold pressureRoomR0 pressureRoomR1 pressureRoomR2
  exact ⟨if_neg (fun k => h1 k.2.2), if_neg (fun k => h1 k.2.2), (if_pos h).trans ((if_pos h0).trans (if_neg h1))⟩
theorem prm_ok {zs ds : List Int} {m l : Int} (h : prC zs ds m l = 0) (h0 : 0 < zs.length) (h1 : lowI' zs ds m ≤ topI' zs l) : pressureRoomR0 zs ds m l = lowI' zs ds m ∧ pressureRoomR1 zs ds m l = topI' zs l ∧ pressureRoomR2 zs ds m l = 0 := by
  unfold pressureRoomR0 pressureRoomR1 pressureRoomR2
  exact ⟨if_pos ⟨h, h0, h1⟩, if_pos ⟨h, h0, h1⟩, (if_pos h).trans ((if_pos h0).trans (if_pos h1))⟩
theorem prC_ok {zs ds : List Int} {m l : Int} (h : prC zs ds m l = 0) : mlB m l = true ∧ ndC zs ds = 0 := by
  unfold prC nodC at h
  split at h
  · next hh =>
    rw [Bool.and_eq_true] at hh
    refine ⟨hh.1, ?_⟩
    unfold ndC nodC
    rw [if_pos hh.2]
    exact h
  · cases h
theorem leastRise_any (S : Option Addr) (c : Nat) (ss : List Int) (m : Int) (w : World) (h : CellsAt w S (intsV ss)) (h0 : 0 < ss.length) (hn : ss.length ≤ 1048576) (m0 : 0 ≤ m) (m1 : m ≤ 1000000)
    (b0 : -200000000 ≤ minTo (fun k => ss.getD k 0) (ss.length - 1)) (b1 : minTo (fun k => ss.getD k 0) (ss.length - 1) ≤ 200000000) :
    Calls Try.prog 105 #[.int .i64 m, .slice S ss.length c] w fun e w' => e = .returned (.int .i64 (m - minTo (fun k => ss.getD k 0) (ss.length - 1))) ∧ Below w.heap.size w w' := by
  have hb : Below w.heap.size w w := Below.refl _ _
  have HM := Lib.hid (slicesMin_any S c ss w h h0 hn)
  generalize minTo (fun k => ss.getD k 0) (ss.length - 1) = v at *
  clear h
  go_enter Try.func105, Try.ntmps105
  go_wp2_with ((go_at_call 91; refine HM.out.mono ?_; rintro e w' ⟨rfl, hb'⟩; have hb := bnext hb hb'))
  go_ret
  exact ⟨rfl, hb⟩

theorem implPressureRoom_ds (A : Option Addr) (ca : Nat) (zs : List Int) (B : Option Addr) (cb : Nat) (ds : List Int) (m l : Int) (w : World) (hA : CellsAt w A (intsV zs)) (hn : zs.length ≤ 1048576) (hB : CellsAt w B (intsV ds)) (hm : ds.length ≤ 1048576) :
    Calls Try.prog 42 #[.slice A zs.length ca, .slice B ds.length cb, .int .i64 m, .int .i64 l] w (fun e w' => e = .returned (.tuple #[.int .i64 (pressureRoomR0 zs ds m l), .int .i64 (pressureRoomR1 zs ds m l), .int .i64 (pressureRoomR2 zs ds m l)]) ∧ Below w.heap.size w w') := by
  have hb : Below w.heap.size w w := Below.refl _ _
  have HW := Lib.hid (fun (r : Bool) (W : World) (hW : Below w.heap.size w W) => waterCode_any A B ca cb zs ds r W (hA.next hW) (hB.next hW) hn hm)
  have H1 := Lib.hid (fun W => isMargin_any m W)
  have H2 := Lib.hid (fun W => isPressure_any l W)
  by_cases hc : prC zs ds m l = 0
  rotate_left
  · rw [(prm_bad hc).1, (prm_bad hc).2.1, (prm_bad hc).2.2]
    have HW : Hid (∀ (W : World), Below w.heap.size w W → Calls Try.prog 87 #[.slice A zs.length ca, .slice B ds.length cb, .bool (mlB m l)] W fun e w' => e = .returned (.int .i64 (prC zs ds m l)) ∧ Below W.heap.size W w') := Lib.hid (fun W hW => HW.out (mlB m l) W hW)
    generalize prC zs ds m l = k at *
    unfold mlB at HW
    clear hA hB
    by_cases h1 : inB m 0 1000000 = true
    · by_cases h2 : inB l 0 100000000 = true
      · have HW := Lib.hid (by have h := HW.out; rw [h1, h2] at h; exact h)
        have H1 := Lib.hid (by have h := H1.out; rw [h1] at h; exact h)
        have H2 := Lib.hid (by have h := H2.out; rw [h2] at h; exact h)
        go_enter Try.func42, Try.ntmps42
        go_wp2_with (first | (go_at_call 81; refine (H1.out _).mono ?_; rintro e w' ⟨rfl, hb'⟩; have hb := bnext hb hb'; clear hb') | (go_at_call 80; refine (H2.out _).mono ?_; rintro e w' ⟨rfl, hb'⟩; have hb := bnext hb hb'; clear hb') | (go_at_call 87; refine (HW.out _ hb).mono ?_; rintro e w' ⟨rfl, hb'⟩; have hb := bnext hb hb'; clear hb'))
        go_ret3
        exact ⟨rfl, hb⟩
      · have h2' : inB l 0 100000000 = false := by simpa using h2
        have HW := Lib.hid (by have h := HW.out; rw [h1, h2'] at h; exact h)
        have H1 := Lib.hid (by have h := H1.out; rw [h1] at h; exact h)
        have H2 := Lib.hid (by have h := H2.out; rw [h2'] at h; exact h)
        go_enter Try.func42, Try.ntmps42
        go_wp2_with (first | (go_at_call 81; refine (H1.out _).mono ?_; rintro e w' ⟨rfl, hb'⟩; have hb := bnext hb hb'; clear hb') | (go_at_call 80; refine (H2.out _).mono ?_; rintro e w' ⟨rfl, hb'⟩; have hb := bnext hb hb'; clear hb') | (go_at_call 87; refine (HW.out _ hb).mono ?_; rintro e w' ⟨rfl, hb'⟩; have hb := bnext hb hb'; clear hb'))
        go_ret3
        exact ⟨rfl, hb⟩
    · have h1' : inB m 0 1000000 = false := by simpa using h1
      have HW := Lib.hid (by have h := HW.out; rw [h1', Bool.false_and] at h; exact h)
      have H1 := Lib.hid (by have h := H1.out; rw [h1'] at h; exact h)
      go_enter Try.func42, Try.ntmps42
      go_wp2_with (first | (go_at_call 81; refine (H1.out _).mono ?_; rintro e w' ⟨rfl, hb'⟩; have hb := bnext hb hb'; clear hb') | (go_at_call 80; refine (H2.out _).mono ?_; rintro e w' ⟨rfl, hb'⟩; have hb := bnext hb hb'; clear hb') | (go_at_call 87; refine (HW.out _ hb).mono ?_; rintro e w' ⟨rfl, hb'⟩; have hb := bnext hb hb'; clear hb'))
      go_ret3
      exact ⟨rfl, hb⟩
  obtain ⟨hml, hnd⟩ := prC_ok hc
  obtain ⟨hz, hd, hl, h16⟩ := ndC_ok hnd
  have hml' := hml
  unfold mlB at hml'
  rw [Bool.and_eq_true] at hml'
  have q1 := inB_iff.1 hml'.1
  have q2 := inB_iff.1 hml'.2
  have HW : Hid (∀ (W : World), Below w.heap.size w W → Calls Try.prog 87 #[.slice A zs.length ca, .slice B ds.length cb, .bool true] W fun e w' => e = .returned (.int .i64 0) ∧ Below W.heap.size W w') := Lib.hid (fun W hW => by
    have h := HW.out (mlB m l) W hW
    change Calls _ _ _ _ fun e w' => e = .returned (.int .i64 (prC zs ds m l)) ∧ _ at h
    rw [hml, hc] at h
    exact h)
  have H1 := Lib.hid (by have h := H1.out; rw [hml'.1] at h; exact h)
  have H2 := Lib.hid (by have h := H2.out; rw [hml'.2] at h; exact h)
  by_cases h0 : 0 < zs.length
  rotate_left
  · rw [(prm_none hc h0).1, (prm_none hc h0).2.1, (prm_none hc h0).2.2]
    have f0 : ((zs.length : Int) == 0) = true := beq_iff_eq.2 (by omega)
    clear hA hB hl hc
    go_enter Try.func42, Try.ntmps42
    go_wp2_with (first | (go_at_call 81; refine (H1.out _).mono ?_; rintro e w' ⟨rfl, hb'⟩; have hb := bnext hb hb'; clear hb') | (go_at_call 80; refine (H2.out _).mono ?_; rintro e w' ⟨rfl, hb'⟩; have hb := bnext hb hb'; clear hb') | (go_at_call 87; refine (HW.out _ hb).mono ?_; rintro e w' ⟨rfl, hb'⟩; have hb := bnext hb hb'; clear hb'))
    go_ret3
    exact ⟨rfl, hb⟩
  have f0 : ((zs.length : Int) == 0) = false := beq_eq_false_iff_ne.2 (by omega)
  have bS := minTo_bd (f := surF zs ds) (lo := -200000000) (hi := 200000000) (k := zs.length - 1) (fun j hj => by have := surF_bd hz hl j (by omega); omega)
  have bM := maxTo_bd (f := fun k => zs.getD k 0) (lo := -100000000) (hi := 100000000) (k := zs.length - 1) (fun j hj => by have := allIn_one' hz (show j < zs.length by omega); exact this)
  have HS := Lib.hid (fun (W : World) (hW : Below w.heap.size w W) => surpluses_any A B ca cb zs ds W (hA.next hW) (hB.next hW) hn hl hz hd)
  have HX := Lib.hid (fun (W : World) (hW : Below w.heap.size w W) => slicesMax_any A ca zs W (hA.next hW) h0 hn)
  have HR := Lib.hid (fun (S : Option Addr) (c : Nat) (W : World) (h : CellsAt W S (intsV (surL zs ds))) => by
    have k := leastRise_any S c (surL zs ds) m W h (by rw [surL_length]; exact h0) (by rw [surL_length]; exact hn) q1.1 q1.2 (by rw [minTo_sur zs ds h0]; exact bS.1) (by rw [minTo_sur zs ds h0]; exact bS.2)
    rw [minTo_sur zs ds h0, surL_length] at k
    exact k)
  have hlen := surL_length zs ds
  have HL := Lib.hid hlen
  clear hlen
  by_cases hgo : lowI' zs ds m ≤ topI' zs l
  · rw [(prm_ok hc h0 hgo).1, (prm_ok hc h0 hgo).2.1, (prm_ok hc h0 hgo).2.2]
    unfold lowI' topI' at *
    clear hA hB hl hc
    generalize minTo (surF zs ds) (zs.length - 1) = u at *
    generalize maxTo (fun k => zs.getD k 0) (zs.length - 1) = v at *
    generalize surL zs ds = ss at *
    have f1 : decide (l - v < m - u) = false := decide_eq_false (by omega)
    clear hgo
    go_enter Try.func42, Try.ntmps42
    go_wp2_with (first | (go_at_call 81; refine (H1.out _).mono ?_; rintro e w' ⟨rfl, hb'⟩; have hb := bnext hb hb'; clear hb') | (go_at_call 80; refine (H2.out _).mono ?_; rintro e w' ⟨rfl, hb'⟩; have hb := bnext hb hb'; clear hb') | (go_at_call 87; refine (HW.out _ hb).mono ?_; rintro e w' ⟨rfl, hb'⟩; have hb := bnext hb hb'; clear hb'))
    refine (HS.out _ hb).mono ?_
    rintro e w2 hq
    obtain ⟨S, sc, rfl, ho, hbs⟩ := retInts_of hq
    have hS := owns_cells ho
    have hb := bnext hb hbs
    rw [HL.out] at ho ⊢
    clear hq ho hbs
    go_wp2_with fail
    refine (HR.out _ _ _ hS).mono ?_
    rintro e w3 ⟨rfl, hb'⟩
    have hb := bnext hb hb'
    clear hb'
    go_wp2_with fail
    refine (HX.out _ hb).mono ?_
    rintro e w4 ⟨rfl, hb'⟩
    have hb := bnext hb hb'
    go_wp2
    go_ret3
    exact ⟨rfl, hb⟩
  · rw [(prm_no hc h0 hgo).1, (prm_no hc h0 hgo).2.1, (prm_no hc h0 hgo).2.2]
    unfold lowI' topI' at *
    clear hA hB hl hc
    generalize minTo (surF zs ds) (zs.length - 1) = u at *
    generalize maxTo (fun k => zs.getD k 0) (zs.length - 1) = v at *
    generalize surL zs ds = ss at *
    have f1 : decide (l - v < m - u) = true := decide_eq_true (by omega)
    clear hgo
    go_enter Try.func42, Try.ntmps42
    go_wp2_with (first | (go_at_call 81; refine (H1.out _).mono ?_; rintro e w' ⟨rfl, hb'⟩; have hb := bnext hb hb'; clear hb') | (go_at_call 80; refine (H2.out _).mono ?_; rintro e w' ⟨rfl, hb'⟩; have hb := bnext hb hb'; clear hb') | (go_at_call 87; refine (HW.out _ hb).mono ?_; rintro e w' ⟨rfl, hb'⟩; have hb := bnext hb hb'; clear hb'))
    refine (HS.out _ hb).mono ?_
    rintro e w2 hq
    obtain ⟨S, sc, rfl, ho, hbs⟩ := retInts_of hq
    have hS := owns_cells ho
    have hb := bnext hb hbs
    rw [HL.out] at ho ⊢
    clear hq ho hbs
    go_wp2_with fail
    refine (HR.out _ _ _ hS).mono ?_
    rintro e w3 ⟨rfl, hb'⟩
    have hb := bnext hb hb'
    clear hb'
    go_wp2_with fail
    refine (HX.out _ hb).mono ?_
    rintro e w4 ⟨rfl, hb'⟩
    have hb := bnext hb hb'
    go_wp2
    go_ret3
    exact ⟨rfl, hb⟩
end Go.Proofs.Ytdaedgdglammhaa
