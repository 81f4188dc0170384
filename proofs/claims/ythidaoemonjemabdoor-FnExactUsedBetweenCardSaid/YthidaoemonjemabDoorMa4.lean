/-
  What a meter has shown at an hour: the model.
-/
import Derived.Test.YthidaoemonjemabDoorMa1
namespace Go.Proofs.YthidaoemonjemabDoor
open Go.ChangeShapes Go.WideShapes Go.ChangeAt Go.RowKit

set_option maxRecDepth 100000
set_option maxHeartbeats 1600000
set_option linter.unusedVariables false

/-- how many readings stand ahead of an hour -/
def posI (xs : List Rg) (hour : Int) : Nat := xs.findIdx fun x => decide (hour ≤ x.h)
theorem posI_le (xs : List Rg) (hour : Int) : posI xs hour ≤ xs.length := List.findIdx_le_length
theorem posI_of (xs : List Rg) (hour : Int) (p : Nat) (hp : p ≤ xs.length) (h1 : ∀ j, j < p → (rgAt xs j).h < hour) (h2 : p < xs.length → hour ≤ (rgAt xs p).h) : posI xs hour = p := by
  unfold posI
  by_cases hlt : p < xs.length
  · rw [List.findIdx_eq hlt]
    refine ⟨?_, fun j hj => ?_⟩
    · have := h2 hlt
      rw [rgAt_get (List.getElem?_eq_getElem hlt)] at this
      simpa using this
    · have := h1 j hj
      rw [rgAt_get (List.getElem?_eq_getElem (show j < xs.length by omega))] at this
      simpa using this
  · have e : p = xs.length := by omega
    subst e
    rw [List.findIdx_eq_length]
    intro x hx
    obtain ⟨j, hj, rfl⟩ := List.getElem_of_mem hx
    have := h1 j hj
    rw [rgAt_get (List.getElem?_eq_getElem hj)] at this
    simpa using this
/-- the counter at an hour, and whether it is known -/
def atV (xs : List Rg) (hour : Int) : Int :=
  if posI xs hour < xs.length then (if (rgAt xs (posI xs hour)).h = hour then (rgAt xs (posI xs hour)).c else if posI xs hour = 0 then 0 else lineI (rgAt xs (posI xs hour - 1)).h (rgAt xs (posI xs hour - 1)).c (rgAt xs (posI xs hour)).h (rgAt xs (posI xs hour)).c hour) else 0
def atB (xs : List Rg) (hour : Int) : Bool := decide (posI xs hour < xs.length) && (decide ((rgAt xs (posI xs hour)).h = hour) || decide (posI xs hour ≠ 0))
theorem lineB_any (x0 y0 x1 y1 x : Int) (w : World) (hx0 : -1048576 ≤ x0 ∧ x0 ≤ 1048576) (hy0 : -2147483648 ≤ y0 ∧ y0 ≤ 2147483648) (hx1 : -1048576 ≤ x1 ∧ x1 ≤ 1048576) (hy1 : -2147483648 ≤ y1 ∧ y1 ≤ 2147483648) :
    Calls Tryd.prog 62 #[.int .i64 x0, .int .i64 y0, .int .i64 x1, .int .i64 y1, .int .i64 x] w fun e w' => e = .returned (.int .i64 (lineI x0 y0 x1 y1 x)) ∧ w = w' := by
  have H : Hid (lineI x0 y0 x1 y1 x = _) := Lib.hid (by unfold lineI; rfl)
  by_cases h1 : x ≤ x0
  · rw [if_pos (.inl h1)] at H
    go_enter Tryd.func62, Tryd.ntmps62
    go_wp2
    go_ret
    exact ⟨by rw [H.out]; rfl, rfl⟩
  · by_cases h2 : x1 ≤ x0
    · rw [if_pos (.inr h2)] at H
      go_enter Tryd.func62, Tryd.ntmps62
      go_wp2
      go_ret
      exact ⟨by rw [H.out]; rfl, rfl⟩
    · rw [if_neg (by omega)] at H
      by_cases h3 : x1 ≤ x
      · rw [if_pos h3] at H
        go_enter Tryd.func62, Tryd.ntmps62
        go_wp2
        go_ret
        exact ⟨by rw [H.out]; rfl, rfl⟩
      · rw [if_neg h3] at H
        have hp := mul_bd (y1 - y0) (x - x0) 4294967296 2097152 (by omega) (by omega) (by omega) (by omega)
        have hn := nearI_bd ((y1 - y0) * (x - x0)) (x1 - x0) 9007199254740992 (by omega) (by omega) (by omega)
        go_enter Tryd.func62, Tryd.ntmps62
        go_wp2_with (go_at_call 89; refine (l01Div_any _ _ _ (by omega) (by omega) (by omega) (by omega) (by omega)).mono ?_; rintro e w' ⟨rfl, rfl⟩)
        go_ret
        exact ⟨by rw [H.out]; rfl, rfl⟩

theorem blendB_any (x0 y0 x1 y1 x : Int) (w : World) (hx0 : -1048576 ≤ x0 ∧ x0 ≤ 1048576) (hy0 : -2147483648 ≤ y0 ∧ y0 ≤ 2147483648) (hx1 : -1048576 ≤ x1 ∧ x1 ≤ 1048576) (hy1 : -2147483648 ≤ y1 ∧ y1 ≤ 2147483648) :
    Calls Tryd.prog 73 #[.int .i64 x0, .int .i64 y0, .int .i64 x1, .int .i64 y1, .int .i64 x] w fun e w' => e = .returned (.int .i64 (lineI x0 y0 x1 y1 x)) ∧ Drawn w w' := by
  by_cases h2 : x1 ≤ x0
  · have H : Hid (lineI x0 y0 x1 y1 x = y0) := Lib.hid (by unfold lineI; rw [if_pos (.inr h2)])
    go_enter Tryd.func73, Tryd.ntmps73
    go_wp2
    go_ret
    exact ⟨by rw [H.out]; rfl, Drawn.rfl' _⟩
  · have hcl : x0 ≤ clampI x0 x1 x ∧ clampI x0 x1 x ≤ x1 := by unfold clampI; omega
    have H : Hid (lineI x0 y0 x1 y1 x = y0 + nearI ((y1 - y0) * (clampI x0 x1 x - x0)) (x1 - x0)) := Lib.hid (by
      unfold lineI
      by_cases h1 : x ≤ x0
      · rw [if_pos (.inl h1), show clampI x0 x1 x = x0 by unfold clampI; omega, Int.sub_self, Int.mul_zero, nearI_zero _ (by omega), Int.add_zero]
      · rw [if_neg (by omega)]
        by_cases h3 : x1 ≤ x
        · rw [if_pos h3, show clampI x0 x1 x = x1 by unfold clampI; omega, nearI_mul _ _ (by omega)]; omega
        · rw [if_neg h3, show clampI x0 x1 x = x by unfold clampI; omega])
    have hp := mul_bd (y1 - y0) (clampI x0 x1 x - x0) 4294967296 2097152 (by omega) (by omega) (by omega) (by omega)
    have hn := nearI_bd ((y1 - y0) * (clampI x0 x1 x - x0)) (x1 - x0) 9007199254740992 (by omega) (by omega) (by omega)
    go_enter Tryd.func73, Tryd.ntmps73
    go_wp2_with (first | (go_at_call 95; refine (clamp_any _ _ _ _).mono ?_; rintro e w' ⟨rfl, rfl⟩) | (go_at_call 94; refine (nearest_any _ _ _ (by omega) (by omega) (by omega) (by omega) (by omega)).mono ?_; rintro e w' ⟨rfl, ⟨n, rfl⟩⟩))
    go_ret
    exact ⟨by rw [H.out]; rfl, ⟨_, rfl⟩⟩

theorem l06At_any (A : Option Addr) (n c : Nat) (xs : List Rg) (hour : Int) (w : World) (h : RgsOk w A n xs) (hok : okRs xs = true) :
    Calls Tryd.prog 38 #[.slice A n c, .int .i64 hour] w fun e w' => e = .returned (.tuple #[.int .i64 (atV xs hour), .bool (atB xs hour)]) ∧ Below w.heap.size w w' := by
  have hn : n ≤ 48 := by have := (okRs_parts hok).1; have := h.1.1; omega
  obtain rfl := h.1.1
  have HB := Lib.hid h.cells
  have HOK := Lib.hid hok
  have HPO := Lib.hid (posI_of xs hour)
  have HV : Hid (atV xs hour = _) := Lib.hid (by unfold atV; rfl)
  have HW : Hid (atB xs hour = _) := Lib.hid (by unfold atB; rfl)
  clear h hok
  go_enter Tryd.func38, Tryd.ntmps38
  go_wp2
  go_loopw [6] (fun i wr => ∃ k : Nat, k ≤ xs.length ∧ i = .int .i64 k ∧ Hid (∀ j, j < k → (rgAt xs j).h < hour) ∧ Below w.heap.size w wr) (fun i _ => xs.length - (intOf i).toNat)
  case atStart => exact ⟨0, Nat.zero_le _, rfl, Lib.hid (fun j hj => absurd hj (Nat.not_lt_zero _)), Below.refl _ _⟩
  case round =>
    obtain ⟨k, hk, rfl, HJ, hb⟩ := hrel
    by_cases hlt : k < xs.length
    · obtain ⟨b, off, rfl, hrow⟩ := RgO.at (HB.out.next hb) (by omega)
      have P0 := hrow k _ (rgAt_some xs k hlt)
      have HP0 := Lib.hid P0
      have Hrow := Lib.hid hrow
      have a2 := okRs_one HOK.out k hlt
      have HPK := Lib.hid (show hour ≤ (rgAt xs k).h → posI xs hour = k from fun hh => HPO.out k hk HJ.out (fun _ => hh))
      have HSU := Lib.hid (show (rgAt xs k).h < hour → ∀ j, j < k + 1 → (rgAt xs j).h < hour from fun hh j hj => by
        by_cases e : j = k
        · subst e; exact hh
        · exact HJ.out j (by omega))
      have HK0 : Hid (rgAt xs k = rgAt xs k) := Lib.hid rfl
      obtain ⟨x, hx⟩ : ∃ x, rgAt xs k = x := ⟨_, rfl⟩
      have HX := Lib.hid hx
      rw [hx] at P0 a2
      have HPK2 := Lib.hid (show hour ≤ x.h → posI xs hour = k from fun hh => HPK.out (by rw [hx]; exact hh))
      have HSU2 := Lib.hid (show x.h < hour → ∀ j, j < k + 1 → (rgAt xs j).h < hour from fun hh => HSU.out (by rw [hx]; exact hh))
      clear hrow hx HK0 HPK HSU
      have ⟨p0, p1⟩ := P0
      have hN := RgO.new wr x 64
      have ⟨n0, n1⟩ := hN
      have hb1 : Below w.heap.size w (wr.alloc (.cells #[.int .i64 x.h, .int .i64 x.c] 64)) := bal hb _
      by_cases h1 : x.h = hour
      · have hp := HPK2.out (by omega)
        have hV : Hid (atV xs hour = x.c) := Lib.hid (by rw [HV.out, hp, if_pos hlt, HX.out, if_pos h1])
        have hW : Hid (atB xs hour = true) := Lib.hid (by rw [HW.out, hp, HX.out, decide_eq_true hlt, decide_eq_true h1]; rfl)
        have h1b : (x.h == hour) = true := by simpa using h1
        clear hp h1
        have HB1 := Lib.hid hb1
        go_wp2
        go_ret2
        exact ⟨by rw [hV.out, hW.out]; rfl, HB1.out⟩
      have h1b : (x.h == hour) = false := by simpa using h1
      by_cases h2 : hour < x.h
      rotate_left
      · have HS := Lib.hid (HSU2.out (by omega))
        have h2' : x.h ≤ hour := by omega
        go_wp2
        go_roundw
        case rel => exact ⟨k + 1, by omega, by go_num, HS, hb1⟩
        case measure => simp [intOf]; omega
      have hp := Lib.hid (HPK2.out (by omega))
      by_cases h3 : k = 0
      · have hV : Hid (atV xs hour = 0) := Lib.hid (by rw [HV.out, hp.out, if_pos hlt, HX.out, if_neg h1, if_pos h3])
        have hW : Hid (atB xs hour = false) := Lib.hid (by rw [HW.out, hp.out, HX.out, decide_eq_false h1, h3]; simp)
        subst h3
        simp only [Nat.zero_mul, Nat.add_zero] at p0 p1
        go_wp2
        go_ret2
        exact ⟨by rw [hV.out, hW.out]; rfl, hb1⟩
      obtain ⟨r, hr⟩ : ∃ r, k = r + 1 := ⟨k - 1, by omega⟩
      have Q0 := Hrow.out r _ (rgAt_some xs r (by omega))
      have a1 := okRs_one HOK.out r (by omega)
      have hV : Hid (atV xs hour = lineI (rgAt xs r).h (rgAt xs r).c x.h x.c hour) := Lib.hid (by rw [HV.out, hp.out, if_pos hlt, HX.out, if_neg h1, if_neg h3, hr, Nat.add_sub_cancel])
      have hW : Hid (atB xs hour = true) := Lib.hid (by rw [HW.out, hp.out, HX.out, decide_eq_true hlt, decide_eq_true h3]; simp)
      generalize rgAt xs r = y at *
      have ⟨q0, q1⟩ := Q0.next (bal (Below.refl _ _) (.cells #[.int .i64 x.h, .int .i64 x.c] 64))
      have hi2 : (0 : Int) ≤ (k : Int) - 1 := by omega
      have hi3 : ((k : Int) - 1).toNat = r := by omega
      have hi4 : (k : Int) - 1 < (xs.length : Int) := by omega
      have h3b : ((k : Int) == 0) = false := by simp; omega
      clear hr
      have hb2 := Lib.hid (bal hb1 (.cells #[.int .i64 y.h, .int .i64 y.c] 64))
      obtain ⟨v, hv⟩ : ∃ v, v = atV xs hour := ⟨_, rfl⟩
      have HVV := Lib.hid hv
      have hline := fun W => lineB_any y.h y.c x.h x.c hour W (by omega) (by omega) (by omega) (by omega)
      rw [← hV.out, ← hv] at hline
      clear hv
      have HLI := Lib.hid hline
      clear hline
      go_wp2_with (go_at_call 62; refine (HLI.out _).mono ?_; rintro e w' ⟨rfl, rfl⟩)
      go_ret2
      exact ⟨by rw [hW.out, ← HVV.out]; rfl, hb2.out⟩
    · have e : k = xs.length := by omega
      have hp := HPO.out k hk HJ.out (fun h => absurd h hlt)
      have hV : Hid (atV xs hour = 0) := Lib.hid (by rw [HV.out, hp, if_neg hlt])
      have hW : Hid (atB xs hour = false) := Lib.hid (by rw [HW.out, hp, decide_eq_false hlt]; rfl)
      subst e
      clear hp
      go_wp2
      go_ret2
      exact ⟨by rw [hV.out, hW.out]; rfl, hb⟩

end Go.Proofs.YthidaoemonjemabDoor
