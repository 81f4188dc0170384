/-
  What a meter has shown at an hour: the program; EstimateAt, UsedBetween.
-/
import Derived.Test.YthidaoemonjemabDoorMa4
import Derived.Test.YthidaoemonjemabDoorTw
import Derived.Deep.DeepCutAuto
import Derived.Deep.RegionHeld3
namespace Go.Proofs.YthidaoemonjemabDoor
open Go.ChangeShapes Go.WideShapes Go.ChangeAt Go.RowKit

set_option maxRecDepth 100000
set_option maxHeartbeats 1600000
set_option linter.unusedVariables false

theorem posI_lt (xs : List Rg) (hour : Int) (j : Nat) (hj : j < posI xs hour) : (rgAt xs j).h < hour := by
  have hl := posI_le xs hour
  have h := List.not_of_lt_findIdx (p := fun x : Rg => decide (hour ≤ x.h)) (xs := xs) hj
  have e := rgAt_get (List.getElem?_eq_getElem (show j < xs.length by omega))
  rw [e]
  simpa using h
theorem posI_at (xs : List Rg) (hour : Int) (h : posI xs hour < xs.length) : hour ≤ (rgAt xs (posI xs hour)).h := by
  have h1 := List.findIdx_getElem (p := fun x : Rg => decide (hour ≤ x.h)) (xs := xs) (w := h)
  rw [rgAt_get (List.getElem?_eq_getElem h)]
  exact of_decide_eq_true h1
theorem posI_ge (xs : List Rg) (hour : Int) (hok : okRs xs = true) (j : Nat) (hj : posI xs hour ≤ j) (hl : j < xs.length) : hour ≤ (rgAt xs j).h := by
  induction j with
  | zero =>
    have e : posI xs hour = 0 := by omega
    have := posI_at xs hour (by omega)
    rw [e] at this
    exact this
  | succ j ih =>
    by_cases e : posI xs hour = j + 1
    · have := posI_at xs hour (by omega)
      rw [e] at this
      exact this
    · have h1 := ih (by omega) (by omega)
      have h2 := (okRs_two hok j hl).1
      omega
/-- whether there is a reading at an hour -/
def exI (xs : List Rg) (hour : Int) : Bool := decide (posI xs hour < xs.length) && decide ((rgAt xs (posI xs hour)).h = hour)

theorem place1_any (x : Rg) (hour : Int) (w : World) :
    Calls Tryd.prog 93 #[.agg #[.int .i64 x.h, .int .i64 x.c], .int .i64 hour] w fun e w' => e = .returned (.int .i64 (cmpI x.h hour)) ∧ Below w.heap.size w w' := by
  have hb : Below w.heap.size w (w.alloc (.cells #[.int .i64 x.h, .int .i64 x.c] 64)) := bal (Below.refl _ _) _
  have ⟨n0, n1⟩ := RgO.new w x 64
  have HC := Lib.hid (compare64_any x.h hour)
  generalize cmpI x.h hour = q at *
  go_enter Tryd.func93, Tryd.ntmps93
  go_wp2_with fail
  refine (HC.out _).mono ?_
  rintro e w' ⟨rfl, rfl⟩
  go_wp2
  go_ret
  exact ⟨rfl, hb⟩
theorem cmpI_neg8 (a b : Int) : cmpI a b < 0 ↔ a < b := by unfold cmpI; (repeat' split) <;> omega
theorem cmpI_zero8 (a b : Int) : cmpI a b = 0 ↔ a = b := by unfold cmpI; (repeat' split) <;> omega
theorem bsearch_any (A : Option Addr) (n c : Nat) (xs : List Rg) (hour : Int) (w : World) (h : RgsOk w A n xs) (hok : okRs xs = true) :
    Calls Tryd.prog 92 #[.slice A n c, .int .i64 hour, .func (.func 93) #[] #[]] w fun e w' => e = .returned (.tuple #[.int .i64 (posI xs hour), .bool (exI xs hour)]) ∧ Below w.heap.size w w' := by
  have hn : n ≤ 48 := by have := (okRs_parts hok).1; have := h.1.1; omega
  obtain rfl := h.1.1
  have HB := Lib.hid h.cells
  have HLT := Lib.hid (posI_lt xs hour)
  have HGE := Lib.hid (fun j => posI_ge xs hour hok j)
  have hpn := posI_le xs hour
  have HEX : Hid (exI xs hour = _) := Lib.hid (by unfold exI; rfl)
  have eg : ∀ args w, (callFunc 93 args).run Tryd.prog w = .ok (.enter 93 args) w := enters_of Tryd.func93 (by kernel_rfl) rfl
  have HP1 := Lib.hid (fun (x : Rg) W => place1_any x hour W)
  clear h hok
  obtain ⟨p, hp⟩ : ∃ p, p = posI xs hour := ⟨_, rfl⟩
  rw [← hp] at hpn HLT HGE HEX
  have HP := Lib.hid hp
  clear hp
  go_enter Tryd.func92, Tryd.ntmps92
  go_wp2
  go_loopw [9, 10] (fun s5 s6 wr => ∃ lo hi : Nat, s5 = .int .i64 lo ∧ s6 = .int .i64 hi ∧ lo ≤ p ∧ p ≤ hi ∧ hi ≤ xs.length ∧ Below w.heap.size w wr) (fun s5 s6 _ => (intOf s6).toNat - (intOf s5).toNat)
  case atStart => exact ⟨0, xs.length, rfl, rfl, Nat.zero_le _, hpn, Nat.le_refl _, Below.refl _ _⟩
  case round =>
    obtain ⟨lo, hi, rfl, rfl, hlp, hph, hin, hb⟩ := hrel
    by_cases hlt : lo < hi
    · obtain ⟨b, off, rfl, hrow⟩ := RgO.at (HB.out.next hb) (by omega)
      obtain ⟨m, hm⟩ : ∃ m, m = (lo + hi) / 2 := ⟨_, rfl⟩
      have hm1 : lo ≤ m := by omega
      have hm2 : m < hi := by omega
      have P0 := hrow m _ (rgAt_some xs m (by omega))
      have HM1 := Lib.hid (HLT.out m)
      have HM2 := Lib.hid (HGE.out m)
      generalize rgAt xs m = x at *
      have hi2 : ((lo : Int) + (hi : Int)) / 2 = (m : Int) := by omega
      have HMI := Lib.hid hi2
      have hi3 : (0 : Int) ≤ ((lo : Int) + (hi : Int)) / 2 := by omega
      have hi4 : ((lo : Int) + (hi : Int)) / 2 < (xs.length : Int) := by omega
      have hi5 : (((lo : Int) + (hi : Int)) / 2).toNat = m := by omega
      have ⟨p0, p1⟩ := P0
      have HC := Lib.hid (fun W => HP1.out x W)
      have hng := cmpI_neg8 x.h hour
      have HNG := Lib.hid hng
      generalize cmpI x.h hour = q at *
      clear hrow hm hng hi2 P0
      by_cases hq : q < 0
      · have hxm : p > m := by
          have h1 := HNG.out.1 hq
          by_cases h2 : m < p
          · exact h2
          · have := HM2.out (by omega) (by omega); omega
        go_wp2_with (go_at_fn 93; refine (HC.out _).mono ?_; rintro e w' ⟨rfl, hb2⟩)
        go_roundw
        case rel => exact ⟨m + 1, hi, by rw [HMI.out]; go_num, rfl, by omega, hph, hin, bnext hb hb2⟩
        case measure => (simp [intOf]; (try rw [HMI.out]); omega)
      · have hxm : p ≤ m := by
          by_cases h2 : m < p
          · exact absurd (HNG.out.2 (HM1.out h2)) hq
          · omega
        go_wp2_with (go_at_fn 93; refine (HC.out _).mono ?_; rintro e w' ⟨rfl, hb2⟩)
        go_roundw
        case rel => exact ⟨lo, m, rfl, by rw [HMI.out], hlp, hxm, by omega, bnext hb hb2⟩
        case measure => (simp [intOf]; (try rw [HMI.out]); omega)
    · have e : lo = p := by omega
      subst e
      by_cases hpl : lo < xs.length
      · obtain ⟨b, off, rfl, hrow⟩ := RgO.at (HB.out.next hb) (by omega)
        have P0 := hrow lo _ (rgAt_some xs lo hpl)
        rw [decide_eq_true hpl, Bool.true_and] at HEX
        generalize rgAt xs lo = x at *
        have ⟨p0, p1⟩ := P0
        have HC := Lib.hid (fun W => HP1.out x W)
        have hng := cmpI_zero8 x.h hour
        have HNG := Lib.hid hng
        generalize cmpI x.h hour = q at *
        clear hrow hng P0
        by_cases hq : q = 0
        · have hv : exI xs hour = true := by rw [HEX.out, decide_eq_true (HNG.out.1 hq)]
          have HV := Lib.hid hv
          have hqb : (q == 0) = true := by simpa using hq
          clear hv hq
          go_wp2_with (go_at_fn 93; refine (HC.out _).mono ?_; rintro e w' ⟨rfl, hb2⟩)
          go_ret2
          exact ⟨by rw [← HP.out, HV.out]; rfl, bnext hb hb2⟩
        · have hv : exI xs hour = false := by rw [HEX.out, decide_eq_false (fun k => hq (HNG.out.2 k))]
          have HV := Lib.hid hv
          have hqb : (q == 0) = false := by simpa using hq
          clear hv hq
          go_wp2_with (go_at_fn 93; refine (HC.out _).mono ?_; rintro e w' ⟨rfl, hb2⟩)
          go_ret2
          exact ⟨by rw [← HP.out, HV.out]; rfl, bnext hb hb2⟩
      · have hv : exI xs hour = false := by rw [HEX.out, decide_eq_false hpl]; rfl
        have HV := Lib.hid hv
        clear hv
        go_wp2
        go_ret2
        exact ⟨by rw [← HP.out, HV.out]; rfl, hb⟩
theorem place_any (A : Option Addr) (n c : Nat) (xs : List Rg) (hour : Int) (w : World) (h : RgsOk w A n xs) (hok : okRs xs = true) :
    Calls Tryd.prog 72 #[.slice A n c, .int .i64 hour] w fun e w' => e = .returned (.tuple #[.int .i64 (posI xs hour), .bool (exI xs hour)]) ∧ Below w.heap.size w w' := by
  have HC := Lib.hid (bsearch_any A n c xs hour w h hok)
  clear h hok
  generalize exI xs hour = q at *
  generalize posI xs hour = p at *
  go_enter Tryd.func72, Tryd.ntmps72
  go_wp2_with (go_at_call 92; refine HC.out.mono ?_; rintro e w' ⟨rfl, hb⟩)
  go_ret2
  exact ⟨rfl, hb⟩

/-- the variable holds an error, and goes on to hold it -/
def OutIs (w : World) (a : Addr) : Prop := w.cell? ⟨0, 0, none⟩ = some (.iface 177 (.pointer (some a)))
theorem OutIs.next {w w' : World} {a : Addr} (h : OutIs w a) (hb : Below w.heap.size w w') : OutIs w' a := (hb.cell (p := ⟨0, 0, none⟩) (World.block_lt_of_cell? _ _ h)).trans h
/-- the counter at an hour and its error -/
def RetE (xs : List Rg) (hour : Int) (a : Addr) (w : World) (e : Ending) (w' : World) : Prop :=
  e = .returned (.tuple #[.int .i64 (atV xs hour), if atB xs hour = true then .nilIface else .iface 177 (.pointer (some a))]) ∧ Below w.heap.size w w'
theorem estimates1_any (A : Option Addr) (n c : Nat) (xs : List Rg) (hour : Int) (vb : Nat) (a : Addr) (w : World) (h : RgsOk w A n xs) (hok : okRs xs = true) (hv : One w vb (.slice A n c)) (ha : OutIs w a) :
    Calls Tryd.prog 71 #[.int .i64 hour, .pointer (some ⟨vb, 0, none⟩)] w (RetE xs hour a w) := by
  have hn : n ≤ 48 := by have := (okRs_parts hok).1; have := h.1.1; omega
  have HPL := Lib.hid (place_any A n c xs hour w h hok)
  obtain rfl := h.1.1
  have HB := Lib.hid h.cells
  have HOK := Lib.hid hok
  have HV : Hid (atV xs hour = _) := Lib.hid (by unfold atV; rfl)
  have HW : Hid (atB xs hour = _) := Lib.hid (by unfold atB; rfl)
  have HEX : Hid (exI xs hour = _) := Lib.hid (by unfold exI; rfl)
  have hpn := posI_le xs hour
  have HVB := Lib.hid hv
  have HA := Lib.hid ha
  clear h hok ha
  obtain ⟨p, hp⟩ : ∃ p, p = posI xs hour := ⟨_, rfl⟩
  rw [← hp] at HPL HV HW HEX hpn
  clear hp
  have ⟨v0, v1⟩ := hv
  have HRE : Hid (∀ e w', e = .returned (.tuple #[.int .i64 (atV xs hour), if atB xs hour = true then .nilIface else .iface 177 (.pointer (some a))]) → Below w.heap.size w w' → RetE xs hour a w e w') := Lib.hid (fun e w' h1 h2 => ⟨h1, h2⟩)
  by_cases hex : exI xs hour = true
  · have hlt : p < xs.length := by
      have := HEX.out
      rw [hex] at this
      by_cases h : p < xs.length
      · exact h
      · rw [decide_eq_false h] at this; simp at this
    have hh : (rgAt xs p).h = hour := by
      have := HEX.out
      rw [hex, decide_eq_true hlt] at this
      simpa using this.symm
    have hV : Hid (atV xs hour = (rgAt xs p).c) := Lib.hid (by rw [HV.out, if_pos hlt, if_pos hh])
    have hW : Hid (atB xs hour = true) := Lib.hid (by rw [HW.out, decide_eq_true hlt, decide_eq_true hh]; rfl)
    obtain ⟨b, off, rfl, hrow⟩ := RgO.at HB.out (by omega)
    have HP0 := Lib.hid (hrow p _ (rgAt_some xs p hlt))
    generalize rgAt xs p = x at *
    clear hrow hh
    rw [hex] at HPL
    go_enter Tryd.func71, Tryd.ntmps71
    go_wp2_with (go_at_call 72; refine HPL.out.mono ?_; rintro e w' ⟨rfl, hb⟩; have hv' := HVB.out.next hb; have ⟨v0, v1⟩ := hv'; have hP' := HP0.out.next hb; have ⟨p0, p1⟩ := hP'; have HBB := Lib.hid hb; clear hb)
    go_ret2
    exact HRE.out _ _ (by rw [hV.out, hW.out, if_pos rfl]; rfl) HBB.out
  have hexf : exI xs hour = false := by simpa only [Bool.not_eq_true] using hex
  clear hex
  by_cases hout : p = 0 ∨ p = xs.length
  · have hne : ¬ (p < xs.length ∧ (rgAt xs p).h = hour) := by
      rintro ⟨h1, h2⟩
      have := HEX.out
      rw [hexf, decide_eq_true h1, decide_eq_true h2] at this
      cases this
    have hV : Hid (atV xs hour = 0) := Lib.hid (by
      rw [HV.out]
      by_cases h1 : p < xs.length
      · rw [if_pos h1, if_neg (fun k => hne ⟨h1, k⟩), if_pos (by omega)]
      · rw [if_neg h1])
    have hW : Hid (atB xs hour = false) := Lib.hid (by
      rw [HW.out]
      by_cases h1 : p < xs.length
      · rw [decide_eq_true h1, decide_eq_false (fun k => hne ⟨h1, k⟩), decide_eq_false (show ¬ (p ≠ 0) by omega)]; rfl
      · rw [decide_eq_false h1]; rfl)
    have HF := Lib.hid (show ∀ w', Below w.heap.size w w' → RetE xs hour a w (.returned (.tuple #[.int .i64 0, .iface 177 (.pointer (some a))])) w' from fun w' hb => HRE.out _ _ (by rw [hV.out, hW.out]; rfl) hb)
    rw [hexf] at HPL
    clear hexf hne
    rcases hout with h0 | h0
    · subst h0
      go_enter Tryd.func71, Tryd.ntmps71
      go_wp2_with (go_at_call 72; refine HPL.out.mono ?_; rintro e w' ⟨rfl, hb⟩; have hv' := HVB.out.next hb; have ⟨v0, v1⟩ := hv'; have a0 : w'.cell? ⟨0, 0, none⟩ = some (.iface 177 (.pointer (some a))) := HA.out.next hb; have HBB := Lib.hid hb; clear hb)
      go_quiet (fail)
      go_wp2
      go_ret2
      exact HF.out _ (below_drewN HBB.out _)
    · subst h0
      have hz : Hid (0 = 0) := Lib.hid rfl
      by_cases hl : (xs.length : Int) = 0
      · have hlb : ((xs.length : Int) == 0) = true := by simpa using hl
        go_enter Tryd.func71, Tryd.ntmps71
        go_wp2_with (go_at_call 72; refine HPL.out.mono ?_; rintro e w' ⟨rfl, hb⟩; have hv' := HVB.out.next hb; have ⟨v0, v1⟩ := hv'; have a0 : w'.cell? ⟨0, 0, none⟩ = some (.iface 177 (.pointer (some a))) := HA.out.next hb; have HBB := Lib.hid hb; clear hb)
        go_quiet (fail)
        go_wp2
        go_ret2
        exact HF.out _ (below_drewN HBB.out _)
      · have hlb : ((xs.length : Int) == 0) = false := by simpa using hl
        go_enter Tryd.func71, Tryd.ntmps71
        go_wp2_with (go_at_call 72; refine HPL.out.mono ?_; rintro e w' ⟨rfl, hb⟩; have hv' := HVB.out.next hb; have ⟨v0, v1⟩ := hv'; have a0 : w'.cell? ⟨0, 0, none⟩ = some (.iface 177 (.pointer (some a))) := HA.out.next hb; have HBB := Lib.hid hb; clear hb)
        go_quiet (fail)
        go_wp2
        go_ret2
        exact HF.out _ (below_drewN HBB.out _)
  have hp0 : p ≠ 0 := fun k => hout (.inl k)
  have hpl : p < xs.length := by
    have : p ≠ xs.length := fun k => hout (.inr k)
    omega
  have hne : ¬ (rgAt xs p).h = hour := by
    intro h2
    have := HEX.out
    rw [hexf, decide_eq_true hpl, decide_eq_true h2] at this
    cases this
  obtain ⟨r, hr⟩ : ∃ r, p = r + 1 := ⟨p - 1, by omega⟩
  have hpr : p - 1 = r := by omega
  have hV : Hid (atV xs hour = lineI (rgAt xs r).h (rgAt xs r).c (rgAt xs p).h (rgAt xs p).c hour) := Lib.hid (by rw [HV.out, if_pos hpl, if_neg hne, if_neg hp0, hpr])
  have hW : Hid (atB xs hour = true) := Lib.hid (by rw [HW.out, decide_eq_true hpl, decide_eq_true hp0]; simp)
  obtain ⟨b, off, rfl, hrow⟩ := RgO.at HB.out (by omega)
  have HP0 := Lib.hid (hrow p _ (rgAt_some xs p hpl))
  have HQ0 := Lib.hid (hrow r _ (rgAt_some xs r (by omega)))
  have a1 := okRs_one HOK.out r (by omega)
  have a2 := okRs_one HOK.out p hpl
  have HF := Lib.hid (show ∀ w', Below w.heap.size w w' → RetE xs hour a w (.returned (.tuple #[.int .i64 (lineI (rgAt xs r).h (rgAt xs r).c (rgAt xs p).h (rgAt xs p).c hour), .nilIface])) w' from fun w' hb => HRE.out _ _ (by rw [hV.out, hW.out]; rfl) hb)
  generalize rgAt xs p = x at *
  generalize rgAt xs r = y at *
  obtain ⟨v, hv⟩ : ∃ v, v = lineI y.h y.c x.h x.c hour := ⟨_, rfl⟩
  rw [← hv] at HF
  have HBL := Lib.hid (fun W => by have h := blendB_any y.h y.c x.h x.c hour W (by omega) (by omega) (by omega) (by omega); rw [← hv] at h; exact h)
  have hp0b : ((p : Int) == 0) = false := by simp; omega
  have hplb : ((p : Int) == (xs.length : Int)) = false := by simp; omega
  have hi2 : (0 : Int) ≤ (p : Int) - 1 := by omega
  have hi3 : ((p : Int) - 1).toNat = r := by omega
  have hi4 : (p : Int) - 1 < (xs.length : Int) := by omega
  have hi6 : (1 : Int) ≤ (p : Int) := by omega
  have hi7 : (p : Int) - 1 + 1 ≤ (xs.length : Int) := by omega
  have hi8 : 1 ≤ p := by omega
  have hi5 : IntKind.i64.wrap ((p : Int) - 1) = (p : Int) - 1 := IntWalk.i64_in _ (by omega)
  rw [hexf] at HPL
  clear hrow hexf hout hne hr hpr hv hV hW HV HW HEX HRE
  go_enter Tryd.func71, Tryd.ntmps71
  go_upto_region 6 with (go_at_call 72; refine HPL.out.mono ?_; rintro e w1 ⟨rfl, hb⟩; have hv' := HVB.out.next hb; have ⟨v0, v1⟩ := hv'; have ⟨p0, p1⟩ := HP0.out.next hb; have ⟨q0, q1⟩ := HQ0.out.next hb; have HBB := Lib.hid hb; clear hb; have n0 := World.new_ne w1 _ p0; have n1 := World.new_ne w1 _ q0; have n2 := World.new_ne w1 _ v0)
  go_cut [7, 8] (fun s6 s7 wx => ∃ b6 b7 : Nat, s6 = .pointer (some ⟨b6, 0, none⟩) ∧ s7 = .pointer (some ⟨b7, 0, none⟩) ∧ Hid (RgO wx b6 0 y) ∧ Hid (RgO wx b7 0 x) ∧ Below w1.heap.size w1 wx)
  case first =>
    go_wp2_with fail
    go_region_held3 (fun w' => w'.cell? ⟨b, off + p * 2, none⟩ = some (.int .i64 x.h) ∧ w'.cell? ⟨b, off + p * 2 + 1, none⟩ = some (.int .i64 x.c) ∧ w'.cell? ⟨b, off + r * 2, none⟩ = some (.int .i64 y.h) ∧ w'.cell? ⟨b, off + r * 2 + 1, none⟩ = some (.int .i64 y.c) ∧ w'.cell? ⟨vb, 0, none⟩ = some (.slice (some ⟨b, off, none⟩) xs.length c)) (go_keep) ((fail))
    all_goals (
      have X1 := rg_pair w1 y x 64
      have X2 := rg_pair w1 x y 64
      go_wp2
      go_meet
      first | exact ⟨_, _, rfl, rfl, Lib.hid X1.1, Lib.hid X1.2.1, X1.2.2⟩ | exact ⟨_, _, rfl, rfl, Lib.hid X2.2.1, Lib.hid X2.1, X2.2.2⟩)
  case rest =>
    obtain ⟨b6, b7, rfl, rfl, H6, H7, hbx⟩ := hcut
    have HB2 := Lib.hid (bnext HBB.out hbx)
    have ⟨q0, q1⟩ := H6.out
    have ⟨p0, p1⟩ := H7.out
    clear hbx
    go_wp2_with (go_at_call 73; refine (HBL.out _).mono ?_; rintro e w' ⟨rfl, ⟨k2, rfl⟩⟩)
    go_ret2
    exact HF.out _ (below_drewN HB2.out _)

end Go.Proofs.YthidaoemonjemabDoor
