/-
  The first step that passes a test; FirstWarm; numbers made of steps; RangeOf: both sides.
-/
import Derived.Test.YtkbkmpcdidhagacWa2
namespace Go.Proofs.Ytkbkmpcdidhagac
open Go.ChangeShapes Go.WideShapes Go.ChangeAt Go.RowKit Go.Shelf

set_option maxRecDepth 100000
set_option linter.unusedVariables false

/-- the place of the first one that passes, -1 if there is none -/
def fstI (p : Sp → Bool) (xs : List Sp) : Int := match xs.findIdx? p with | some i => (i : Int) | none => -1
theorem fstI_at {p : Sp → Bool} {xs : List Sp} {k : Nat} {y : Sp} (h : ∀ j x, j < k → xs[j]? = some x → p x = false) (hy : xs[k]? = some y) (hp : p y = true) : fstI p xs = (k : Int) := by
  have e : xs.findIdx? p = some k := by
    rw [List.findIdx?_eq_some_iff_getElem]
    obtain ⟨hk, e⟩ := List.getElem?_eq_some_iff.1 hy
    exact ⟨hk, by rw [e]; exact hp, fun j hj => by have := h j _ hj (List.getElem?_eq_getElem (by omega)); simp [this]⟩
  unfold fstI; rw [e]
theorem fstI_none {p : Sp → Bool} {xs : List Sp} (h : ∀ (j : Nat) (x : Sp), xs[j]? = some x → p x = false) : fstI p xs = -1 := by
  have e : xs.findIdx? p = none := by
    rw [List.findIdx?_eq_none_iff]
    intro x hx
    obtain ⟨j, hj, rfl⟩ := List.getElem_of_mem hx
    exact h j _ (List.getElem?_eq_getElem hj)
  unfold fstI; rw [e]
theorem findSp_any (g : Nat) (cb : Array Value) (A : Option Addr) (n c : Nat) (xs : List Sp) (p : Sp → Bool) (w : World) (eg : ∀ args w, (callFunc g args).run Try.prog w = .ok (.enter g args) w)
    (hf : ∀ (wr : World) (x : Sp), Below w.heap.size w wr → Calls Try.prog g (#[.agg #[.int .i64 x.t, .int .i64 x.d]] ++ cb) wr fun e w' => e = .returned (.bool (p x)) ∧ Below wr.heap.size wr w')
    (h : SpsOk w A n xs) :
    Calls Try.prog 89 #[.slice A n c, .func (.func g) #[] cb] w fun e w' => e = .returned (.int .i64 (fstI p xs)) ∧ Below w.heap.size w w' := by
  have hn := h.2
  obtain rfl := h.1.1
  have HB := Lib.hid h.cells
  have HF := Lib.hid hf
  clear h hf
  go_enter Try.func89, Try.ntmps89
  go_wp2
  go_loopw [8] (fun i wr => ∃ k : Nat, k ≤ xs.length ∧ i = .int .i64 k ∧ Hid (∀ j x, j < k → xs[j]? = some x → p x = false) ∧ Below w.heap.size w wr) (fun i _ => xs.length - (intOf i).toNat)
  case atStart => exact ⟨0, Nat.zero_le _, rfl, Lib.hid (fun j x hj => by omega), Below.refl _ _⟩
  case round =>
    obtain ⟨k, hk, rfl, Hall, hb⟩ := hrel
    by_cases hlt : k < xs.length
    · obtain ⟨b, off, rfl, hrow⟩ := SpO.at (HB.out.next hb) (by omega)
      have hp := spAt_some xs k hlt
      have ⟨p0, p1⟩ := hrow k _ hp
      have HP := Lib.hid hp
      generalize spAt xs k = x at *
      clear hp hrow
      have hC := HF.out wr x hb
      by_cases hpx : p x = true
      · have HV : Hid (fstI p xs = (k : Int)) := Lib.hid (fstI_at Hall.out HP.out hpx)
        rw [hpx] at hC
        go_wp2_with (go_at_fn g; refine hC.mono ?_; rintro e w1 ⟨rfl, hb1⟩)
        go_ret
        exact ⟨by rw [HV.out]; rfl, bnext hb hb1⟩
      · have hpx' : p x = false := by simpa only [Bool.not_eq_true] using hpx
        have HA : Hid (∀ j x, j < k + 1 → xs[j]? = some x → p x = false) := Lib.hid (fun j y hj hy => by
          by_cases e : j = k
          · subst e
            rw [HP.out] at hy
            cases hy
            exact hpx'
          · exact Hall.out j y (by omega) hy)
        rw [hpx'] at hC
        clear hpx
        go_wp2_with (go_at_fn g; refine hC.mono ?_; rintro e w1 ⟨rfl, hb1⟩)
        go_roundw
        case rel => exact ⟨k + 1, by omega, by go_num, HA, bnext hb hb1⟩
        case measure => simp [intOf]; omega
    · have HV : Hid (fstI p xs = -1) := Lib.hid (fstI_none fun j x hx => Hall.out j x (by have := (List.getElem?_eq_some_iff.1 hx).1; omega) hx)
      go_wp2
      go_ret
      exact ⟨by rw [HV.out]; rfl, hb⟩

/-- the place of the first step that is as warm -/
def fwI (xs : List Sp) (a : Int) : Int := fstI (fun x => decide (a ≤ x.d)) xs
theorem fwI_lt (xs : List Sp) (a : Int) (h : 0 ≤ fwI xs a) : (fwI xs a).toNat < xs.length ∧ ((fwI xs a).toNat : Int) = fwI xs a := by
  unfold fwI fstI at *
  cases e : xs.findIdx? (fun x => decide (a ≤ x.d)) with
  | none => rw [e] at h; simp at h
  | some i => 
    have := (List.findIdx?_eq_some_iff_getElem.1 e).1
    simp
    exact this
def firstWarmR0 (xs : List Sp) (a : Int) : Int := if okW xs = true then (if inB a (-5000) 20000 = true then (if 0 ≤ fwI xs a then (spAt xs (fwI xs a).toNat).t else 0) else 0) else 0
def firstWarmR1 (xs : List Sp) (a : Int) : Int := if okW xs = true then (if inB a (-5000) 20000 = true then (if 0 ≤ fwI xs a then 0 else 3) else 2) else 1
theorem specFirstWarm_ds (A : Option Addr) (n c : Nat) (xs : List Sp) (a : Int) (w : World) (h : SpsOk w A n xs) :
    Calls Try.prog 41 #[.slice A n c, .int .i64 a] w fun e w' => e = .returned (.tuple #[.int .i64 (firstWarmR0 xs a), .int .i64 (firstWarmR1 xs a)]) ∧ Below w.heap.size w w' := by
  have HO := Lib.hid (l09Ok_any A n c xs w h)
  have HH := Lib.hid h
  clear h
  by_cases ho : okW xs = true
  rotate_left
  · have ho' : okW xs = false := by simpa only [Bool.not_eq_true] using ho
    have HV : Hid (firstWarmR0 xs a = 0 ∧ firstWarmR1 xs a = 1) := Lib.hid ⟨by unfold firstWarmR0; rw [if_neg ho], by unfold firstWarmR1; rw [if_neg ho]⟩
    rw [ho'] at HO
    clear ho ho'
    go_enter Try.func41, Try.ntmps41
    go_wp2_with fail
    refine HO.out.mono ?_
    rintro e w1 ⟨rfl, ⟨k, rfl⟩⟩
    go_wp2
    go_ret2
    exact ⟨by rw [HV.out.1, HV.out.2]; rfl, below_drewN (Below.refl _ _) _⟩
  by_cases h1 : inB a (-5000) 20000 = true
  rotate_left
  · have h1' : inB a (-5000) 20000 = false := by simpa only [Bool.not_eq_true] using h1
    have HV : Hid (firstWarmR0 xs a = 0 ∧ firstWarmR1 xs a = 2) := Lib.hid ⟨by unfold firstWarmR0; rw [if_pos ho, if_neg h1], by unfold firstWarmR1; rw [if_pos ho, if_neg h1]⟩
    rw [ho] at HO
    clear ho h1
    go_enter Try.func41, Try.ntmps41
    go_wp2_with fail
    refine HO.out.mono ?_
    rintro e w1 ⟨rfl, ⟨k, rfl⟩⟩
    go_wp2_with fail
    refine (l03Degrees_any a _).mono ?_
    rintro e w2 ⟨rfl, rfl⟩
    rw [h1']
    go_wp2
    go_ret2
    exact ⟨by rw [HV.out.1, HV.out.2]; rfl, below_drewN (Below.refl _ _) _⟩
  rw [ho] at HO
  have HV0 : Hid (firstWarmR0 xs a = (if 0 ≤ fwI xs a then (spAt xs (fwI xs a).toNat).t else 0) ∧ firstWarmR1 xs a = (if 0 ≤ fwI xs a then 0 else 3)) := Lib.hid ⟨by unfold firstWarmR0; rw [if_pos ho, if_pos h1], by unfold firstWarmR1; rw [if_pos ho, if_pos h1]⟩
  clear ho
  have hn := HH.out.2
  obtain rfl := HH.out.1.1
  go_enter Try.func41, Try.ntmps41
  go_wp2_with fail
  refine HO.out.mono ?_
  rintro e w1 ⟨rfl, ⟨k0, rfl⟩⟩
  go_wp2_with fail
  refine (l03Degrees_any a _).mono ?_
  rintro e w2 ⟨rfl, rfl⟩
  rw [h1]
  clear h1
  go_wp2
  go_loopw [6] (fun i wr => ∃ k : Nat, k ≤ xs.length ∧ i = .int .i64 k ∧ Hid (∀ j x, j < k → xs[j]? = some x → decide (a ≤ x.d) = false) ∧ Drawn w wr) (fun i _ => xs.length - (intOf i).toNat)
  case atStart => exact ⟨0, Nat.zero_le _, rfl, Lib.hid (fun j x hj => by omega), ⟨_, rfl⟩⟩
  case round =>
    obtain ⟨k, hk, rfl, Hall, ⟨nr, rfl⟩⟩ := hrel
    by_cases hlt : k < xs.length
    · obtain ⟨b, off, rfl, hrow⟩ := SpO.at HH.out.cells (by omega)
      have hp := spAt_some xs k hlt
      have HSP : Hid (spAt xs k = spAt xs k) := Lib.hid rfl
      have ⟨p0, p1⟩ := hrow k _ hp
      have HP := Lib.hid hp
      obtain ⟨x, hx⟩ : ∃ x, spAt xs k = x := ⟨_, rfl⟩
      rw [hx] at p0 p1 HP
      have HX := Lib.hid hx
      clear hp hrow hx HSP
      by_cases hpx : a ≤ x.d
      · have HF : Hid (fwI xs a = (k : Int)) := Lib.hid (fstI_at Hall.out HP.out (decide_eq_true hpx))
        have HV : Hid (firstWarmR0 xs a = x.t ∧ firstWarmR1 xs a = 0) := Lib.hid ⟨by rw [HV0.out.1, HF.out, if_pos (by omega), Int.toNat_natCast, HX.out], by rw [HV0.out.2, HF.out, if_pos (by omega)]⟩
        go_wp2
        go_ret2
        exact ⟨by rw [HV.out.1, HV.out.2]; rfl, below_drewN (Below.refl _ _) _⟩
      · have HA : Hid (∀ j x, j < k + 1 → xs[j]? = some x → decide (a ≤ x.d) = false) := Lib.hid (fun j y hj hy => by
          by_cases e : j = k
          · subst e
            rw [HP.out] at hy
            cases hy
            exact decide_eq_false hpx
          · exact Hall.out j y (by omega) hy)
        have hpx' : x.d < a := by omega
        clear hpx
        go_wp2
        go_roundw
        case rel => exact ⟨k + 1, by omega, by go_num, HA, ⟨_, rfl⟩⟩
        case measure => simp [intOf]; omega
    · have HF : Hid (fwI xs a = -1) := Lib.hid (fstI_none fun j x hx => Hall.out j x (by have := (List.getElem?_eq_some_iff.1 hx).1; omega) hx)
      have HV : Hid (firstWarmR0 xs a = 0 ∧ firstWarmR1 xs a = 3) := Lib.hid ⟨by rw [HV0.out.1, HF.out, if_neg (by omega)], by rw [HV0.out.2, HF.out, if_neg (by omega)]⟩
      go_wp2
      go_ret2
      exact ⟨by rw [HV.out.1, HV.out.2]; rfl, below_drewN (Below.refl _ _) _⟩
theorem warm_any (bt : Nat) (a : Int) (x : Sp) (w : World) (h1 : One w bt (.int .i64 a)) :
    Calls Try.prog 90 #[.agg #[.int .i64 x.t, .int .i64 x.d], .pointer (some ⟨bt, 0, none⟩)] w fun e w' => e = .returned (.bool (decide (a ≤ x.d))) ∧ Below w.heap.size w w' := by
  have hb : Below w.heap.size w (w.alloc (.cells #[.int .i64 x.t, .int .i64 x.d] 61)) := bal (Below.refl _ _) _
  have ⟨p0, p1⟩ := SpO.new w x 61
  have ⟨c1, f1⟩ := h1.next hb
  clear h1
  go_enter Try.func90, Try.ntmps90
  go_wp2
  go_ret
  exact ⟨rfl, hb⟩
theorem implFirstWarm_ds (A : Option Addr) (n c : Nat) (xs : List Sp) (a : Int) (w : World) (h : SpsOk w A n xs) :
    Calls Try.prog 42 #[.slice A n c, .int .i64 a] w fun e w' => e = .returned (.tuple #[.int .i64 (firstWarmR0 xs a), .int .i64 (firstWarmR1 xs a)]) ∧ Below w.heap.size w w' := by
  have eg : ∀ args w, (callFunc 90 args).run Try.prog w = .ok (.enter 90 args) w := enters_of Try.func90 (by kernel_rfl) rfl
  obtain ⟨W0, hW0⟩ : ∃ W0, W0 = w.alloc (.cells #[.int .i64 a] 2) := ⟨_, rfl⟩
  have hb0 : Below w.heap.size w W0 := by rw [hW0]; exact bal (Below.refl _ _) _
  have hB2 : One W0 w.heap.size (.int .i64 a) := by rw [hW0]; exact One.new w (.int .i64 a) 2
  have HW0 := Lib.hid hW0
  have HB0 := Lib.hid hb0
  have HBX := Lib.hid hB2
  have HH := Lib.hid h
  have HEG := Lib.hid eg
  have hn := h.2
  have HLN := Lib.hid h.1.1
  have ⟨x2, f2⟩ := hB2
  clear hW0 hb0 hB2 h eg
  have HCV := Lib.hid (fun (wx : World) (hb : Below w.heap.size w wx) => waveCode_any A n c xs (inB a (-5000) 20000) wx (HH.out.go hb))
  go_enter Try.func42, Try.ntmps42
  go_wp2_with fail
  rw [← HW0.out]
  refine (isTemperature_any a W0).mono ?_
  rintro e w1 ⟨rfl, hb1⟩
  have HB1 := Lib.hid (bnext HB0.out hb1)
  have HX1 := Lib.hid (HBX.out.next hb1)
  clear x2 f2 hb1
  have ⟨x2, f2⟩ := HX1.out
  go_wp2_with fail
  refine (HCV.out _ HB1.out).mono ?_
  rintro e w2 ⟨rfl, hb2⟩
  have HB2 := Lib.hid (bnext HB1.out hb2)
  have HX2 := Lib.hid (HX1.out.next hb2)
  clear x2 f2 hb2
  have ⟨x2, f2⟩ := HX2.out
  by_cases ho : okW xs = true
  rotate_left
  · have ho' : okW xs = false := by simpa only [Bool.not_eq_true] using ho
    have HV : Hid (firstWarmR0 xs a = 0 ∧ firstWarmR1 xs a = 1) := Lib.hid ⟨by unfold firstWarmR0; rw [if_neg ho], by unfold firstWarmR1; rw [if_neg ho]⟩
    have hc : argC (okW xs) (inB a (-5000) 20000) = 1 := by rw [ho']; rfl
    rw [hc]
    clear ho ho' hc
    go_wp2
    go_ret2
    exact ⟨by rw [HV.out.1, HV.out.2]; rfl, HB2.out⟩
  by_cases h1 : inB a (-5000) 20000 = true
  rotate_left
  · have h1' : inB a (-5000) 20000 = false := by simpa only [Bool.not_eq_true] using h1
    have HV : Hid (firstWarmR0 xs a = 0 ∧ firstWarmR1 xs a = 2) := Lib.hid ⟨by unfold firstWarmR0; rw [if_pos ho, if_neg h1], by unfold firstWarmR1; rw [if_pos ho, if_neg h1]⟩
    have hc : argC (okW xs) (inB a (-5000) 20000) = 2 := by rw [ho, h1']; rfl
    rw [hc]
    clear ho h1 h1' hc
    go_wp2
    go_ret2
    exact ⟨by rw [HV.out.1, HV.out.2]; rfl, HB2.out⟩
  have hc : argC (okW xs) (inB a (-5000) 20000) = 0 := by rw [ho, h1]; rfl
  have HV0 : Hid (firstWarmR0 xs a = (if 0 ≤ fwI xs a then (spAt xs (fwI xs a).toNat).t else 0) ∧ firstWarmR1 xs a = (if 0 ≤ fwI xs a then 0 else 3)) := Lib.hid ⟨by unfold firstWarmR0; rw [if_pos ho, if_pos h1], by unfold firstWarmR1; rw [if_pos ho, if_pos h1]⟩
  rw [hc]
  clear hc ho h1
  have HS := Lib.hid (findSp_any 90 #[.pointer (some ⟨w.heap.size, 0, none⟩)] A n c xs (fun x => decide (a ≤ x.d)) w2 HEG.out
    (fun wr x hbr => warm_any w.heap.size a x wr (HX2.out.next hbr)) (HH.out.go HB2.out))
  go_wp2_with fail
  refine HS.out.mono ?_
  rintro e w3 ⟨rfl, hb3⟩
  have HB3 := Lib.hid (bnext HB2.out hb3)
  clear x2 f2 hb3
  have hfw := fwI_lt xs a
  unfold fwI at *
  generalize fstI (fun x => decide (a ≤ x.d)) xs = z at *
  by_cases hz : 0 ≤ z
  · obtain ⟨hl, he⟩ := hfw hz
    have HV : Hid (firstWarmR0 xs a = (spAt xs z.toNat).t ∧ firstWarmR1 xs a = 0) := Lib.hid ⟨by rw [HV0.out.1, if_pos hz], by rw [HV0.out.2, if_pos hz]⟩
    obtain ⟨b, o, rfl, hrow⟩ := SpO.at ((HH.out.go HB3.out).cells) (by omega)
    have ⟨p0, p1⟩ := hrow z.toNat _ (spAt_some xs z.toNat hl)
    generalize spAt xs z.toNat = x at *
    have hz2 : z < (n : Int) := by have := HLN.out; omega
    generalize z.toNat = k at *
    subst he
    have hk2 : k < n := by omega
    clear hrow hfw hl hz hz2
    go_wp2
    go_ret2
    exact ⟨by rw [HV.out.1, HV.out.2]; rfl, HB3.out⟩
  · have HV : Hid (firstWarmR0 xs a = 0 ∧ firstWarmR1 xs a = 3) := Lib.hid ⟨by rw [HV0.out.1, if_neg hz], by rw [HV0.out.2, if_neg hz]⟩
    have hz2 : z < 0 := by omega
    clear hfw hz
    go_wp2
    go_ret2
    exact ⟨by rw [HV.out.1, HV.out.2]; rfl, HB3.out⟩
end Go.Proofs.Ytkbkmpcdidhagac
