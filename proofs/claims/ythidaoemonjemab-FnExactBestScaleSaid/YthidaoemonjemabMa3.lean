/-
  How wrong a forecast is, with a scale, and the best scale: both sides.
-/
import Derived.Test.YthidaoemonjemabMa2
import Derived.Test.YthidaoemonjemabP1
namespace Go.Proofs.Ythidaoemonjemab
open Go.ChangeShapes Go.WideShapes Go.ChangeAt Go.RowKit

set_option maxRecDepth 100000
set_option maxHeartbeats 1600000
set_option linter.unusedVariables false

theorem in_at (lo hi : Int) (l : List Int) (h : allIn lo hi l = true) (k : Nat) (hk : k < l.length) : lo ≤ l.getD k 0 ∧ l.getD k 0 ≤ hi := by
  unfold allIn at h
  have := List.all_eq_true.1 h l[k] (List.getElem_mem hk)
  have e : l.getD k 0 = l[k] := by simp [List.getD, hk]
  rw [e]
  simpa using this
/-- the code for readings and a forecast -/
def askC (xs : List Rg) (zs : List Int) : Int := if okRs xs = true then (if zs.length = xs.length - 1 ∧ allIn 0 1000000000 zs = true then 0 else 7) else 1
def errAt (xs : List Rg) (zs : List Int) (s : Int) (i : Nat) : Int := absI (pwI xs i - nearI (zs.getD i 0 * s) 1000)
def errTo (xs : List Rg) (zs : List Int) (s : Int) : Nat → Int
  | 0 => 0
  | k + 1 => errTo xs zs s k + errAt xs zs s k
def errI (xs : List Rg) (zs : List Int) (s : Int) : Int := errTo xs zs s (xs.length - 1)
/-- the best scale up to k, and its error -/
def bsTo (xs : List Rg) (zs : List Int) : Nat → Int × Int
  | 0 => (0, errI xs zs 0)
  | k + 1 => if errI xs zs ((k : Int) + 1) < (bsTo xs zs k).2 then (((k : Int) + 1), errI xs zs ((k : Int) + 1)) else bsTo xs zs k
theorem askC_ok {xs : List Rg} {zs : List Int} (h : askC xs zs = 0) : okRs xs = true ∧ zs.length = xs.length - 1 ∧ allIn 0 1000000000 zs = true := by
  unfold askC at h
  split at h
  · next h1 =>
    split at h
    · next h2 => exact ⟨h1, h2.1, h2.2⟩
    · cases h
  · cases h
theorem errAt_bd {xs : List Rg} {zs : List Int} (h : askC xs zs = 0) (s : Int) (s0 : 0 ≤ s) (s1 : s ≤ 3000) (i : Nat) (hi : i + 1 < xs.length) :
    (0 ≤ zs.getD i 0 * s ∧ zs.getD i 0 * s ≤ 3000000000000) ∧ (-3000000000001 ≤ nearI (zs.getD i 0 * s) 1000 ∧ nearI (zs.getD i 0 * s) 1000 ≤ 3000000000001) ∧ 0 ≤ errAt xs zs s i ∧ errAt xs zs s i ≤ 4000000000000 := by
  obtain ⟨h1, h2, h3⟩ := askC_ok h
  have hz := in_at 0 1000000000 zs h3 i (by omega)
  have hm := mul_bd (zs.getD i 0) s 1000000000 3000 (by omega) (by omega) s0 s1
  have hm0 : 0 ≤ zs.getD i 0 * s := Int.mul_nonneg hz.1 s0
  have hn := nearI_bd (zs.getD i 0 * s) 1000 3000000000000 (by omega) (by omega) (by omega)
  have hp := pwI_bd h1 i hi
  have ha : absI (pwI xs i - nearI (zs.getD i 0 * s) 1000) = max (pwI xs i - nearI (zs.getD i 0 * s) 1000) (-(pwI xs i - nearI (zs.getD i 0 * s) 1000)) := (absI_max _).symm
  unfold errAt
  rw [ha]
  generalize nearI (zs.getD i 0 * s) 1000 = m at *
  generalize pwI xs i = p at *
  refine ⟨⟨hm0, by omega⟩, by omega, by omega, by omega⟩
theorem errTo_bd {xs : List Rg} {zs : List Int} (h : askC xs zs = 0) (s : Int) (s0 : 0 ≤ s) (s1 : s ≤ 3000) (k : Nat) (hk : k ≤ xs.length - 1) : 0 ≤ errTo xs zs s k ∧ errTo xs zs s k ≤ 4000000000000 * k := by
  induction k with
  | zero => simp [errTo]
  | succ k ih =>
    have := ih (by omega)
    have := (errAt_bd h s s0 s1 k (by omega)).2.2
    unfold errTo
    omega
theorem errI_bd {xs : List Rg} {zs : List Int} (h : askC xs zs = 0) (s : Int) (s0 : 0 ≤ s) (s1 : s ≤ 3000) : 0 ≤ errI xs zs s ∧ errI xs zs s ≤ 400000000000000 := by
  have := errTo_bd h s s0 s1 (xs.length - 1) (Nat.le_refl _)
  have := (okRs_parts (askC_ok h).1).1
  unfold errI
  omega
def forecastErrorR0 (xs : List Rg) (zs : List Int) : Int := if askC xs zs = 0 then errI xs zs 1000 else 0
def forecastErrorR1 (xs : List Rg) (zs : List Int) : Int := askC xs zs
def bestScaleR0 (xs : List Rg) (zs : List Int) : Int := if askC xs zs = 0 then (bsTo xs zs 3000).1 else 0
def bestScaleR1 (xs : List Rg) (zs : List Int) : Int := askC xs zs
theorem zsCell {zs : List Int} {w : World} {B : Option Addr} (h : CellsAt w B (intsV zs)) (h0 : 0 < zs.length) : ∃ b o, B = some ⟨b, o, none⟩ ∧ ∀ k, k < zs.length → w.cell? ⟨b, o + k, none⟩ = some (.int .i64 (zs.getD k 0)) := by
  obtain ⟨b, o, rfl, hc⟩ := h (by rw [intsV_length]; omega)
  refine ⟨b, o, rfl, fun k hk => ?_⟩
  rw [hc k (by rw [intsV_length]; exact hk), intsV_at _ _ hk]
  simp [List.getD, hk]

theorem l06Ask_any (A : Option Addr) (n c : Nat) (xs : List Rg) (B : Option Addr) (d : Nat) (zs : List Int) (w : World) (h : RgsOk w A n xs) (hB : CellsAt w B (intsV zs)) (hz : zs.length ≤ 1048576) :
    Calls Try.prog 69 #[.slice A n c, .slice B zs.length d] w fun e w' => e = .returned (.int .i64 (askC xs zs)) ∧ Below w.heap.size w w' := by
  have HO := Lib.hid (l06Ok_any A n c xs w h)
  by_cases ho : okRs xs = true
  rotate_left
  · have ho : okRs xs = false := by simpa only [Bool.not_eq_true] using ho
    have hC : askC xs zs = 1 := by unfold askC; rw [if_neg (by rw [ho]; simp)]
    rw [hC]
    clear hC
    go_enter Try.func69, Try.ntmps69
    go_wp2_with fail
    refine HO.out.mono ?_
    rintro e w1 ⟨rfl, ⟨k, rfl⟩⟩
    rw [ho]
    go_wp2
    go_ret
    exact ⟨rfl, below_drewN (Below.refl _ _) _⟩
  have HP := Lib.hid (fun (k : Nat) => l06Powers_any A n c xs (w.drewN k) (h.go (below_drewN (Below.refl _ _) k)) ho)
  have hl : (powI xs).length = xs.length - 1 := powI_length xs
  clear h
  by_cases hq : zs.length = xs.length - 1
  rotate_left
  · have hC : askC xs zs = 7 := by unfold askC; rw [if_pos ho, if_neg (fun k => hq k.1)]
    rw [hC]
    clear hC
    have hq' : (zs.length == xs.length - 1) = false := by simpa using hq
    have hq2 : ((zs.length : Int) == ((xs.length - 1 : Nat) : Int)) = false := by simp; omega
    have hq3 : ((zs.length : Int) != ((xs.length - 1 : Nat) : Int)) = true := by simp; omega
    go_enter Try.func69, Try.ntmps69
    go_wp2_with fail
    refine HO.out.mono ?_
    rintro e w1 ⟨rfl, ⟨k, rfl⟩⟩
    rw [ho]
    clear ho
    go_wp2_with fail
    refine (HP.out _).mono ?_
    rintro e w2 ⟨P, pc, rfl, hown, hb2⟩
    rw [intsV_length, hl]
    have hb := bnext (below_drewN (Below.refl w.heap.size w) k) hb2
    go_wp2
    go_ret
    exact ⟨rfl, hb⟩
  have hBx := hB
  have HB := Lib.hid hB
  have hx48 := (okRs_parts ho).1
  have HAN := Lib.hid (show ∀ k, allIn 0 1000000000 (zs.take k) = false → allIn 0 1000000000 zs = false from fun k hk => by
    unfold allIn at hk ⊢
    rw [List.all_eq_false] at hk ⊢
    obtain ⟨x, h1, h2⟩ := hk
    exact ⟨x, List.mem_of_mem_take h1, h2⟩)
  have HC := Lib.hid (show ∀ v, allIn 0 1000000000 zs = v → askC xs zs = if v = true then 0 else 7 from fun v hv => by
    unfold askC
    rw [if_pos ho, hv]
    by_cases hvv : v = true
    · rw [if_pos ⟨hq, hvv⟩, if_pos hvv]
    · rw [if_neg (fun k => hvv k.2), if_neg hvv])
  have hq3 : ((zs.length : Int) != ((xs.length - 1 : Nat) : Int)) = false := by simp; omega
  have HQ := Lib.hid hq
  clear hB hBx hq
  go_enter Try.func69, Try.ntmps69
  go_wp2_with fail
  refine HO.out.mono ?_
  rintro e w1 ⟨rfl, ⟨kd, rfl⟩⟩
  rw [ho]
  clear ho
  go_wp2_with fail
  refine (HP.out _).mono ?_
  rintro e w2 ⟨P, pc, rfl, hown, hb2⟩
  rw [intsV_length, hl]
  have hb := bnext (below_drewN (Below.refl w.heap.size w) kd) hb2
  have HB2 := Lib.hid (HB.out.next hb)
  clear hown hb2 hl
  go_wp2
  go_loop [5] (fun i => ∃ k : Nat, k ≤ zs.length ∧ i = .int .i64 k ∧ Hid (allIn 0 1000000000 (zs.take k) = true)) (fun i => zs.length - (intOf i).toNat)
  case atStart => exact ⟨0, Nat.zero_le _, rfl, Lib.hid (by simp [allIn])⟩
  case round =>
    obtain ⟨k, hk, rfl, HA⟩ := hrel
    by_cases hlt : k < zs.length
    · obtain ⟨b, o, rfl, hc⟩ := zsCell HB2.out (by omega)
      have p0 := hc k hlt
      have HT := Lib.hid (allIn_take_succ 0 1000000000 zs k hlt)
      generalize zs.getD k 0 = z at *
      clear hc
      by_cases hin : inB z 0 1000000000 = true
      · have HT2 := Lib.hid (show allIn 0 1000000000 (zs.take (k + 1)) = true by rw [HT.out, HA.out]; exact hin)
        go_wp2_with (go_at_call 85; refine (l06Counter_any _ _).mono ?_; rintro e w' ⟨rfl, rfl⟩; rw [hin])
        go_round
        case rel => exact ⟨k + 1, by omega, by go_num, HT2⟩
        case measure => simp [intOf]; omega
      · have hin : inB z 0 1000000000 = false := by simpa only [Bool.not_eq_true] using hin
        have HV := Lib.hid (HC.out false (HAN.out (k + 1) (by rw [HT.out, HA.out]; exact hin)))
        go_wp2_with (go_at_call 85; refine (l06Counter_any _ _).mono ?_; rintro e w' ⟨rfl, rfl⟩; rw [hin])
        go_ret
        exact ⟨by rw [HV.out]; rfl, hb⟩
    · have HV := Lib.hid (HC.out true (by have := HA.out; rw [List.take_of_length_le (by omega)] at this; exact this))
      have hlt' : zs.length ≤ k := by omega
      go_wp2
      go_ret
      exact ⟨by rw [HV.out]; rfl, hb⟩
theorem l06Error_any (P B : Option Addr) (pc d : Nat) (xs : List Rg) (zs : List Int) (s : Int) (w : World) (hP : CellsAt w P (intsV (powI xs))) (hB : CellsAt w B (intsV zs)) (hask : askC xs zs = 0) (s0 : 0 ≤ s) (s1 : s ≤ 3000) :
    Calls Try.prog 70 #[.slice P (xs.length - 1) pc, .slice B zs.length d, .int .i64 s] w fun e w' => e = .returned (.int .i64 (errI xs zs s)) ∧ Drawn w w' := by
  have hx48 := (okRs_parts (askC_ok hask).1).1
  have hzl := (askC_ok hask).2.1
  have HP := Lib.hid hP
  have HB := Lib.hid hB
  have HBD := Lib.hid (fun (k : Nat) (hk : k + 1 < xs.length) => errAt_bd hask s s0 s1 k hk)
  have HTB := Lib.hid (fun (k : Nat) (hk : k ≤ xs.length - 1) => errTo_bd hask s s0 s1 k hk)
  have HPB := Lib.hid (fun (k : Nat) (hk : k + 1 < xs.length) => pwI_bd (askC_ok hask).1 k hk)
  have HE : Hid (errI xs zs s = errTo xs zs s (xs.length - 1)) := Lib.hid rfl
  have HSU : Hid (∀ k, errTo xs zs s (k + 1) = errTo xs zs s k + errAt xs zs s k) := Lib.hid (fun k => rfl)
  have HAT : Hid (∀ k, errAt xs zs s k = absI (pwI xs k - nearI (zs.getD k 0 * s) 1000)) := Lib.hid (fun k => rfl)
  have HZL := Lib.hid hzl
  clear hP hB hask hzl
  go_enter Try.func70, Try.ntmps70
  go_wp2
  go_loopw [7, 8] (fun v i wr => ∃ (k : Nat) (r : Int), k ≤ xs.length - 1 ∧ i = .int .i64 k ∧ v = .int .i64 r ∧ Hid (r = errTo xs zs s k) ∧ Drawn w wr) (fun _ i _ => xs.length - (intOf i).toNat)
  case atStart => exact ⟨0, 0, Nat.zero_le _, rfl, rfl, Lib.hid rfl, Drawn.rfl' _⟩
  case round =>
    obtain ⟨k, r, hk, rfl, rfl, HR, ⟨nr, rfl⟩⟩ := hrel
    by_cases hlt : k < xs.length - 1
    · obtain ⟨pb, po, rfl, hpw⟩ := powCell HP.out (by omega)
      obtain ⟨b, o, rfl, hc⟩ := zsCell HB.out (by rw [HZL.out]; omega)
      have p0 := hpw k (by omega)
      have p1 := hc k (by rw [HZL.out]; exact hlt)
      obtain ⟨⟨m0, m1⟩, ⟨m2, m3⟩, m4, m5⟩ := HBD.out k (by omega)
      have m6 := HPB.out k (by omega)
      have m7 := HTB.out k hk
      rw [← HR.out] at m7
      have HR2 := Lib.hid (show r + errAt xs zs s k = errTo xs zs s (k + 1) by rw [HSU.out, HR.out])
      have hkz : (k : Int) < (zs.length : Int) := by rw [HZL.out]; omega
      have HA := Lib.hid (HAT.out k)
      rw [HAT.out] at m4 m5
      generalize errAt xs zs s k = ea at *
      generalize pwI xs k = p at *
      generalize zs.getD k 0 = z at *
      clear hpw hc
      go_wp2_with fail
      go_quiet (first | (go_at_call 90; exact quiet_same2 (l01Div_any _ _ _ (by omega) (by omega) (by omega) (by omega) (by omega))) | (go_at_call 95; exact quiet_same2 (l03Abs_any _ _ (by omega) (by omega))))
      rw [← HA.out]
      go_wp2
      go_roundw
      case rel => exact ⟨k + 1, _, by omega, by go_num, rfl, HR2, ⟨_, rfl⟩⟩
      case measure => simp [intOf]; omega
    · have e : k = xs.length - 1 := by omega
      subst e
      go_wp2
      go_ret
      exact ⟨by rw [HE.out, HR.out]; rfl, ⟨_, rfl⟩⟩
theorem specForecastError_ds (A : Option Addr) (n c : Nat) (xs : List Rg) (B : Option Addr) (d : Nat) (zs : List Int) (w : World) (h : RgsOk w A n xs) (hB : CellsAt w B (intsV zs)) (hz : zs.length ≤ 1048576) :
    Calls Try.prog 36 #[.slice A n c, .slice B zs.length d] w fun e w' => e = .returned (.tuple #[.int .i64 (forecastErrorR0 xs zs), .int .i64 (forecastErrorR1 xs zs)]) ∧ Below w.heap.size w w' := by
  have HA := Lib.hid (l06Ask_any A n c xs B d zs w h hB hz)
  by_cases hask : askC xs zs = 0
  rotate_left
  · have h0 : forecastErrorR0 xs zs = 0 := by unfold forecastErrorR0; rw [if_neg hask]
    have h1 : forecastErrorR1 xs zs = askC xs zs := rfl
    rw [h0, h1]
    have hne : (askC xs zs != 0) = true := by simpa using hask
    clear h0 h1 h hB
    generalize askC xs zs = q at *
    go_enter Try.func36, Try.ntmps36
    go_wp2_with fail
    refine HA.out.mono ?_
    rintro e w1 ⟨rfl, hb⟩
    go_wp2
    go_ret2
    exact ⟨rfl, hb⟩
  have h0 : forecastErrorR0 xs zs = errI xs zs 1000 := by unfold forecastErrorR0; rw [if_pos hask]
  have h1 : forecastErrorR1 xs zs = 0 := hask
  rw [h0, h1]
  have HP := Lib.hid (fun (wx : World) (hb : Below w.heap.size w wx) => l06Powers_any A n c xs wx (h.go hb) (askC_ok hask).1)
  have HE := Lib.hid (fun (wx : World) (P : Option Addr) (pc : Nat) (hb : Below w.heap.size w wx) (hP : CellsAt wx P (intsV (powI xs))) => l06Error_any P B pc d xs zs 1000 wx hP (hB.next hb) hask (by omega) (by omega))
  clear h0 h1 h hB
  rw [hask] at HA
  clear hask
  go_enter Try.func36, Try.ntmps36
  go_wp2_with fail
  refine HA.out.mono ?_
  rintro e w1 ⟨rfl, hb⟩
  go_wp2_with fail
  refine (HP.out _ hb).mono ?_
  rintro e w2 ⟨P, pc, rfl, hown, hb2⟩
  rw [intsV_length, powI_length]
  have hb := bnext hb hb2
  have HC := Lib.hid (HE.out w2 P pc hb (owns_cells hown))
  clear hown hb2
  go_wp2_with fail
  refine HC.out.mono ?_
  rintro e w3 ⟨rfl, ⟨k, rfl⟩⟩
  go_wp2
  go_ret2
  exact ⟨rfl, below_drewN hb k⟩
theorem bsTo_bd {xs : List Rg} {zs : List Int} (h : askC xs zs = 0) (k : Nat) (hk : k ≤ 3000) : 0 ≤ (bsTo xs zs k).2 ∧ (bsTo xs zs k).2 ≤ 400000000000000 := by
  induction k with
  | zero => exact errI_bd h 0 (by omega) (by omega)
  | succ k ih =>
    unfold bsTo
    split
    · exact errI_bd h _ (by omega) (by omega)
    · exact ih (by omega)
theorem bsTo_yes {xs : List Rg} {zs : List Int} {k : Nat} (h : errI xs zs ((k : Int) + 1) < (bsTo xs zs k).2) : (bsTo xs zs (k + 1)) = (((k : Int) + 1), errI xs zs ((k : Int) + 1)) := by
  show (if _ then _ else _) = _
  rw [if_pos h]
theorem bsTo_no {xs : List Rg} {zs : List Int} {k : Nat} (h : ¬ errI xs zs ((k : Int) + 1) < (bsTo xs zs k).2) : bsTo xs zs (k + 1) = bsTo xs zs k := by
  show (if _ then _ else _) = _
  rw [if_neg h]
theorem specBestScale_ds (A : Option Addr) (n c : Nat) (xs : List Rg) (B : Option Addr) (d : Nat) (zs : List Int) (w : World) (h : RgsOk w A n xs) (hB : CellsAt w B (intsV zs)) (hz : zs.length ≤ 1048576) :
    Calls Try.prog 38 #[.slice A n c, .slice B zs.length d] w fun e w' => e = .returned (.tuple #[.int .i64 (bestScaleR0 xs zs), .int .i64 (bestScaleR1 xs zs)]) ∧ Below w.heap.size w w' := by
  have HA := Lib.hid (l06Ask_any A n c xs B d zs w h hB hz)
  by_cases hask : askC xs zs = 0
  rotate_left
  · have h0 : bestScaleR0 xs zs = 0 := by unfold bestScaleR0; rw [if_neg hask]
    have h1 : bestScaleR1 xs zs = askC xs zs := rfl
    rw [h0, h1]
    have hne : (askC xs zs != 0) = true := by simpa using hask
    clear h0 h1 h hB
    generalize askC xs zs = q at *
    go_enter Try.func38, Try.ntmps38
    go_wp2_with fail
    refine HA.out.mono ?_
    rintro e w1 ⟨rfl, hb⟩
    go_wp2
    go_ret2
    exact ⟨rfl, hb⟩
  have h0 : bestScaleR0 xs zs = (bsTo xs zs 3000).1 := by unfold bestScaleR0; rw [if_pos hask]
  have h1 : bestScaleR1 xs zs = 0 := hask
  rw [h0, h1]
  have HP := Lib.hid (fun (wx : World) (hb : Below w.heap.size w wx) => l06Powers_any A n c xs wx (h.go hb) (askC_ok hask).1)
  have HE := Lib.hid (fun (wx : World) (P : Option Addr) (pc : Nat) (s : Int) (hb : Below w.heap.size w wx) (hP : CellsAt wx P (intsV (powI xs))) (s0 : 0 ≤ s) (s1 : s ≤ 3000) => l06Error_any P B pc d xs zs s wx hP (hB.next hb) hask s0 s1)
  have HY := Lib.hid (fun k => @bsTo_yes xs zs k)
  have HN := Lib.hid (fun k => @bsTo_no xs zs k)
  have HBD := Lib.hid (fun (k : Nat) (hk : k ≤ 3000) => bsTo_bd hask k hk)
  have HEB := Lib.hid (fun (s : Int) (s0 : 0 ≤ s) (s1 : s ≤ 3000) => errI_bd hask s s0 s1)
  clear h0 h1 h hB
  rw [hask] at HA
  clear hask
  go_enter Try.func38, Try.ntmps38
  go_wp2_with fail
  refine HA.out.mono ?_
  rintro e w1 ⟨rfl, hb⟩
  go_wp2_with fail
  refine (HP.out _ hb).mono ?_
  rintro e w2 ⟨P, pc, rfl, hown, hb2⟩
  rw [intsV_length, powI_length]
  have hb := bnext hb hb2
  have HPC := Lib.hid (owns_cells hown)
  clear hown hb2
  have HC := Lib.hid (HE.out w2 P pc 0 hb HPC.out (by omega) (by omega))
  go_wp2_with fail
  refine HC.out.mono ?_
  rintro e w3 ⟨rfl, ⟨k, rfl⟩⟩
  clear HC
  go_wp2
  go_loopw [8, 9, 10] (fun b l i wr => ∃ (q : Nat) (bv lv : Int), q ≤ 3000 ∧ i = .int .i64 ((q : Int) + 1) ∧ b = .int .i64 bv ∧ l = .int .i64 lv ∧ Hid ((bv, lv) = bsTo xs zs q) ∧ Drawn w2 wr) (fun _ _ i _ => 3002 - (intOf i).toNat)
  case atStart => exact ⟨0, 0, _, by omega, rfl, rfl, rfl, Lib.hid rfl, ⟨k, rfl⟩⟩
  case round =>
    obtain ⟨q, bv, lv, hq, rfl, rfl, rfl, HR, ⟨nr, rfl⟩⟩ := hrel
    by_cases hlt : q < 3000
    · have hc := HE.out (w2.drewN nr) P pc ((q : Int) + 1) (below_drewN hb nr) HPC.out (by omega) (by omega)
      have HC := Lib.hid hc
      have hlv := HBD.out q hq
      rw [← HR.out] at hlv
      have heb := HEB.out ((q : Int) + 1) (by omega) (by omega)
      dsimp only at hlv
      have hyes : errI xs zs ((q : Int) + 1) < lv → (((q : Int) + 1), errI xs zs ((q : Int) + 1)) = bsTo xs zs (q + 1) := fun h => (HY.out q (by rw [← HR.out]; dsimp only; omega)).symm
      have hno : ¬ errI xs zs ((q : Int) + 1) < lv → (bv, lv) = bsTo xs zs (q + 1) := fun h => by rw [HN.out q (by rw [← HR.out]; dsimp only; omega)]; exact HR.out
      have HYE := Lib.hid hyes
      have HNO := Lib.hid hno
      have hq1 : ((q : Int) + 1) ≤ 3000 := by omega
      clear hc hyes hno
      generalize errI xs zs ((q : Int) + 1) = ev at *
      by_cases hl : ev < lv
      · have HT := Lib.hid (HYE.out hl)
        go_wp2_with fail
        refine HC.out.mono ?_
        rintro e w4 ⟨rfl, ⟨k4, rfl⟩⟩
        go_wp2
        go_roundw
        case rel => exact ⟨q + 1, _, _, by omega, by go_num, rfl, rfl, HT, ⟨_, rfl⟩⟩
        case measure => simp [intOf]; omega
      · have HT := Lib.hid (HNO.out hl)
        have hl' : lv ≤ ev := by omega
        go_wp2_with fail
        refine HC.out.mono ?_
        rintro e w4 ⟨rfl, ⟨k4, rfl⟩⟩
        go_wp2
        go_roundw
        case rel => exact ⟨q + 1, _, _, by omega, by go_num, rfl, rfl, HT, ⟨_, rfl⟩⟩
        case measure => simp [intOf]; omega
    · have e : q = 3000 := by omega
      subst e
      go_wp2
      go_ret2
      exact ⟨by rw [← HR.out]; rfl, below_drewN hb nr⟩
/-- a call that returns the function that tells a forecast's error -/
def RetF (A : Option Addr) (n c : Nat) (xs : List Rg) (B : Option Addr) (d : Nat) (zs : List Int) (w : World) (e : Ending) (w' : World) : Prop :=
  (askC xs zs = 0 ∧ ∃ mb fb T td, e = .returned (.tuple #[.func (.func 96) #[] #[.pointer (some ⟨mb, 0, none⟩), .pointer (some ⟨fb, 0, none⟩)], .int .i64 0]) ∧ Two w' mb (.slice A n c) (.slice T (xs.length - 1) td) ∧ One w' fb (.slice B zs.length d) ∧ CellsAt w' T (intsV (powI xs)) ∧ Below w.heap.size w w') ∨
  (askC xs zs ≠ 0 ∧ ∃ v, e = .returned (.tuple #[v, .int .i64 (askC xs zs)]) ∧ Below w.heap.size w w')
theorem forecastErrors_any (A : Option Addr) (n c : Nat) (xs : List Rg) (B : Option Addr) (d : Nat) (zs : List Int) (w : World) (h : RgsOk w A n xs) (hB : CellsAt w B (intsV zs)) (hz : zs.length ≤ 1048576) :
    Calls Try.prog 71 #[.slice A n c, .slice B zs.length d] w (RetF A n c xs B d zs w) := by
  have hba : Below w.heap.size w (w.alloc (.cells #[.slice B zs.length d] 23)) := bal (Below.refl _ _) _
  have HM := Lib.hid (newMeter_any A n c xs _ (h.go hba))
  have HF := Lib.hid (One.new w (.slice B zs.length d) 23)
  have HB := Lib.hid (hB.next hba)
  have HBA := Lib.hid hba
  have hx48 : okRs xs = true → xs.length ≤ 48 := fun ho => (okRs_parts ho).1
  have HX := Lib.hid hx48
  clear h hB hba hx48
  have ⟨f0, f1⟩ := HF.out
  by_cases ho : okRs xs = true
  rotate_left
  · have ho : okRs xs = false := by simpa only [Bool.not_eq_true] using ho
    have hC : askC xs zs = 1 := by unfold askC; rw [if_neg (by rw [ho]; simp)]
    have HC := Lib.hid hC
    clear hC
    go_enter Try.func71, Try.ntmps71
    go_wp2_with fail
    refine HM.out.mono ?_
    rintro e w1 (⟨hn, -⟩ | ⟨-, rfl, hb⟩)
    · rw [ho] at hn; cases hn
    clear ho f0 f1
    go_wp2
    go_ret2
    exact .inr ⟨by rw [HC.out]; decide, _, by rw [HC.out]; rfl, bal (bnext HBA.out hb) _⟩
  have hx := HX.out ho
  by_cases hq : zs.length = xs.length - 1
  rotate_left
  · have hC : askC xs zs = 7 := by unfold askC; rw [if_pos ho, if_neg (fun k => hq k.1)]
    have HC := Lib.hid hC
    have hq3 : ((zs.length : Int) != ((xs.length - 1 : Nat) : Int)) = true := by simp; omega
    clear hC
    go_enter Try.func71, Try.ntmps71
    go_wp2_with fail
    refine HM.out.mono ?_
    rintro e w1 (⟨-, T, td, rfl, hown, hb⟩ | ⟨hn, -, -⟩)
    rotate_left
    · rw [ho] at hn; cases hn
    rw [powI_length]
    have ⟨f0, f1⟩ := (HF.out.next hb).next (bal (Below.refl _ _) (.cells #[.slice A n c, .slice T (xs.length - 1) td] 89))
    clear ho
    go_wp2
    go_ret2
    exact .inr ⟨by rw [HC.out]; decide, _, by rw [HC.out]; rfl, bal (bnext HBA.out hb) _⟩
  have hq3 : ((zs.length : Int) != ((xs.length - 1 : Nat) : Int)) = false := by simp; omega
  have HQ := Lib.hid hq
  have hz48 : zs.length ≤ 48 := by omega
  clear hq
  by_cases hin : allIn 0 1000000000 zs = true
  rotate_left
  · have hin : allIn 0 1000000000 zs = false := by simpa only [Bool.not_eq_true] using hin
    have hC : askC xs zs = 7 := by unfold askC; rw [if_pos ho, if_neg (fun k => by rw [hin] at k; cases k.2)]
    have HC := Lib.hid hC
    clear hC
    go_enter Try.func71, Try.ntmps71
    go_wp2_with fail
    refine HM.out.mono ?_
    rintro e w1 (⟨-, T, td, rfl, hown, hb⟩ | ⟨hn, -, -⟩)
    rotate_left
    · rw [ho] at hn; cases hn
    rw [powI_length]
    have ⟨f0, f1⟩ := (HF.out.next hb).next (bal (Below.refl _ _) (.cells #[.slice A n c, .slice T (xs.length - 1) td] 89))
    clear ho
    go_wp2_with fail
    refine (within64_cells _ _ _ _ _ zs _ rfl (by unfold maxLen; omega) ((HB.out.next hb).next (bal (Below.refl _ _) _))).mono ?_
    rintro e w2 ⟨rfl, rfl⟩
    rw [hin]
    clear hin
    go_wp2
    go_ret2
    exact .inr ⟨by rw [HC.out]; decide, _, by rw [HC.out]; rfl, bal (bnext HBA.out hb) _⟩
  have hC : askC xs zs = 0 := by unfold askC; rw [if_pos ho, if_pos ⟨HQ.out, hin⟩]
  have HC := Lib.hid hC
  clear hC
  go_enter Try.func71, Try.ntmps71
  go_wp2_with fail
  refine HM.out.mono ?_
  rintro e w1 (⟨-, T, td, rfl, hown, hb⟩ | ⟨hn, -, -⟩)
  rotate_left
  · rw [ho] at hn; cases hn
  rw [powI_length] at hown ⊢
  have hba : Below w1.heap.size w1 (w1.alloc (.cells #[.slice A n c, .slice T (xs.length - 1) td] 89)) := bal (Below.refl _ _) _
  have HF1 := Lib.hid ((HF.out.next hb).next hba)
  have HM1 := Lib.hid (Two.new w1 (.slice A n c) (.slice T (xs.length - 1) td) 89)
  have HP1 := Lib.hid ((owns_cells hown).next hba)
  have ⟨f0, f1⟩ := HF1.out
  clear ho
  go_wp2_with fail
  refine (within64_cells _ _ _ _ _ zs _ rfl (by unfold maxLen; omega) ((HB.out.next hb).next (bal (Below.refl _ _) _))).mono ?_
  rintro e w2 ⟨rfl, rfl⟩
  rw [hin]
  clear hin
  go_wp2
  go_ret2
  exact .inl ⟨HC.out, _, _, _, _, rfl, HM1.out, HF1.out, HP1.out, bal (bnext HBA.out hb) _⟩
theorem errorWith_any (A : Option Addr) (n c : Nat) (xs : List Rg) (B : Option Addr) (d : Nat) (zs : List Int) (mb fb : Nat) (T : Option Addr) (td : Nat) (s : Int) (w : World) (hask : askC xs zs = 0) (s0 : 0 ≤ s) (s1 : s ≤ 3000)
    (hM : Two w mb (.slice A n c) (.slice T (xs.length - 1) td)) (hF : One w fb (.slice B zs.length d)) (hP : CellsAt w T (intsV (powI xs))) (hB : CellsAt w B (intsV zs)) :
    Calls Try.prog 96 #[.int .i64 s, .pointer (some ⟨mb, 0, none⟩), .pointer (some ⟨fb, 0, none⟩)] w fun e w' => e = .returned (.int .i64 (errI xs zs s)) ∧ Drawn w w' := by
  have hx48 := (okRs_parts (askC_ok hask).1).1
  have hzl := (askC_ok hask).2.1
  have HP := Lib.hid hP
  have HB := Lib.hid hB
  have HBD := Lib.hid (fun (k : Nat) (hk : k + 1 < xs.length) => errAt_bd hask s s0 s1 k hk)
  have HTB := Lib.hid (fun (k : Nat) (hk : k ≤ xs.length - 1) => errTo_bd hask s s0 s1 k hk)
  have HPB := Lib.hid (fun (k : Nat) (hk : k + 1 < xs.length) => pwI_bd (askC_ok hask).1 k hk)
  have HE : Hid (errI xs zs s = errTo xs zs s (xs.length - 1)) := Lib.hid rfl
  have HSU : Hid (∀ k, errTo xs zs s (k + 1) = errTo xs zs s k + errAt xs zs s k) := Lib.hid (fun k => rfl)
  have HAT : Hid (∀ k, errAt xs zs s k = absI (pwI xs k - nearI (zs.getD k 0 * s) 1000)) := Lib.hid (fun k => rfl)
  have HZL := Lib.hid hzl
  have ⟨m0, m1, m2, m3⟩ := hM
  have ⟨f0, f1⟩ := hF
  clear hP hB hask hzl hM hF
  go_enter Try.func96, Try.ntmps96
  go_wp2
  go_loopw [5, 11] (fun v i wr => ∃ (k : Nat) (r : Int), k ≤ xs.length - 1 ∧ i = .int .i64 k ∧ v = .int .i64 r ∧ Hid (r = errTo xs zs s k) ∧ Drawn w wr) (fun _ i _ => xs.length - (intOf i).toNat)
  case atStart => exact ⟨0, 0, Nat.zero_le _, rfl, rfl, Lib.hid rfl, Drawn.rfl' _⟩
  case round =>
    obtain ⟨k, r, hk, rfl, rfl, HR, ⟨nr, rfl⟩⟩ := hrel
    by_cases hlt : k < xs.length - 1
    · obtain ⟨pb, po, rfl, hpw⟩ := powCell HP.out (by omega)
      obtain ⟨b, o, rfl, hc⟩ := zsCell HB.out (by rw [HZL.out]; omega)
      have p0 := hpw k (by omega)
      have p1 := hc k (by rw [HZL.out]; exact hlt)
      obtain ⟨⟨e0, e1⟩, ⟨e2, e3⟩, e4, e5⟩ := HBD.out k (by omega)
      have e6 := HPB.out k (by omega)
      have e7 := HTB.out k hk
      rw [← HR.out] at e7
      have HR2 := Lib.hid (show r + errAt xs zs s k = errTo xs zs s (k + 1) by rw [HSU.out, HR.out])
      have hkz : (k : Int) < (zs.length : Int) := by rw [HZL.out]; omega
      have HA := Lib.hid (HAT.out k)
      have e8 := e4
      have e9 := e5
      rw [HAT.out] at e4 e5
      generalize errAt xs zs s k = ea at *
      generalize pwI xs k = p at *
      generalize zs.getD k 0 = z at *
      clear hpw hc
      go_wp2_with (first | (go_at_call 91; refine (nearest_any _ _ _ (by omega) (by omega) (by omega) (by omega) (by omega)).mono ?_; rintro e w' ⟨rfl, ⟨kn, rfl⟩⟩) | (go_at_call 97; refine (absolute_any _ _ (by omega) (by omega)).mono ?_; rintro e w' ⟨rfl, rfl⟩; rw [← HA.out]))
      go_roundw
      case rel => exact ⟨k + 1, _, by omega, by go_num, rfl, HR2, ⟨_, rfl⟩⟩
      case measure => simp [intOf]; omega
    · have e : k = xs.length - 1 := by omega
      subst e
      go_wp2
      go_ret
      exact ⟨by rw [HE.out, HR.out]; rfl, ⟨_, rfl⟩⟩
theorem implForecastError_ds (A : Option Addr) (n c : Nat) (xs : List Rg) (B : Option Addr) (d : Nat) (zs : List Int) (w : World) (h : RgsOk w A n xs) (hB : CellsAt w B (intsV zs)) (hz : zs.length ≤ 1048576) :
    Calls Try.prog 37 #[.slice A n c, .slice B zs.length d] w fun e w' => e = .returned (.tuple #[.int .i64 (forecastErrorR0 xs zs), .int .i64 (forecastErrorR1 xs zs)]) ∧ Below w.heap.size w w' := by
  have HF := Lib.hid (forecastErrors_any A n c xs B d zs w h hB hz)
  have HB := Lib.hid hB
  clear h hB
  by_cases hask : askC xs zs = 0
  rotate_left
  · have h0 : forecastErrorR0 xs zs = 0 := by unfold forecastErrorR0; rw [if_neg hask]
    have h1 : forecastErrorR1 xs zs = askC xs zs := rfl
    rw [h0, h1]
    have hne : (askC xs zs != 0) = true := by simpa using hask
    have HK := Lib.hid hask
    clear h0 h1 hask
    go_enter Try.func37, Try.ntmps37
    go_wp2_with fail
    refine HF.out.mono ?_
    rintro e w1 (⟨hn, -⟩ | ⟨-, v, rfl, hb⟩)
    · exact absurd hn HK.out
    go_wp2
    go_ret2
    exact ⟨rfl, hb⟩
  have h0 : forecastErrorR0 xs zs = errI xs zs 1000 := by unfold forecastErrorR0; rw [if_pos hask]
  have h1 : forecastErrorR1 xs zs = 0 := hask
  rw [h0, h1]
  have HK := Lib.hid hask
  clear h0 h1 hask
  go_enter Try.func37, Try.ntmps37
  go_wp2_with fail
  refine HF.out.mono ?_
  rintro e w1 (⟨-, mb, fb, T, td, rfl, hM, hF, hP, hb⟩ | ⟨hn, -⟩)
  rotate_left
  · exact absurd HK.out hn
  go_wp2_with fail
  refine (errorWith_any A n c xs B d zs mb fb T td 1000 _ HK.out (by omega) (by omega) hM hF hP (HB.out.next hb)).mono ?_
  rintro e w2 ⟨rfl, ⟨k, rfl⟩⟩
  go_wp2
  go_ret2
  exact ⟨rfl, below_drewN hb k⟩
theorem bs_step (xs : List Rg) (zs : List Int) (q : Nat) : (errI xs zs (q : Int) < (bsTo xs zs (q - 1)).2 → bsTo xs zs q = ((q : Int), errI xs zs (q : Int))) ∧ (¬ errI xs zs (q : Int) < (bsTo xs zs (q - 1)).2 → bsTo xs zs q = bsTo xs zs (q - 1)) := by
  cases q with
  | zero => exact ⟨fun h => absurd h (Int.lt_irrefl _), fun _ => rfl⟩
  | succ k => exact ⟨fun h => bsTo_yes h, fun h => bsTo_no h⟩
theorem implBestScale_ds (A : Option Addr) (n c : Nat) (xs : List Rg) (B : Option Addr) (d : Nat) (zs : List Int) (w : World) (h : RgsOk w A n xs) (hB : CellsAt w B (intsV zs)) (hz : zs.length ≤ 1048576) :
    Calls Try.prog 39 #[.slice A n c, .slice B zs.length d] w fun e w' => e = .returned (.tuple #[.int .i64 (bestScaleR0 xs zs), .int .i64 (bestScaleR1 xs zs)]) ∧ Below w.heap.size w w' := by
  have HF := Lib.hid (forecastErrors_any A n c xs B d zs w h hB hz)
  have HB := Lib.hid hB
  clear h hB
  by_cases hask : askC xs zs = 0
  rotate_left
  · have h0 : bestScaleR0 xs zs = 0 := by unfold bestScaleR0; rw [if_neg hask]
    have h1 : bestScaleR1 xs zs = askC xs zs := rfl
    rw [h0, h1]
    have hne : (askC xs zs != 0) = true := by simpa using hask
    have HK := Lib.hid hask
    clear h0 h1 hask
    go_enter Try.func39, Try.ntmps39
    go_wp2_with fail
    refine HF.out.mono ?_
    rintro e w1 (⟨hn, -⟩ | ⟨-, v, rfl, hb⟩)
    · exact absurd hn HK.out
    go_wp2
    go_ret2
    exact ⟨rfl, hb⟩
  have h0 : bestScaleR0 xs zs = (bsTo xs zs 3000).1 := by unfold bestScaleR0; rw [if_pos hask]
  have h1 : bestScaleR1 xs zs = 0 := hask
  rw [h0, h1]
  have HK := Lib.hid hask
  have HY := Lib.hid (fun k => @bsTo_yes xs zs k)
  have HN := Lib.hid (fun k => @bsTo_no xs zs k)
  have HBD := Lib.hid (fun (k : Nat) (hk : k ≤ 3000) => bsTo_bd hask k hk)
  have HEB := Lib.hid (fun (s : Int) (s0 : 0 ≤ s) (s1 : s ≤ 3000) => errI_bd hask s s0 s1)
  clear h0 h1 hask
  go_enter Try.func39, Try.ntmps39
  go_wp2_with fail
  refine HF.out.mono ?_
  rintro e w1 (⟨-, mb, fb, T, td, rfl, hM, hF, hP, hb⟩ | ⟨hn, -⟩)
  rotate_left
  · exact absurd HK.out hn
  have HE := Lib.hid (fun (s : Int) (j : Nat) (s0 : 0 ≤ s) (s1 : s ≤ 3000) => errorWith_any A n c xs B d zs mb fb T td s (w1.drewN j) HK.out s0 s1 (hM.next (below_drewN (Below.refl _ _) j)) (hF.next (below_drewN (Below.refl _ _) j)) (hP.next (below_drewN (Below.refl _ _) j)) ((HB.out.next hb).next (below_drewN (Below.refl _ _) j)))
  clear hM hF hP
  have HC := Lib.hid (HE.out 0 0 (by omega) (by omega))
  go_wp2_with fail
  refine HC.out.mono ?_
  rintro e w3 ⟨rfl, ⟨k, rfl⟩⟩
  clear HC
  go_wp2
  go_loopw [8, 9, 23] (fun b l i wr => ∃ (q : Nat) (bv lv : Int), q ≤ 3001 ∧ i = .int .i64 q ∧ b = .int .i64 bv ∧ l = .int .i64 lv ∧ Hid ((bv, lv) = bsTo xs zs (q - 1)) ∧ Drawn w1 wr) (fun _ _ i _ => 3002 - (intOf i).toNat)
  case atStart => exact ⟨0, 0, _, by omega, rfl, rfl, rfl, Lib.hid rfl, ⟨_, rfl⟩⟩
  case round =>
    obtain ⟨q, bv, lv, hq, rfl, rfl, rfl, HR, ⟨nr, rfl⟩⟩ := hrel
    by_cases hlt : q < 3001
    · have HC := Lib.hid (HE.out (q : Int) nr (by omega) (by omega))
      have hlv := HBD.out (q - 1) (by omega)
      rw [← HR.out] at hlv
      have heb := HEB.out (q : Int) (by omega) (by omega)
      dsimp only at hlv
      have HYE := Lib.hid (show errI xs zs (q : Int) < lv → ((q : Int), errI xs zs (q : Int)) = bsTo xs zs (q + 1 - 1) from fun h => ((bs_step xs zs q).1 (by rw [← HR.out]; exact h)).symm)
      have HNO := Lib.hid (show ¬ errI xs zs (q : Int) < lv → (bv, lv) = bsTo xs zs (q + 1 - 1) from fun h => by rw [Nat.add_sub_cancel, (bs_step xs zs q).2 (by rw [← HR.out]; exact h)]; exact HR.out)
      have hq1 : (q : Int) < 3001 := by omega
      generalize errI xs zs (q : Int) = ev at *
      by_cases hl : ev < lv
      · have HT := Lib.hid (HYE.out hl)
        go_wp2_with fail
        refine HC.out.mono ?_
        rintro e w4 ⟨rfl, ⟨k4, rfl⟩⟩
        go_wp2
        go_roundw
        case rel => exact ⟨q + 1, _, _, by omega, by go_num, rfl, rfl, HT, ⟨_, rfl⟩⟩
        case measure => simp [intOf]; omega
      · have HT := Lib.hid (HNO.out hl)
        have hl' : lv ≤ ev := by omega
        go_wp2_with fail
        refine HC.out.mono ?_
        rintro e w4 ⟨rfl, ⟨k4, rfl⟩⟩
        go_wp2
        go_roundw
        case rel => exact ⟨q + 1, _, _, by omega, by go_num, rfl, rfl, HT, ⟨_, rfl⟩⟩
        case measure => simp [intOf]; omega
    · have e : q = 3001 := by omega
      subst e
      go_wp2
      go_ret2
      exact ⟨by have := HR.out; rw [show bsTo xs zs 3000 = (bv, lv) from this.symm]; rfl, below_drewN hb nr⟩

end Go.Proofs.Ythidaoemonjemab
