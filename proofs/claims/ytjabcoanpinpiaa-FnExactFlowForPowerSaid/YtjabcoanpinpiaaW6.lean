/-
  SteamPressure and FlowForPower: both sides answer the least place at which a curve, or a power, reaches what is asked.
-/
import Derived.Test.YtjabcoanpinpiaaW4
namespace Go.Proofs.Ytjabcoanpinpiaa
open Go.ChangeShapes Go.WideShapes Go.ChangeAt Go.RowKit Go.Shelf


def stmI (t : Int) : Int := leastI 1000 1200000 t boilI
theorem l02Pressure_any (g : Int) (w : World) (ht : g ≤ 18796) : Calls Try.prog 75 #[.int .i64 g] w fun e w' => e = .returned (.int .i64 (leastI 1000 1200000 g boilI)) ∧ Below w.heap.size w w' := by
  have hL := leastI_spec 1000 1200000 g boilI (by omega) (fun x y _ a _ => boil_mono x y a)
  have HL := Lib.hid hL
  have hm : ∀ x y, 1000 ≤ x → x ≤ y → y ≤ 1200000 → boilI x ≤ boilI y := fun x y _ a _ => boil_mono x y a
  have HM := Lib.hid hm
  have HT : Hid (g ≤ boilI 1200000) := Lib.hid (by rw [boil_top _ (by omega)]; exact ht)
  clear hL hm
  generalize leastI 1000 1200000 g boilI = R at HL ⊢
  go_enter Try.func75, Try.ntmps75
  go_wp2
  go_loopw [3, 4] (fun va vb wr => ∃ l h : Int, va = .int .i64 l ∧ vb = .int .i64 h ∧ 1000 - 1 ≤ l ∧ l < h ∧ h ≤ 1200000 ∧ Below w.heap.size w wr ∧ Hid ((1000 ≤ l → boilI l < g) ∧ (h ≤ 1200000 → g ≤ boilI h))) (fun va vb _ => (intOf vb - intOf va).toNat)
  case atStart => exact ⟨_, _, rfl, rfl, by omega, by omega, by omega, Below.refl _ _, Lib.hid ⟨fun h => by omega, fun h => HT.out⟩⟩
  case round =>
    obtain ⟨l, h, rfl, rfl, h0, h1, h2, hb, I⟩ := hrel
    by_cases hlt : 1 < h - l
    · have hq0 : l < (l + h) / 2 := by omega
      have hq1 : (l + h) / 2 < h := by omega
      have hs0 : 0 ≤ l + h := by omega
      by_cases hg : g ≤ boilI ((l + h) / 2)
      · have hg' : decide (g ≤ boilI ((l + h) / 2)) = true := by simpa using hg
        have HG := Lib.hid hg
        clear hg
        go_wp2_with ((go_at_call 73; refine (l02Boiling_any _ _).mono ?_; rintro e w' ⟨rfl, hb'⟩; have hb := bnext hb hb'))
        go_roundw
        case rel => exact ⟨l, (l + h) / 2, rfl, rfl, h0, hq0, by omega, hb, Lib.hid ⟨I.out.1, fun _ => HG.out⟩⟩
        case measure => simp [intOf]; omega
      · have hg' : decide (g ≤ boilI ((l + h) / 2)) = false := by simpa using hg
        have HG := Lib.hid hg
        clear hg
        go_wp2_with ((go_at_call 73; refine (l02Boiling_any _ _).mono ?_; rintro e w' ⟨rfl, hb'⟩; have hb := bnext hb hb'))
        go_roundw
        case rel => exact ⟨(l + h) / 2, h, rfl, rfl, by omega, hq1, h2, hb, Lib.hid ⟨fun _ => by have := HG.out; omega, I.out.2⟩⟩
        case measure => simp [intOf]; omega
    · have hR : h = R := (least_of_pair HM.out (by omega : h = l + 1) h0 (by omega) I.out.1 I.out.2).eq HL.out
      subst hR
      go_wp2
      go_ret
      exact ⟨rfl, hb⟩

theorem firstSteam_any (t : Int) (w : World) : Calls Try.prog 76 #[.int .i64 1000, .int .i64 1200000, .int .i64 t, .func (.func 69) #[.agg (ptsV boilPts)] #[]] w fun e w' => e = .returned (.int .i64 (stmI t)) ∧ Below w.heap.size w w' :=
  firstFrom_any 69 #[.agg (ptsV boilPts)] #[] 1000 1200000 t boilI w (enters_of Try.func69 (by kernel_rfl) rfl) (by omega) (by omega) (by omega)
    (fun wr x _ _ _ => by simpa using boilAt_any x wr) (fun x y _ a _ => boil_mono x y a)

def stmV (t : Int) : Int := if inB t 0 18000 then stmI t else 0
def stmC (t : Int) : Int := if inB t 0 18000 then 0 else 2

theorem specSteamPressure_any (t : Int) (w : World) : Calls Try.prog 36 #[.int .i64 t] w fun e w' => e = .returned (.tuple #[.int .i64 (stmV t), .int .i64 (stmC t)]) ∧ Below w.heap.size w w' := by
  have hb : Below w.heap.size w w := Below.refl _ _
  by_cases h1 : inB t 0 18000 = true
  · skip
    have hv : stmV t = stmI t := by unfold stmV; simp [*]
    have hc : stmC t = 0 := by unfold stmC; simp [*]
    rw [hv, hc]
    clear hv hc
    have k1 := inB_iff.1 h1
    unfold stmI
    go_enter Try.func36, Try.ntmps36
    go_wp2_with (first | (go_at_call 70; refine (l02Degrees_any _ _).mono ?_; rintro e w' ⟨rfl, rfl⟩) | (go_at_call 75; refine (l02Pressure_any _ _ (by omega)).mono ?_; rintro e w' ⟨rfl, hb'⟩; first | have hb := bnext hb hb' | have hb := bnext (bal hb _) hb' | have hb := bnext (bal (bal hb _) _) hb' | have hb := bnext (bal (bal (bal hb _) _) _) hb' | have hb := bnext (bal (bal (bal (bal hb _) _) _) _) hb' | have hb := bnext (bal (bal (bal (bal (bal hb _) _) _) _) _) hb'))
    go_ret2
    first | exact ⟨rfl, hb⟩ | exact ⟨rfl, (bal hb _)⟩ | exact ⟨rfl, (bal (bal hb _) _)⟩ | exact ⟨rfl, (bal (bal (bal hb _) _) _)⟩ | exact ⟨rfl, (bal (bal (bal (bal hb _) _) _) _)⟩ | exact ⟨rfl, (bal (bal (bal (bal (bal hb _) _) _) _) _)⟩
  · have h1' : (inB t 0 18000) = false := by simpa using h1
    have hv : stmV t = 0 := by unfold stmV; simp [*]
    have hc : stmC t = 2 := by unfold stmC; simp [*]
    rw [hv, hc]
    clear hv hc
    go_enter Try.func36, Try.ntmps36
    go_wp2_with (first | (go_at_call 70; refine (l02Degrees_any _ _).mono ?_; rintro e w' ⟨rfl, rfl⟩) | (go_at_call 75; refine (l02Pressure_any _ _ (by omega)).mono ?_; rintro e w' ⟨rfl, hb'⟩; first | have hb := bnext hb hb' | have hb := bnext (bal hb _) hb' | have hb := bnext (bal (bal hb _) _) hb' | have hb := bnext (bal (bal (bal hb _) _) _) hb' | have hb := bnext (bal (bal (bal (bal hb _) _) _) _) hb' | have hb := bnext (bal (bal (bal (bal (bal hb _) _) _) _) _) hb'))
    go_ret2
    first | exact ⟨rfl, hb⟩ | exact ⟨rfl, (bal hb _)⟩ | exact ⟨rfl, (bal (bal hb _) _)⟩ | exact ⟨rfl, (bal (bal (bal hb _) _) _)⟩ | exact ⟨rfl, (bal (bal (bal (bal hb _) _) _) _)⟩ | exact ⟨rfl, (bal (bal (bal (bal (bal hb _) _) _) _) _)⟩

theorem implSteamPressure_any (t : Int) (w : World) : Calls Try.prog 37 #[.int .i64 t] w fun e w' => e = .returned (.tuple #[.int .i64 (stmV t), .int .i64 (stmC t)]) ∧ Below w.heap.size w w' := by
  have hb : Below w.heap.size w w := Below.refl _ _
  by_cases h1 : inB t 0 18000 = true
  · skip
    have hv : stmV t = stmI t := by unfold stmV; simp [*]
    have hc : stmC t = 0 := by unfold stmC; simp [*]
    rw [hv, hc]
    clear hv hc
    go_enter Try.func37, Try.ntmps37
    go_wp2_with (first | (go_at_call 66; refine (one64At _ _ _ _ _ _ (by simp) (by omega)).mono ?_; rintro e w' ⟨rfl, hb'⟩; first | have hb := bnext hb hb' | have hb := bnext (bal hb _) hb' | have hb := bnext (bal (bal hb _) _) hb' | have hb := bnext (bal (bal (bal hb _) _) _) hb' | have hb := bnext (bal (bal (bal (bal hb _) _) _) _) hb' | have hb := bnext (bal (bal (bal (bal (bal hb _) _) _) _) _) hb') | (go_at_call 74; refine (boilingPoints_any _).mono ?_; rintro e w' ⟨rfl, hb'⟩; first | have hb := bnext hb hb' | have hb := bnext (bal hb _) hb' | have hb := bnext (bal (bal hb _) _) hb' | have hb := bnext (bal (bal (bal hb _) _) _) hb' | have hb := bnext (bal (bal (bal (bal hb _) _) _) _) hb' | have hb := bnext (bal (bal (bal (bal (bal hb _) _) _) _) _) hb') | (go_at_call 76; refine (firstSteam_any _ _).mono ?_; rintro e w' ⟨rfl, hb'⟩; first | have hb := bnext hb hb' | have hb := bnext (bal hb _) hb' | have hb := bnext (bal (bal hb _) _) hb' | have hb := bnext (bal (bal (bal hb _) _) _) hb' | have hb := bnext (bal (bal (bal (bal hb _) _) _) _) hb' | have hb := bnext (bal (bal (bal (bal (bal hb _) _) _) _) _) hb'))
    go_ret2
    first | exact ⟨rfl, hb⟩ | exact ⟨rfl, (bal hb _)⟩ | exact ⟨rfl, (bal (bal hb _) _)⟩ | exact ⟨rfl, (bal (bal (bal hb _) _) _)⟩ | exact ⟨rfl, (bal (bal (bal (bal hb _) _) _) _)⟩ | exact ⟨rfl, (bal (bal (bal (bal (bal hb _) _) _) _) _)⟩
  · have h1' : (inB t 0 18000) = false := by simpa using h1
    have hv : stmV t = 0 := by unfold stmV; simp [*]
    have hc : stmC t = 2 := by unfold stmC; simp [*]
    rw [hv, hc]
    clear hv hc
    go_enter Try.func37, Try.ntmps37
    go_wp2_with (first | (go_at_call 66; refine (one64At _ _ _ _ _ _ (by simp) (by omega)).mono ?_; rintro e w' ⟨rfl, hb'⟩; first | have hb := bnext hb hb' | have hb := bnext (bal hb _) hb' | have hb := bnext (bal (bal hb _) _) hb' | have hb := bnext (bal (bal (bal hb _) _) _) hb' | have hb := bnext (bal (bal (bal (bal hb _) _) _) _) hb' | have hb := bnext (bal (bal (bal (bal (bal hb _) _) _) _) _) hb') | (go_at_call 74; refine (boilingPoints_any _).mono ?_; rintro e w' ⟨rfl, hb'⟩; first | have hb := bnext hb hb' | have hb := bnext (bal hb _) hb' | have hb := bnext (bal (bal hb _) _) hb' | have hb := bnext (bal (bal (bal hb _) _) _) hb' | have hb := bnext (bal (bal (bal (bal hb _) _) _) _) hb' | have hb := bnext (bal (bal (bal (bal (bal hb _) _) _) _) _) hb') | (go_at_call 76; refine (firstSteam_any _ _).mono ?_; rintro e w' ⟨rfl, hb'⟩; first | have hb := bnext hb hb' | have hb := bnext (bal hb _) hb' | have hb := bnext (bal (bal hb _) _) hb' | have hb := bnext (bal (bal (bal hb _) _) _) hb' | have hb := bnext (bal (bal (bal (bal hb _) _) _) _) hb' | have hb := bnext (bal (bal (bal (bal (bal hb _) _) _) _) _) hb'))
    go_ret2
    first | exact ⟨rfl, hb⟩ | exact ⟨rfl, (bal hb _)⟩ | exact ⟨rfl, (bal (bal hb _) _)⟩ | exact ⟨rfl, (bal (bal (bal hb _) _) _)⟩ | exact ⟨rfl, (bal (bal (bal (bal hb _) _) _) _)⟩ | exact ⟨rfl, (bal (bal (bal (bal (bal hb _) _) _) _) _)⟩

def ffI (p a b : Int) : Int := leastI 0 100000 p (fun q => wattI q (a - b))
theorem watt_mono (q r d : Int) (h : q ≤ r) (hd : 0 ≤ d) : wattI q d ≤ wattI r d :=
  nearI_mono _ _ _ (by omega) (Int.mul_le_mul_of_nonneg_right (by omega) hd)

theorem l02Needed_any (g a b : Int) (w : World) (hd0 : 0 ≤ a - b) (hd1 : a - b ≤ 25000) : Calls Try.prog 82 #[.int .i64 g, .int .i64 a, .int .i64 b] w fun e w' => e = .returned (.int .i64 (leastI 0 100000 g (fun q => wattI q (a - b)))) ∧ Below w.heap.size w w' := by
  have hL := leastI_spec 0 100000 g (fun q => wattI q (a - b)) (by omega) (fun x y _ h _ => watt_mono x y _ h (by omega))
  have HL := Lib.hid hL
  have hm : ∀ x y, 0 ≤ x → x ≤ y → y ≤ 100000 → (fun q => wattI q (a - b)) x ≤ (fun q => wattI q (a - b)) y := fun x y _ h _ => watt_mono x y _ h (by omega)
  have HM := Lib.hid hm
  clear hL hm
  generalize leastI 0 100000 g (fun q => wattI q (a - b)) = R at HL ⊢
  go_enter Try.func82, Try.ntmps82
  go_wp2
  go_loopw [7, 8] (fun va vb wr => ∃ l h : Int, va = .int .i64 l ∧ vb = .int .i64 h ∧ 0 - 1 ≤ l ∧ l < h ∧ h ≤ 100001 ∧ Below w.heap.size w wr ∧ Hid ((0 ≤ l → (fun q => wattI q (a - b)) l < g) ∧ (h ≤ 100000 → g ≤ (fun q => wattI q (a - b)) h))) (fun va vb _ => (intOf vb - intOf va).toNat)
  case atStart => exact ⟨_, _, rfl, rfl, by omega, by omega, by omega, Below.refl _ _, Lib.hid ⟨fun h => by omega, fun h => by omega⟩⟩
  case round =>
    obtain ⟨l, h, rfl, rfl, h0, h1, h2, hb, I⟩ := hrel
    by_cases hlt : 1 < h - l
    · have hq0 : l < (l + h) / 2 := by omega
      have hq1 : (l + h) / 2 < h := by omega
      have hs0 : 0 ≤ l + h := by omega
      by_cases hg : g ≤ wattI ((l + h) / 2) (a - b)
      · have hg' : decide (g ≤ wattI ((l + h) / 2) (a - b)) = true := by simpa using hg
        have HG := Lib.hid hg
        clear hg
        go_wp2_with ((go_at_call 79; refine (l02Power_any _ _ _ _ (by omega) (by omega) (by omega) (by omega)).mono ?_; rintro e w' ⟨rfl, rfl⟩))
        go_roundw
        case rel => exact ⟨l, (l + h) / 2, rfl, rfl, h0, hq0, by omega, hb, Lib.hid ⟨I.out.1, fun _ => HG.out⟩⟩
        case measure => simp [intOf]; omega
      · have hg' : decide (g ≤ wattI ((l + h) / 2) (a - b)) = false := by simpa using hg
        have HG := Lib.hid hg
        clear hg
        go_wp2_with ((go_at_call 79; refine (l02Power_any _ _ _ _ (by omega) (by omega) (by omega) (by omega)).mono ?_; rintro e w' ⟨rfl, rfl⟩))
        go_roundw
        case rel => exact ⟨(l + h) / 2, h, rfl, rfl, by omega, hq1, h2, hb, Lib.hid ⟨fun _ => by have := HG.out; omega, I.out.2⟩⟩
        case measure => simp [intOf]; omega
    · have hR : h = R := (least_of_pair HM.out (by omega : h = l + 1) h0 (by omega) I.out.1 I.out.2).eq HL.out
      subst hR
      go_wp2
      go_ret
      exact ⟨rfl, hb⟩

theorem needed_any (x a b : Int) (p q : Nat) (w : World) (x0 : 0 ≤ x) (x1 : x ≤ 100000) (hp : w.cell? ⟨p, 0, none⟩ = some (.int .i64 a)) (hq : w.cell? ⟨q, 0, none⟩ = some (.int .i64 b)) (d0 : -25000 ≤ a - b) (d1 : a - b ≤ 25000) :
    Calls Try.prog 83 #[.int .i64 x, .pointer (some ⟨p, 0, none⟩), .pointer (some ⟨q, 0, none⟩)] w fun e w' => e = .returned (.int .i64 (wattI x (a - b))) ∧ Below w.heap.size w w' := by
  have hb : Below w.heap.size w w := Below.refl _ _
  go_enter Try.func83, Try.ntmps83
  go_wp2_with ((go_at_call 60; refine (wattsOf_any _ _ _ (by omega) (by omega) (by omega) (by omega)).mono ?_; rintro e w' ⟨rfl, ⟨nq, rfl⟩⟩; have hb := below_drewN hb nq))
  go_ret
  first | exact ⟨rfl, hb⟩ | exact ⟨rfl, (bal hb _)⟩ | exact ⟨rfl, (bal (bal hb _) _)⟩ | exact ⟨rfl, (bal (bal (bal hb _) _) _)⟩ | exact ⟨rfl, (bal (bal (bal (bal hb _) _) _) _)⟩ | exact ⟨rfl, (bal (bal (bal (bal (bal hb _) _) _) _) _)⟩

theorem firstFlow_any (g a b : Int) (p q : Nat) (w : World) (hp : w.cell? ⟨p, 0, none⟩ = some (.int .i64 a)) (hq : w.cell? ⟨q, 0, none⟩ = some (.int .i64 b)) (d0 : 0 ≤ a - b) (d1 : a - b ≤ 25000) :
    Calls Try.prog 76 #[.int .i64 0, .int .i64 100000, .int .i64 g, .func (.func 83) #[] #[.pointer (some ⟨p, 0, none⟩), .pointer (some ⟨q, 0, none⟩)]] w fun e w' => e = .returned (.int .i64 (ffI g a b)) ∧ Below w.heap.size w w' :=
  firstFrom_any 83 #[] #[.pointer (some ⟨p, 0, none⟩), .pointer (some ⟨q, 0, none⟩)] 0 100000 g (fun q => wattI q (a - b)) w (enters_of Try.func83 (by kernel_rfl) rfl) (by omega) (by omega) (by omega)
    (fun wr x x0 x1 hb => by
      have := needed_any x a b p q wr x0 x1 ((hb.cell (World.block_lt_of_cell? _ _ hp)).trans hp) ((hb.cell (World.block_lt_of_cell? _ _ hq)).trans hq) (by omega) d1
      simpa using this) (fun x y _ h _ => watt_mono x y _ h (by omega))

def ffpV (p : Int) (a : Int) (b : Int) : Int := if inB p 0 100000000 && inB a 0 18000 && inB b 0 a && inB (ffI p a b) 0 100000 then ffI p a b else 0
def ffpC (p : Int) (a : Int) (b : Int) : Int := if inB p 0 100000000 && inB a 0 18000 && inB b 0 a then (if inB (ffI p a b) 0 100000 then 0 else 6) else 2

theorem ff_low (p a b : Int) (h : 0 ≤ a - b) : 0 ≤ ffI p a b := (leastI_spec 0 100000 p (fun q => wattI q (a - b)) (by omega) (fun x y _ h _ => watt_mono x y _ h (by omega))).1

theorem specFlowForPower_any (p : Int) (a : Int) (b : Int) (w : World) : Calls Try.prog 42 #[.int .i64 p, .int .i64 a, .int .i64 b] w fun e w' => e = .returned (.tuple #[.int .i64 (ffpV p a b), .int .i64 (ffpC p a b)]) ∧ Below w.heap.size w w' := by
  have hb : Below w.heap.size w w := Below.refl _ _
  by_cases h1 : inB p 0 100000000 = true
  · skip
    by_cases h2 : inB a 0 18000 = true
    · skip
      by_cases h3 : inB b 0 a = true
      · skip
        by_cases h4 : inB (ffI p a b) 0 100000 = true
        · skip
          have hv : ffpV p a b = ffI p a b := by unfold ffpV; simp [*]
          have hc : ffpC p a b = 0 := by unfold ffpC; simp [*]
          rw [hv, hc]
          clear hv hc
          have k1 := inB_iff.1 h1
          have k2 := inB_iff.1 h2
          have k3 := inB_iff.1 h3
          have k5 := ff_low p a b (by omega)
          have hN := fun wx => l02Needed_any p a b wx (by omega) (by omega)
          change ∀ wx, Calls _ _ _ _ fun e w' => e = .returned (.int .i64 (ffI p a b)) ∧ _ at hN
          generalize ffI p a b = r at *
          have HN := Lib.hid hN
          clear hN
          have k4 := inB_iff.1 h4
          go_enter Try.func42, Try.ntmps42
          go_wp2_with (first | (go_at_call 81; refine (l02Watts_any _ _).mono ?_; rintro e w' ⟨rfl, rfl⟩) | (go_at_call 70; refine (l02Degrees_any _ _).mono ?_; rintro e w' ⟨rfl, rfl⟩) | (go_at_call 78; refine (in_any _ _ _ _).mono ?_; rintro e w' ⟨rfl, rfl⟩) | (go_at_call 82; refine (HN.out _).mono ?_; rintro e w' ⟨rfl, hb'⟩; first | have hb := bnext hb hb' | have hb := bnext (bal hb _) hb' | have hb := bnext (bal (bal hb _) _) hb' | have hb := bnext (bal (bal (bal hb _) _) _) hb' | have hb := bnext (bal (bal (bal (bal hb _) _) _) _) hb' | have hb := bnext (bal (bal (bal (bal (bal hb _) _) _) _) _) hb'))
          go_ret2
          first | exact ⟨rfl, hb⟩ | exact ⟨rfl, (bal hb _)⟩ | exact ⟨rfl, (bal (bal hb _) _)⟩ | exact ⟨rfl, (bal (bal (bal hb _) _) _)⟩ | exact ⟨rfl, (bal (bal (bal (bal hb _) _) _) _)⟩ | exact ⟨rfl, (bal (bal (bal (bal (bal hb _) _) _) _) _)⟩
        · have h4' : (inB (ffI p a b) 0 100000) = false := by simpa using h4
          have hv : ffpV p a b = 0 := by unfold ffpV; simp [*]
          have hc : ffpC p a b = 6 := by unfold ffpC; simp [*]
          rw [hv, hc]
          clear hv hc
          have k1 := inB_iff.1 h1
          have k2 := inB_iff.1 h2
          have k3 := inB_iff.1 h3
          have k5 := ff_low p a b (by omega)
          have hN := fun wx => l02Needed_any p a b wx (by omega) (by omega)
          change ∀ wx, Calls _ _ _ _ fun e w' => e = .returned (.int .i64 (ffI p a b)) ∧ _ at hN
          generalize ffI p a b = r at *
          have HN := Lib.hid hN
          clear hN
          have k4 : 100000 < r := by
            by_cases hh : r ≤ 100000
            · exact absurd (inB_true ⟨k5, hh⟩) h4
            · omega
          clear h4
          go_enter Try.func42, Try.ntmps42
          go_wp2_with (first | (go_at_call 81; refine (l02Watts_any _ _).mono ?_; rintro e w' ⟨rfl, rfl⟩) | (go_at_call 70; refine (l02Degrees_any _ _).mono ?_; rintro e w' ⟨rfl, rfl⟩) | (go_at_call 78; refine (in_any _ _ _ _).mono ?_; rintro e w' ⟨rfl, rfl⟩) | (go_at_call 82; refine (HN.out _).mono ?_; rintro e w' ⟨rfl, hb'⟩; first | have hb := bnext hb hb' | have hb := bnext (bal hb _) hb' | have hb := bnext (bal (bal hb _) _) hb' | have hb := bnext (bal (bal (bal hb _) _) _) hb' | have hb := bnext (bal (bal (bal (bal hb _) _) _) _) hb' | have hb := bnext (bal (bal (bal (bal (bal hb _) _) _) _) _) hb'))
          go_ret2
          first | exact ⟨rfl, hb⟩ | exact ⟨rfl, (bal hb _)⟩ | exact ⟨rfl, (bal (bal hb _) _)⟩ | exact ⟨rfl, (bal (bal (bal hb _) _) _)⟩ | exact ⟨rfl, (bal (bal (bal (bal hb _) _) _) _)⟩ | exact ⟨rfl, (bal (bal (bal (bal (bal hb _) _) _) _) _)⟩
      · have h3' : (inB b 0 a) = false := by simpa using h3
        have hv : ffpV p a b = 0 := by unfold ffpV; simp [*]
        have hc : ffpC p a b = 2 := by unfold ffpC; simp [*]
        rw [hv, hc]
        clear hv hc
        go_enter Try.func42, Try.ntmps42
        go_wp2_with (first | (go_at_call 81; refine (l02Watts_any _ _).mono ?_; rintro e w' ⟨rfl, rfl⟩) | (go_at_call 70; refine (l02Degrees_any _ _).mono ?_; rintro e w' ⟨rfl, rfl⟩) | (go_at_call 78; refine (in_any _ _ _ _).mono ?_; rintro e w' ⟨rfl, rfl⟩) | (go_at_call 82; refine (HN.out _).mono ?_; rintro e w' ⟨rfl, hb'⟩; first | have hb := bnext hb hb' | have hb := bnext (bal hb _) hb' | have hb := bnext (bal (bal hb _) _) hb' | have hb := bnext (bal (bal (bal hb _) _) _) hb' | have hb := bnext (bal (bal (bal (bal hb _) _) _) _) hb' | have hb := bnext (bal (bal (bal (bal (bal hb _) _) _) _) _) hb'))
        go_ret2
        first | exact ⟨rfl, hb⟩ | exact ⟨rfl, (bal hb _)⟩ | exact ⟨rfl, (bal (bal hb _) _)⟩ | exact ⟨rfl, (bal (bal (bal hb _) _) _)⟩ | exact ⟨rfl, (bal (bal (bal (bal hb _) _) _) _)⟩ | exact ⟨rfl, (bal (bal (bal (bal (bal hb _) _) _) _) _)⟩
    · have h2' : (inB a 0 18000) = false := by simpa using h2
      have hv : ffpV p a b = 0 := by unfold ffpV; simp [*]
      have hc : ffpC p a b = 2 := by unfold ffpC; simp [*]
      rw [hv, hc]
      clear hv hc
      go_enter Try.func42, Try.ntmps42
      go_wp2_with (first | (go_at_call 81; refine (l02Watts_any _ _).mono ?_; rintro e w' ⟨rfl, rfl⟩) | (go_at_call 70; refine (l02Degrees_any _ _).mono ?_; rintro e w' ⟨rfl, rfl⟩) | (go_at_call 78; refine (in_any _ _ _ _).mono ?_; rintro e w' ⟨rfl, rfl⟩) | (go_at_call 82; refine (HN.out _).mono ?_; rintro e w' ⟨rfl, hb'⟩; first | have hb := bnext hb hb' | have hb := bnext (bal hb _) hb' | have hb := bnext (bal (bal hb _) _) hb' | have hb := bnext (bal (bal (bal hb _) _) _) hb' | have hb := bnext (bal (bal (bal (bal hb _) _) _) _) hb' | have hb := bnext (bal (bal (bal (bal (bal hb _) _) _) _) _) hb'))
      go_ret2
      first | exact ⟨rfl, hb⟩ | exact ⟨rfl, (bal hb _)⟩ | exact ⟨rfl, (bal (bal hb _) _)⟩ | exact ⟨rfl, (bal (bal (bal hb _) _) _)⟩ | exact ⟨rfl, (bal (bal (bal (bal hb _) _) _) _)⟩ | exact ⟨rfl, (bal (bal (bal (bal (bal hb _) _) _) _) _)⟩
  · have h1' : (inB p 0 100000000) = false := by simpa using h1
    have hv : ffpV p a b = 0 := by unfold ffpV; simp [*]
    have hc : ffpC p a b = 2 := by unfold ffpC; simp [*]
    rw [hv, hc]
    clear hv hc
    go_enter Try.func42, Try.ntmps42
    go_wp2_with (first | (go_at_call 81; refine (l02Watts_any _ _).mono ?_; rintro e w' ⟨rfl, rfl⟩) | (go_at_call 70; refine (l02Degrees_any _ _).mono ?_; rintro e w' ⟨rfl, rfl⟩) | (go_at_call 78; refine (in_any _ _ _ _).mono ?_; rintro e w' ⟨rfl, rfl⟩) | (go_at_call 82; refine (HN.out _).mono ?_; rintro e w' ⟨rfl, hb'⟩; first | have hb := bnext hb hb' | have hb := bnext (bal hb _) hb' | have hb := bnext (bal (bal hb _) _) hb' | have hb := bnext (bal (bal (bal hb _) _) _) hb' | have hb := bnext (bal (bal (bal (bal hb _) _) _) _) hb' | have hb := bnext (bal (bal (bal (bal (bal hb _) _) _) _) _) hb'))
    go_ret2
    first | exact ⟨rfl, hb⟩ | exact ⟨rfl, (bal hb _)⟩ | exact ⟨rfl, (bal (bal hb _) _)⟩ | exact ⟨rfl, (bal (bal (bal hb _) _) _)⟩ | exact ⟨rfl, (bal (bal (bal (bal hb _) _) _) _)⟩ | exact ⟨rfl, (bal (bal (bal (bal (bal hb _) _) _) _) _)⟩

set_option maxRecDepth 100000 in
theorem implFlowForPower_any (p a b : Int) (w : World) : Calls Try.prog 43 #[.int .i64 p, .int .i64 a, .int .i64 b] w fun e w' => e = .returned (.tuple #[.int .i64 (ffpV p a b), .int .i64 (ffpC p a b)]) ∧ Below w.heap.size w w' := by
  have hb : Below w.heap.size w w := Below.refl _ _
  have c0 : ((w.alloc (.cells #[.int .i64 a] 2)).alloc (.cells #[.int .i64 b] 2)).cell? ⟨w.heap.size, 0, none⟩ = some (.int .i64 a) := by rw [World.cell?_alloc2_first]; rfl
  have c1 : ((w.alloc (.cells #[.int .i64 a] 2)).alloc (.cells #[.int .i64 b] 2)).cell? ⟨w.heap.size + 1, 0, none⟩ = some (.int .i64 b) := by rw [World.cell?_alloc2_new]; rfl
  have C := Lib.hid (And.intro c0 c1)
  clear c0 c1
  by_cases h1 : inB p 0 100000000 = true
  · by_cases h2 : coolB a b = true
    · have k := h2
      unfold coolB at k
      rw [Bool.and_eq_true] at k
      have k2 := inB_iff.1 k.1
      have k3 := inB_iff.1 k.2
      have k5 := ff_low p a b (by omega)
      have hall : (inB p 0 100000000 && inB a 0 18000 && inB b 0 a) = true := by rw [h1, k.1, k.2]; rfl
      have hv : ffpV p a b = if inB (ffI p a b) 0 100000 then ffI p a b else 0 := by unfold ffpV; rw [hall, Bool.true_and]
      have hc : ffpC p a b = if inB (ffI p a b) 0 100000 then 0 else 6 := by unfold ffpC; rw [hall]; exact if_pos rfl
      rw [hv, hc]
      have hN := fun x y wx c0 c1 => firstFlow_any p a b x y wx c0 c1 (by omega) (by omega)
      clear hv hc hall k
      generalize ffI p a b = r at *
      have HN := Lib.hid hN
      clear hN
      by_cases h4 : r ≤ 100000
      · rw [if_pos (inB_true ⟨k5, h4⟩), if_pos (inB_true ⟨k5, h4⟩)]
        go_enter Try.func43, Try.ntmps43
        go_wp2_with fail
        refine (one64At _ _ _ _ _ _ (by simp) (by omega)).mono ?_
        rintro e w1 ⟨rfl, hb'⟩
        have hb := bnext (bal (bal hb _) _) hb'
        have d0 := (hb'.cell (p := ⟨w.heap.size, 0, none⟩) (World.block_lt_of_cell? _ _ C.out.1)).trans C.out.1
        have d1 := (hb'.cell (p := ⟨w.heap.size + 1, 0, none⟩) (World.block_lt_of_cell? _ _ C.out.2)).trans C.out.2
        have D := Lib.hid (And.intro d0 d1)
        go_wp2_with fail
        refine (isCooling_any _ _ _).mono ?_
        rintro e w2 ⟨rfl, hb''⟩
        have hb := bnext hb hb''
        have d0 := (hb''.cell (p := ⟨w.heap.size, 0, none⟩) (World.block_lt_of_cell? _ _ D.out.1)).trans D.out.1
        have d1 := (hb''.cell (p := ⟨w.heap.size + 1, 0, none⟩) (World.block_lt_of_cell? _ _ D.out.2)).trans D.out.2
        go_wp2_with fail
        refine (HN.out _ _ _ d0 d1).mono ?_
        rintro e w3 ⟨rfl, hb3⟩
        have hb := bnext hb hb3
        go_wp2
        go_ret2
        exact ⟨rfl, hb⟩
      · have h4' : 100000 < r := by omega
        rw [if_neg (by rw [inB_false (by omega)]; simp), if_neg (by rw [inB_false (by omega)]; simp)]
        go_enter Try.func43, Try.ntmps43
        go_wp2_with fail
        refine (one64At _ _ _ _ _ _ (by simp) (by omega)).mono ?_
        rintro e w1 ⟨rfl, hb'⟩
        have hb := bnext (bal (bal hb _) _) hb'
        have d0 := (hb'.cell (p := ⟨w.heap.size, 0, none⟩) (World.block_lt_of_cell? _ _ C.out.1)).trans C.out.1
        have d1 := (hb'.cell (p := ⟨w.heap.size + 1, 0, none⟩) (World.block_lt_of_cell? _ _ C.out.2)).trans C.out.2
        have D := Lib.hid (And.intro d0 d1)
        go_wp2_with fail
        refine (isCooling_any _ _ _).mono ?_
        rintro e w2 ⟨rfl, hb''⟩
        have hb := bnext hb hb''
        have d0 := (hb''.cell (p := ⟨w.heap.size, 0, none⟩) (World.block_lt_of_cell? _ _ D.out.1)).trans D.out.1
        have d1 := (hb''.cell (p := ⟨w.heap.size + 1, 0, none⟩) (World.block_lt_of_cell? _ _ D.out.2)).trans D.out.2
        go_wp2_with fail
        refine (HN.out _ _ _ d0 d1).mono ?_
        rintro e w3 ⟨rfl, hb3⟩
        have hb := bnext hb hb3
        go_wp2
        go_ret2
        exact ⟨rfl, hb⟩
    · have h2' : coolB a b = false := by simpa using h2
      have hall : (inB p 0 100000000 && inB a 0 18000 && inB b 0 a) = false := by
        unfold coolB at h2'
        rw [Bool.and_assoc, h2', Bool.and_false]
      have hv : ffpV p a b = 0 := by unfold ffpV; rw [hall, Bool.false_and]; rfl
      have hc : ffpC p a b = 2 := by unfold ffpC; rw [hall]; rfl
      rw [hv, hc]
      clear hv hc hall
      go_enter Try.func43, Try.ntmps43
      go_wp2_with fail
      refine (one64At _ _ _ _ _ _ (by simp) (by omega)).mono ?_
      rintro e w1 ⟨rfl, hb'⟩
      have hb := bnext (bal (bal hb _) _) hb'
      have d0 := (hb'.cell (p := ⟨w.heap.size, 0, none⟩) (World.block_lt_of_cell? _ _ C.out.1)).trans C.out.1
      have d1 := (hb'.cell (p := ⟨w.heap.size + 1, 0, none⟩) (World.block_lt_of_cell? _ _ C.out.2)).trans C.out.2
      go_wp2_with ((go_at_call 80; refine (isCooling_any _ _ _).mono ?_; rintro e w' ⟨rfl, hb'⟩; first | have hb := bnext hb hb' | have hb := bnext (bal hb _) hb' | have hb := bnext (bal (bal hb _) _) hb' | have hb := bnext (bal (bal (bal hb _) _) _) hb' | have hb := bnext (bal (bal (bal (bal hb _) _) _) _) hb' | have hb := bnext (bal (bal (bal (bal (bal hb _) _) _) _) _) hb'))
      go_ret2
      exact ⟨rfl, hb⟩
  · have h1' : inB p 0 100000000 = false := by simpa using h1
    have hv : ffpV p a b = 0 := by unfold ffpV; rw [h1']; rfl
    have hc : ffpC p a b = 2 := by unfold ffpC; rw [h1']; rfl
    rw [hv, hc]
    clear hv hc
    go_enter Try.func43, Try.ntmps43
    go_wp2_with ((go_at_call 66; refine (one64At _ _ _ _ _ _ (by simp) (by omega)).mono ?_; rintro e w' ⟨rfl, hb'⟩; first | have hb := bnext hb hb' | have hb := bnext (bal hb _) hb' | have hb := bnext (bal (bal hb _) _) hb' | have hb := bnext (bal (bal (bal hb _) _) _) hb' | have hb := bnext (bal (bal (bal (bal hb _) _) _) _) hb' | have hb := bnext (bal (bal (bal (bal (bal hb _) _) _) _) _) hb'))
    go_ret2
    exact ⟨rfl, hb⟩

end Go.Proofs.Ytjabcoanpinpiaa
