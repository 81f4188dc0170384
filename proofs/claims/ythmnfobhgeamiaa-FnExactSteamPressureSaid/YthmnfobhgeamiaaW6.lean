/-
  SteamPressure and FlowForPower: both sides answer the least place at which a curve, or a power, reaches what is asked.
-/
import Derived.Test.YthmnfobhgeamiaaW4
namespace Go.Proofs.Ythmnfobhgeamiaa
open Go.ChangeShapes Go.WideShapes Go.ChangeAt Go.RowKit Go.Shelf


def stmI (t : Int) : Int := leastI 1000 1200000 t boilI
theorem l02Pressure_any (g : Int) (w : World) (ht : g ≤ 18796) : Calls Try.prog 50 #[.int .i64 g] w fun e w' => e = .returned (.int .i64 (leastI 1000 1200000 g boilI)) ∧ Below w.heap.size w w' := by
  have hL := leastI_spec 1000 1200000 g boilI (by omega) (fun x y _ a _ => boil_mono x y a)
  have HL := Lib.hid hL
  have hm : ∀ x y, 1000 ≤ x → x ≤ y → y ≤ 1200000 → boilI x ≤ boilI y := fun x y _ a _ => boil_mono x y a
  have HM := Lib.hid hm
  have HT : Hid (g ≤ boilI 1200000) := Lib.hid (by rw [boil_top _ (by omega)]; exact ht)
  clear hL hm
  generalize leastI 1000 1200000 g boilI = R at HL ⊢
  go_enter Try.func50, Try.ntmps50
  go_wp2
  go_loopw [3, 4] (fun va vb wr => ∃ l h : Int, va = .int .i64 l ∧ vb = .int .i64 h ∧ 1000 - 1 ≤ l ∧ l < h ∧ h ≤ 1200000 ∧ Below w.heap.size w wr ∧ Hid ((1000 ≤ l → boilI l < g) ∧ (h ≤ 1200000 → g ≤ boilI h))) (fun va vb _ => (intOf vb - intOf va).toNat)
  case atStart => exact ⟨_, _, rfl, rfl, by omega, by omega, by omega, Below.refl _ _, Lib.hid ⟨fun h => by omega, fun h => HT.out⟩⟩
  case round =>
    obtain ⟨l, h, rfl, rfl, h0, h1, h2, hb, I⟩ := hrel
    by_cases hlt : 1 < h - l
    · have hq0 : l < (l + h) / 2 := by omega
      have hq1 : (l + h) / 2 < h := by omega
      have hs0 : 0 ≤ l + h := by omega
      by_cases hg : g ≤ boilI ((l + h) / 2)
      · have hg' : decide (g ≤ boilI ((l + h) / 2)) = true := by simpa using hg
        have HG := Lib.hid hg
        clear hg
        go_wp2_with ((go_at_call 47; refine (l02Boiling_any _ _).mono ?_; rintro e w' ⟨rfl, hb'⟩; have hb := bnext hb hb'))
        go_roundw
        case rel => exact ⟨l, (l + h) / 2, rfl, rfl, h0, hq0, by omega, hb, Lib.hid ⟨I.out.1, fun _ => HG.out⟩⟩
        case measure => simp [intOf]; omega
      · have hg' : decide (g ≤ boilI ((l + h) / 2)) = false := by simpa using hg
        have HG := Lib.hid hg
        clear hg
        go_wp2_with ((go_at_call 47; refine (l02Boiling_any _ _).mono ?_; rintro e w' ⟨rfl, hb'⟩; have hb := bnext hb hb'))
        go_roundw
        case rel => exact ⟨(l + h) / 2, h, rfl, rfl, by omega, hq1, h2, hb, Lib.hid ⟨fun _ => by have := HG.out; omega, I.out.2⟩⟩
        case measure => simp [intOf]; omega
    · have hR : h = R := (least_of_pair HM.out (by omega : h = l + 1) h0 (by omega) I.out.1 I.out.2).eq HL.out
      subst hR
      go_wp2
      go_ret
      exact ⟨rfl, hb⟩

theorem firstSteam_any (t : Int) (w : World) : Calls Try.prog 51 #[.int .i64 1000, .int .i64 1200000, .int .i64 t, .func (.func 45) #[.agg (ptsV boilPts)] #[]] w fun e w' => e = .returned (.int .i64 (stmI t)) ∧ Below w.heap.size w w' :=
  firstFrom_any 45 #[.agg (ptsV boilPts)] #[] 1000 1200000 t boilI w (enters_of Try.func45 (by kernel_rfl) rfl) (by omega) (by omega) (by omega)
    (fun wr x _ _ _ => by simpa using boilAt_any x wr) (fun x y _ a _ => boil_mono x y a)

def stmV (t : Int) : Int := if inB t 0 18000 then stmI t else 0
def stmC (t : Int) : Int := if inB t 0 18000 then 0 else 2

theorem specSteamPressure_any (t : Int) (w : World) : Calls Try.prog 19 #[.int .i64 t] w fun e w' => e = .returned (.tuple #[.int .i64 (stmV t), .int .i64 (stmC t)]) ∧ Below w.heap.size w w' := by
  have hb : Below w.heap.size w w := Below.refl _ _
  by_cases h1 : inB t 0 18000 = true
  · skip
    have hv : stmV t = stmI t := by unfold stmV; simp [*]
    have hc : stmC t = 0 := by unfold stmC; simp [*]
    rw [hv, hc]
    clear hv hc
    have k1 := inB_iff.1 h1
    unfold stmI
    go_enter Try.func19, Try.ntmps19
    go_wp2_with (first | (go_at_call 41; refine (l02Degrees_any _ _).mono ?_; rintro e w' ⟨rfl, rfl⟩) | (go_at_call 50; refine (l02Pressure_any _ _ (by omega)).mono ?_; rintro e w' ⟨rfl, hb'⟩; first | have hb := bnext hb hb' | have hb := bnext (bal hb _) hb' | have hb := bnext (bal (bal hb _) _) hb' | have hb := bnext (bal (bal (bal hb _) _) _) hb' | have hb := bnext (bal (bal (bal (bal hb _) _) _) _) hb' | have hb := bnext (bal (bal (bal (bal (bal hb _) _) _) _) _) hb'))
    go_ret2
    first | exact ⟨rfl, hb⟩ | exact ⟨rfl, (bal hb _)⟩ | exact ⟨rfl, (bal (bal hb _) _)⟩ | exact ⟨rfl, (bal (bal (bal hb _) _) _)⟩ | exact ⟨rfl, (bal (bal (bal (bal hb _) _) _) _)⟩ | exact ⟨rfl, (bal (bal (bal (bal (bal hb _) _) _) _) _)⟩
  · have h1' : (inB t 0 18000) = false := by simpa using h1
    have hv : stmV t = 0 := by unfold stmV; simp [*]
    have hc : stmC t = 2 := by unfold stmC; simp [*]
    rw [hv, hc]
    clear hv hc
    go_enter Try.func19, Try.ntmps19
    go_wp2_with (first | (go_at_call 41; refine (l02Degrees_any _ _).mono ?_; rintro e w' ⟨rfl, rfl⟩) | (go_at_call 50; refine (l02Pressure_any _ _ (by omega)).mono ?_; rintro e w' ⟨rfl, hb'⟩; first | have hb := bnext hb hb' | have hb := bnext (bal hb _) hb' | have hb := bnext (bal (bal hb _) _) hb' | have hb := bnext (bal (bal (bal hb _) _) _) hb' | have hb := bnext (bal (bal (bal (bal hb _) _) _) _) hb' | have hb := bnext (bal (bal (bal (bal (bal hb _) _) _) _) _) hb'))
    go_ret2
    first | exact ⟨rfl, hb⟩ | exact ⟨rfl, (bal hb _)⟩ | exact ⟨rfl, (bal (bal hb _) _)⟩ | exact ⟨rfl, (bal (bal (bal hb _) _) _)⟩ | exact ⟨rfl, (bal (bal (bal (bal hb _) _) _) _)⟩ | exact ⟨rfl, (bal (bal (bal (bal (bal hb _) _) _) _) _)⟩

theorem implSteamPressure_any (t : Int) (w : World) : Calls Try.prog 20 #[.int .i64 t] w fun e w' => e = .returned (.tuple #[.int .i64 (stmV t), .int .i64 (stmC t)]) ∧ Below w.heap.size w w' := by
  have hb : Below w.heap.size w w := Below.refl _ _
  by_cases h1 : inB t 0 18000 = true
  · skip
    have hv : stmV t = stmI t := by unfold stmV; simp [*]
    have hc : stmC t = 0 := by unfold stmC; simp [*]
    rw [hv, hc]
    clear hv hc
    go_enter Try.func20, Try.ntmps20
    go_wp2_with (first | (first | (go_at_call 48; refine (one64At _ _ _ _ _ _ (by simp) (by omega)).mono ?_; rintro e w' ⟨rfl, hb'⟩; first | have hb := bnext hb hb' | have hb := bnext (bal hb _) hb' | have hb := bnext (bal (bal hb _) _) hb' | have hb := bnext (bal (bal (bal hb _) _) _) hb' | have hb := bnext (bal (bal (bal (bal hb _) _) _) _) hb' | have hb := bnext (bal (bal (bal (bal (bal hb _) _) _) _) _) hb') | (go_at_call 43; refine (water1At _ _ _ _ (by simp)).mono ?_; rintro e w' ⟨rfl, hb'⟩; first | have hb := bnext hb hb' | have hb := bnext (bal hb _) hb' | have hb := bnext (bal (bal hb _) _) hb' | have hb := bnext (bal (bal (bal hb _) _) _) hb' | have hb := bnext (bal (bal (bal (bal hb _) _) _) _) hb' | have hb := bnext (bal (bal (bal (bal (bal hb _) _) _) _) _) hb') | (go_at_call 59; refine (power1At _ _ _ _ (by simp)).mono ?_; rintro e w' ⟨rfl, hb'⟩; first | have hb := bnext hb hb' | have hb := bnext (bal hb _) hb' | have hb := bnext (bal (bal hb _) _) hb' | have hb := bnext (bal (bal (bal hb _) _) _) hb' | have hb := bnext (bal (bal (bal (bal hb _) _) _) _) hb' | have hb := bnext (bal (bal (bal (bal (bal hb _) _) _) _) _) hb')) | (go_at_call 49; refine (boilingPoints_any _).mono ?_; rintro e w' ⟨rfl, hb'⟩; first | have hb := bnext hb hb' | have hb := bnext (bal hb _) hb' | have hb := bnext (bal (bal hb _) _) hb' | have hb := bnext (bal (bal (bal hb _) _) _) hb' | have hb := bnext (bal (bal (bal (bal hb _) _) _) _) hb' | have hb := bnext (bal (bal (bal (bal (bal hb _) _) _) _) _) hb') | (go_at_call 51; refine (firstSteam_any _ _).mono ?_; rintro e w' ⟨rfl, hb'⟩; first | have hb := bnext hb hb' | have hb := bnext (bal hb _) hb' | have hb := bnext (bal (bal hb _) _) hb' | have hb := bnext (bal (bal (bal hb _) _) _) hb' | have hb := bnext (bal (bal (bal (bal hb _) _) _) _) hb' | have hb := bnext (bal (bal (bal (bal (bal hb _) _) _) _) _) hb'))
    go_ret2
    first | exact ⟨rfl, hb⟩ | exact ⟨rfl, (bal hb _)⟩ | exact ⟨rfl, (bal (bal hb _) _)⟩ | exact ⟨rfl, (bal (bal (bal hb _) _) _)⟩ | exact ⟨rfl, (bal (bal (bal (bal hb _) _) _) _)⟩ | exact ⟨rfl, (bal (bal (bal (bal (bal hb _) _) _) _) _)⟩
  · have h1' : (inB t 0 18000) = false := by simpa using h1
    have hv : stmV t = 0 := by unfold stmV; simp [*]
    have hc : stmC t = 2 := by unfold stmC; simp [*]
    rw [hv, hc]
    clear hv hc
    go_enter Try.func20, Try.ntmps20
    go_wp2_with (first | (first | (go_at_call 48; refine (one64At _ _ _ _ _ _ (by simp) (by omega)).mono ?_; rintro e w' ⟨rfl, hb'⟩; first | have hb := bnext hb hb' | have hb := bnext (bal hb _) hb' | have hb := bnext (bal (bal hb _) _) hb' | have hb := bnext (bal (bal (bal hb _) _) _) hb' | have hb := bnext (bal (bal (bal (bal hb _) _) _) _) hb' | have hb := bnext (bal (bal (bal (bal (bal hb _) _) _) _) _) hb') | (go_at_call 43; refine (water1At _ _ _ _ (by simp)).mono ?_; rintro e w' ⟨rfl, hb'⟩; first | have hb := bnext hb hb' | have hb := bnext (bal hb _) hb' | have hb := bnext (bal (bal hb _) _) hb' | have hb := bnext (bal (bal (bal hb _) _) _) hb' | have hb := bnext (bal (bal (bal (bal hb _) _) _) _) hb' | have hb := bnext (bal (bal (bal (bal (bal hb _) _) _) _) _) hb') | (go_at_call 59; refine (power1At _ _ _ _ (by simp)).mono ?_; rintro e w' ⟨rfl, hb'⟩; first | have hb := bnext hb hb' | have hb := bnext (bal hb _) hb' | have hb := bnext (bal (bal hb _) _) hb' | have hb := bnext (bal (bal (bal hb _) _) _) hb' | have hb := bnext (bal (bal (bal (bal hb _) _) _) _) hb' | have hb := bnext (bal (bal (bal (bal (bal hb _) _) _) _) _) hb')) | (go_at_call 49; refine (boilingPoints_any _).mono ?_; rintro e w' ⟨rfl, hb'⟩; first | have hb := bnext hb hb' | have hb := bnext (bal hb _) hb' | have hb := bnext (bal (bal hb _) _) hb' | have hb := bnext (bal (bal (bal hb _) _) _) hb' | have hb := bnext (bal (bal (bal (bal hb _) _) _) _) hb' | have hb := bnext (bal (bal (bal (bal (bal hb _) _) _) _) _) hb') | (go_at_call 51; refine (firstSteam_any _ _).mono ?_; rintro e w' ⟨rfl, hb'⟩; first | have hb := bnext hb hb' | have hb := bnext (bal hb _) hb' | have hb := bnext (bal (bal hb _) _) hb' | have hb := bnext (bal (bal (bal hb _) _) _) hb' | have hb := bnext (bal (bal (bal (bal hb _) _) _) _) hb' | have hb := bnext (bal (bal (bal (bal (bal hb _) _) _) _) _) hb'))
    go_ret2
    first | exact ⟨rfl, hb⟩ | exact ⟨rfl, (bal hb _)⟩ | exact ⟨rfl, (bal (bal hb _) _)⟩ | exact ⟨rfl, (bal (bal (bal hb _) _) _)⟩ | exact ⟨rfl, (bal (bal (bal (bal hb _) _) _) _)⟩ | exact ⟨rfl, (bal (bal (bal (bal (bal hb _) _) _) _) _)⟩

def ffI (p a b : Int) : Int := leastI 0 100000 p (fun q => wattI q (a - b))
theorem watt_mono (q r d : Int) (h : q ≤ r) (hd : 0 ≤ d) : wattI q d ≤ wattI r d :=
  nearI_mono _ _ _ (by omega) (Int.mul_le_mul_of_nonneg_right (by omega) hd)

def ffpV (p : Int) (a : Int) (b : Int) : Int := if inB p 0 100000000 && inB a 0 18000 && inB b 0 a && inB (ffI p a b) 0 100000 then ffI p a b else 0
def ffpC (p : Int) (a : Int) (b : Int) : Int := if inB p 0 100000000 && inB a 0 18000 && inB b 0 a then (if inB (ffI p a b) 0 100000 then 0 else 6) else 2

theorem ff_low (p a b : Int) (h : 0 ≤ a - b) : 0 ≤ ffI p a b := (leastI_spec 0 100000 p (fun q => wattI q (a - b)) (by omega) (fun x y _ h _ => watt_mono x y _ h (by omega))).1

end Go.Proofs.Ythmnfobhgeamiaa
