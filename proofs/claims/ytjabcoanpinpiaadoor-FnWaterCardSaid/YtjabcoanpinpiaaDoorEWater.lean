/-
  FnWater: for every input the law returns true and its arguments read as before. No condition.
-/
import Derived.Test.YtjabcoanpinpiaaDoorU2
import Derived.Test.YtjabcoanpinpiaaDoorV4
import Derived.Test.YtjabcoanpinpiaaDoorW6
import Derived.Test.YtjabcoanpinpiaaDoorL1
import Derived.Deep.DeepCutAuto
import Derived.Test.YtjabcoanpinpiaaDoorCards
import Derived.Test.YtjabcoanpinpiaaDoorTie
import Derived.Test.YtjabcoanpinpiaaDoorG0
import Derived.Deep.DeepHandedRow
import Derived.Deep.DeepWitnessRowRef
import Derived.LaidMore
import Derived.Lay
import Derived.Lib.LaidTab
import Derived.ShutString
import Derived.ChangeOld
namespace Go.Proofs.YtjabcoanpinpiaaDoor.fnWater
open Go.ChangeShapes Go.WideShapes Go.ChangeAt Go.RowKit
open Go.ChangeMaps (open_string shut_string)
set_option linter.unusedVariables false

def Facts (w : World) : Prop := MaxVar w ∧ ErrVars w ∧ PowTab w
theorem laid_facts {W : World} (h : laidMetH Tryd.prog Rows.fnWaterRow.laid W) (hS : W.ShapedOpen Tryd.prog) : Facts W := by
  rw [MakeChecks.laidMetH_plain _ _ _ (by kernel_rfl)] at h
  exact ⟨maxVar_shaped hS, errVars_laid h.tail.tail.tail.tail, powTab_laid h.tail.tail⟩
theorem Facts.next {w w' : World} (h : Facts w) (hb : Below w.heap.size w w') : Facts w' := ⟨h.1.next hb, h.2.1.next hb, h.2.2.next hb⟩
theorem dens_fact (t : Int) : densC t = 0 → densC (t + 1) = 0 → densV (t + 1) ≤ densV t := fun h1 h2 => by
  unfold densC at h1 h2
  unfold densV
  by_cases a : inB t 0 18000 = true
  · by_cases b : inB (t + 1) 0 18000 = true
    · rw [if_pos a, if_pos b]
      exact dens_mono _ _ (by omega)
    · rw [if_neg b] at h2; cases h2
  · rw [if_neg a] at h1; cases h1
theorem bLong_no (A : Option Addr) (c n : Nat) (w : World) (hn : n ≤ 1048576) :
    Calls Tryd.prog 4 #[.slice A n c] w fun e w' => e = .returned (.bool false) ∧ w = w' := by
  have h1 : ¬ (1048576 : Int) < (n : Int) := by omega
  go_enter Tryd.func4, Tryd.ntmps4
  go_wp2
  go_ret
  exact ⟨rfl, rfl⟩
theorem bLong_yes (A : Option Addr) (c n : Nat) (w : World) (hn : 1048576 < n) (hn1 : n ≤ 9223372036854775807) :
    Calls Tryd.prog 4 #[.slice A n c] w fun e w' => e = .returned (.bool true) ∧ w = w' := by
  have h1 : (1048576 : Int) < (n : Int) := by omega
  go_enter Tryd.func4, Tryd.ntmps4
  go_wp2
  go_ret
  exact ⟨rfl, rfl⟩
theorem boil_lim (p : Int) : 700 ≤ boilI p ∧ boilI p ≤ 18796 := boil_bd p
theorem steam_in (t : Int) (w : World) (h : inB t 0 18000 = true) :
    Calls Tryd.prog 7 #[.int .i64 t] w fun e w' => ∃ p : Int, e = .returned (.tuple #[.int .i64 p, .int .i64 0]) ∧ 1000 ≤ p ∧ p ≤ 1200000 ∧ t ≤ boilI p ∧ (1000 < p → boilI (p - 1) < t) ∧ Below w.heap.size w w' := by
  have k := implSteamPressure_any t w
  simp only [stmV, stmC, h, if_true] at k
  have hb := inB_iff.1 h
  obtain ⟨l1, l2, l3, l4⟩ := leastI_spec 1000 1200000 t boilI (by omega) (fun x y _ a _ => boil_mono x y a)
  have e : boilI 1200000 = 18796 := by decide +kernel
  have hp : stmI t ≤ 1200000 := by
    by_cases hh : stmI t ≤ 1200000
    · exact hh
    · have := l3 1200000 (by omega) (by unfold stmI at hh; omega)
      omega
  exact k.mono fun _ _ ⟨he, hw⟩ => ⟨_, he, l1, hp, l4 hp, fun h => l3 _ (by omega) (by unfold stmI; omega), hw⟩
theorem steam_out (t : Int) (w : World) (h : inB t 0 18000 = false) :
    Calls Tryd.prog 7 #[.int .i64 t] w fun e w' => e = .returned (.tuple #[.int .i64 0, .int .i64 2]) ∧ Below w.heap.size w w' := by
  have k := implSteamPressure_any t w
  simp only [stmV, stmC, h, Bool.false_eq_true, if_false] at k
  exact k
theorem boil_in (p : Int) (w : World) (h0 : 1000 ≤ p) (h1 : p ≤ 1200000) :
    Calls Tryd.prog 8 #[.int .i64 p] w fun e w' => e = .returned (.tuple #[.int .i64 (boilI p), .int .i64 0]) ∧ Below w.heap.size w w' := by
  have k := implBoilingAt_any p w
  have h : inB p 1000 1200000 = true := inB_true ⟨h0, h1⟩
  simp only [boilV, boilC, h, if_true] at k
  exact k
theorem boil_ex (p : Int) (w : World) :
    Calls Tryd.prog 8 #[.int .i64 p] w fun e w' => ∃ l lc : Int, e = .returned (.tuple #[.int .i64 l, .int .i64 lc]) ∧ (lc = 0 → l = boilI p ∧ 1000 ≤ p) ∧ Below w.heap.size w w' :=
  (implBoilingAt_any p w).mono fun _ _ ⟨he, hw⟩ => ⟨_, _, he, (fun h => by
    unfold boilC at h
    by_cases hp : inB p 1000 1200000 = true
    · exact ⟨by unfold boilV; rw [if_pos hp], (inB_iff.1 hp).1⟩
    · rw [if_neg hp] at h; cases h), hw⟩
theorem marg_in (p t : Int) (w : World) (h0 : 1000 ≤ p) (h1 : p ≤ 1200000) (t0 : 0 ≤ t) (t1 : t ≤ 18000) :
    Calls Tryd.prog 9 #[.int .i64 p, .int .i64 t] w fun e w' => e = .returned (.tuple #[.int .i64 (boilI p - t), .int .i64 0]) ∧ Below w.heap.size w w' := by
  have k := implMarginTo_any p t w
  have h : inB p 1000 1200000 = true := inB_true ⟨h0, h1⟩
  have h2 : inB t 0 18000 = true := inB_true ⟨t0, t1⟩
  simp only [margV, margC, h, h2, Bool.and_self, if_true] at k
  exact k
theorem flow_fact (p a d : Int) (w : World) :
    Calls Tryd.prog 11 #[.int .i64 p, .int .i64 a, .int .i64 d] w fun e w' => ∃ q qc : Int, e = .returned (.tuple #[.int .i64 q, .int .i64 qc]) ∧ (qc = 0 → 0 ≤ q ∧ q ≤ 100000 ∧ 0 ≤ a ∧ a ≤ 18000 ∧ 0 ≤ d ∧ d ≤ a ∧ p ≤ wattI q (a - d) ∧ (0 < q → wattI (q - 1) (a - d) < p)) ∧ Below w.heap.size w w' :=
  (implFlowForPower_any p a d w).mono fun _ _ ⟨he, hw⟩ => ⟨_, _, he, (fun h => by
    unfold ffpC at h
    by_cases h1 : (inB p 0 100000000 && inB a 0 18000 && inB d 0 a) = true
    · rw [if_pos h1] at h
      by_cases h2 : inB (ffI p a d) 0 100000 = true
      · have hv : ffpV p a d = ffI p a d := by
          unfold ffpV
          rw [if_pos (by rw [h1, h2]; rfl)]
        rw [Bool.and_eq_true, Bool.and_eq_true] at h1
        have ha := inB_iff.1 h1.1.2
        have hd := inB_iff.1 h1.2
        have hq := inB_iff.1 h2
        obtain ⟨l1, l2, l3, l4⟩ := leastI_spec 0 100000 p (fun q => wattI q (a - d)) (by omega) (fun x y _ h _ => watt_mono x y _ h (by omega))
        rw [hv]
        exact ⟨hq.1, hq.2, ha.1, ha.2, hd.1, hd.2, l4 hq.2, fun k => l3 _ (by omega) (by unfold ffI; omega)⟩
      · rw [if_neg h2] at h; cases h
    · rw [if_neg h1] at h; cases h), hw⟩
theorem heat_ex (q a d : Int) (w : World) :
    Calls Tryd.prog 12 #[.int .i64 q, .int .i64 a, .int .i64 d] w fun e w' => ∃ y yc : Int, e = .returned (.tuple #[.int .i64 y, .int .i64 yc]) ∧ (0 ≤ q → q ≤ 100000 → 0 ≤ a → a ≤ 18000 → 0 ≤ d → d ≤ a → y = wattI q (a - d) ∧ yc = 0) ∧ Below w.heap.size w w' :=
  (implHeatPower_any q a d w).mono fun _ _ ⟨he, hw⟩ => ⟨_, _, he, fun h0 h1 h2 h3 h4 h5 => by
    have e1 : inB q 0 100000 = true := inB_true ⟨h0, h1⟩
    have e2 : inB a 0 18000 = true := inB_true ⟨h2, h3⟩
    have e3 : inB d 0 a = true := inB_true ⟨h4, h5⟩
    simp only [hpV, hpC, e1, e2, e3, Bool.and_self, if_true, and_self], hw⟩
theorem heat_in (q a d : Int) (w : World) (h0 : 0 ≤ q) (h1 : q ≤ 100000) (h2 : 0 ≤ a) (h3 : a ≤ 18000) (h4 : 0 ≤ d) (h5 : d ≤ a) :
    Calls Tryd.prog 12 #[.int .i64 q, .int .i64 a, .int .i64 d] w fun e w' => e = .returned (.tuple #[.int .i64 (wattI q (a - d)), .int .i64 0]) ∧ Below w.heap.size w w' :=
  (heat_ex q a d w).mono fun _ _ ⟨y, yc, he, hf, hw⟩ => by
    obtain ⟨rfl, rfl⟩ := hf h0 h1 h2 h3 h4 h5
    exact ⟨he, hw⟩
theorem text_small (z : Int) : (mkB (degT z)).size ≤ 1048576 := by
  unfold degT
  by_cases h : inB z (-99999) 99999 = true
  · rw [if_pos h]
    have hb := inB_iff.1 h
    have ha := absI_bd z 99999 hb.1 hb.2
    have e : ∀ x : Int, 0 ≤ x → x ≤ 1000000 → (Lib.itoa x).length ≤ 21 := fun x h0 h1 => Lib.itoa_length_le x (by omega) (by omega)
    have e1 := e (absI z / 100) (by omega) (by omega)
    have e2 := e (absI z / 10 % 10) (by omega) (by omega)
    have e3 := e (absI z % 10) (by omega) (by omega)
    have e4 : (if z < 0 then [45] else ([] : List UInt8)).length ≤ 1 := by split <;> simp
    show (degL z).length ≤ _
    unfold degL
    simp only [List.length_append, List.length_cons, List.length_nil]
    omega
  · rw [if_neg h]
    show 0 ≤ 1048576
    omega
/-- the text of a number within its limits is read back; there is no text of another one, and the empty text is none's -/
theorem text_fact (z : Int) : ∀ o, DegOf (mkB (degT z)).data.toList o → (mkB (degT z) = ⟨#[]⟩ ∧ o = none) ∨ ((mkB (degT z)).size ≠ 0 ∧ o = some z) := by
  intro o ho
  have e : (mkB (degT z)).data.toList = degT z := rfl
  rw [e] at ho
  by_cases h : inB z (-99999) 99999 = true
  · right
    have hv : degT z = degL z := if_pos h
    rw [hv] at ho ⊢
    refine ⟨?_, degOf_same ho ⟨fun t k => by obtain ⟨rfl⟩ := k; exact ⟨h, rfl⟩, fun k => by cases k⟩⟩
    show (degL z).length ≠ 0
    rw [sgn_parts]
    simp
  · left
    have hv : degT z = [] := if_neg h
    rw [hv] at ho ⊢
    refine ⟨rfl, degOf_same ho ⟨fun t k => (by cases k), fun _ t _ k => ?_⟩⟩
    rw [sgn_parts] at k
    simp at k
set_option maxRecDepth 100000
set_option maxHeartbeats 6400000

theorem walk (a0 : Option Addr) (len0 cap0 : Nat) (z0 : List Int) (a1 : Option Addr) (len1 cap1 : Nat) (z1 : List Int) (w : World) (w0 : SliceIn .u8 w a0 len0 z0) (w1 : SliceIn .u8 w a1 len1 z1) (hL : Facts w) :
    Calls Tryd.prog 3 #[.slice a0 len0 cap0, .slice a1 len1 cap1] w fun e w' => e = .returned (.bool true) ∧ Below w.heap.size w w' := by
  have w1a := w1
  clear w1
  have hn0 : len0 ≤ 9223372036854775807 := by have := w0.2.1; unfold maxLen at this; omega
  have hn1 : len1 ≤ 9223372036854775807 := by have := w1a.2.1; unfold maxLen at this; omega
  by_cases hz0 : len0 ≤ 1048576
  · by_cases hz1 : len1 ≤ 1048576
    · skip
      go_enter Tryd.func3, Tryd.ntmps3
      go_wp2_with fail
      refine (bLong_no a0 cap0 len0 _ hz0).mono ?_
      rintro e w' ⟨rfl, rfl⟩
      go_wp2_with fail
      refine (bLong_no a1 cap1 len1 _ hz1).mono ?_
      rintro e w' ⟨rfl, rfl⟩
      go_wp2_with fail
      refine (drawWaterDensity_any a0 len0 cap0 z0 _ w0).mono ?_
      rintro e w1 ⟨t, rfl, ht0, ht1, hb⟩
      go_wp2_with fail
      refine (implWaterDensity_any t _).mono ?_
      rintro e w2 ⟨rfl, hb2⟩
      have hb := bnext hb hb2
      go_wp2_with fail
      refine (implWaterDensity_any (t + 1) _).mono ?_
      rintro e w3 ⟨rfl, hb3⟩
      have hb := bnext hb hb3
      have hF := dens_fact t
      generalize densV t = d at *
      generalize densC t = dc at *
      generalize densV (t + 1) = v at *
      generalize densC (t + 1) = vc at *
      have HF := Lib.hid hF
      clear hF hb2 hb3
      go_upto_region 6 with fail
      go_cut [60] (fun s60 wx => s60 = .bool false ∧ Below w.heap.size w wx)
      case first =>
        by_cases hdc : dc = 0
        · by_cases hvc : vc = 0
          · have hvd := HF.out hdc hvc
            subst hdc
            subst hvc
            go_wp2_with fail
            all_goals (go_meet; exact ⟨by first | rfl | (simp; omega), hb⟩)
          · subst hdc
            go_wp2_with fail
            all_goals (go_meet; exact ⟨by first | rfl | (simp; omega), hb⟩)
        · go_wp2_with fail
          all_goals (go_meet; exact ⟨by first | rfl | (simp; omega), hb⟩)
      case rest =>
        clear HF hb
        obtain ⟨rfl, hA⟩ := hcut
        by_cases hT : inB t 0 18000 = true
        · have hTb := inB_iff.1 hT
          go_wp2_with fail
          refine (steam_in t _ hT).mono ?_
          rintro e v1 ⟨p, rfl, hp0, hp1, hpt, hpl, hv1⟩
          have hB1 := bnext hA hv1
          go_wp2_with fail
          refine (boil_in p _ hp0 hp1).mono ?_
          rintro e v2 ⟨rfl, hv2⟩
          have hB2 := bnext hB1 hv2
          go_wp2_with fail
          refine (boil_ex (p - 1) _).mono ?_
          rintro e v3 ⟨l, lc, rfl, hll, hv3⟩
          have hB3 := bnext hB2 hv3
          go_wp2_with fail
          refine (marg_in p t _ hp0 hp1 hTb.1 hTb.2).mono ?_
          rintro e v4 ⟨rfl, hv4⟩
          have hB4 := bnext hB3 hv4
          have hlf : lc = 0 → l < t := fun h => by
            obtain ⟨e1, e2⟩ := hll h
            rw [e1]
            exact hpl (by omega)
          have hbb := boil_lim p
          generalize boilI p = b at *
          have HLF := Lib.hid hlf
          clear hll hlf hpl hv1 hv2 hv3 hv4 hB1 hB2 hB3
          have hmm : ((b - t) != (b - t)) = false := by simp
          go_upto_region 13 with fail
          go_cut [111] (fun s111 wx => s111 = .bool false ∧ Below w.heap.size w wx)
          case first =>
            by_cases hlc : lc = 0
            · have hlt := HLF.out hlc
              subst hlc
              go_wp2_with fail
              all_goals (go_meet; exact ⟨by first | rfl | (simp; omega), hB4⟩)
            · go_wp2_with fail
              all_goals (go_meet; exact ⟨by first | rfl | (simp; omega), hB4⟩)
          case rest =>
            clear HLF hmm hB4
            obtain ⟨rfl, hB⟩ := hcut
            go_wp2_with fail
            refine (drawFlowForPower_any a1 len1 cap1 z1 _ (w1a.next hB)).mono ?_
            rintro e y1 ⟨pw, wa, co, rfl, hpw, hwa, hco, hy1⟩
            have hC1 := bnext hB hy1
            go_wp2_with fail
            refine (flow_fact pw wa co _).mono ?_
            rintro e y2 ⟨q, qc, rfl, hqq, hy2⟩
            have hC2 := bnext hC1 hy2
            clear hy1 hy2 hC1
            by_cases hc : qc = 0
            · subst hc
              obtain ⟨hq0, hq1, ha0, ha1, hd0, hd1, hle, hlt⟩ := hqq rfl
              clear hqq
              go_wp2_with fail
              refine (heat_in q wa co _ hq0 hq1 ha0 ha1 hd0 hd1).mono ?_
              rintro e y3 ⟨rfl, hy3⟩
              have hC3 := bnext hC2 hy3
              go_wp2_with fail
              refine (heat_ex (q - 1) wa co _).mono ?_
              rintro e y4 ⟨y, yc, rfl, hyy, hy4⟩
              have hC4 := bnext hC3 hy4
              have hyf : 0 < q → yc = 0 ∧ y < pw := fun h => by
                obtain ⟨e1, e2⟩ := hyy (by omega) (by omega) ha0 ha1 hd0 hd1
                rw [e1, e2]
                exact ⟨rfl, hlt h⟩
              generalize wattI q (wa - co) = x at *
              have HY := Lib.hid hyf
              clear hyy hyf hy3 hy4 hC2 hC3 hlt ha0 ha1 hd0 hd1
              go_upto_region 20 with fail
              go_cut [161] (fun s161 wx => s161 = .bool false ∧ Below w.heap.size w wx)
              case first =>
                by_cases hq : 0 < q
                · obtain ⟨rfl, hyl⟩ := HY.out hq
                  go_wp2_with fail
                  all_goals (go_meet; exact ⟨by first | rfl | (simp; omega), hC4⟩)
                · go_wp2_with fail
                  all_goals (go_meet; exact ⟨by first | rfl | (simp; omega), hC4⟩)
              case rest =>
                obtain ⟨rfl, hE⟩ := hcut
                go_wp2_with fail
                refine (drawDegreesText_any a0 len0 cap0 z0 _ (w0.next hE)).mono ?_
                rintro e x1 ⟨z, rfl, hz0, hz1, hx1⟩
                have hD1 := bnext hE hx1
                go_wp2_with fail
                refine (implDegreesText_any z _ (by omega) (by omega) (hL.2.2.next hD1)).mono ?_
                rintro e x2 ⟨rfl, hx2⟩
                have hD2 := bnext hD1 hx2
                have hsz := text_small z
                have hfact := text_fact z
                generalize hq : mkB (degT z) = q at *
                have Hq := Lib.hid hq
                clear hq hx1 hx2 hD1
                go_wp2_with fail
                refine (implReadDegrees_any q _ hsz (hL.1.next hD2) (hL.2.1.next hD2) (hL.2.2.next hD2)).mono ?_
                rintro e x3 ⟨o, rfl, ho, hx3⟩
                have hD3 := bnext hD2 hx3
                rcases hfact o ho with ⟨rfl, rfl⟩ | ⟨hne, rfl⟩
                · unfold decT
                  simp only [Option.getD_none, Option.isSome_none]
                  clear ho hx3 hD2 hfact
                  go_wp2
                  go_ret
                  exact ⟨rfl, hD3⟩
                · unfold decT
                  simp only [Option.getD_some, Option.isSome_some]
                  clear ho hx3 hD2 hfact
                  have z4 : q.toList.isEmpty = false := empty_false q hne
                  have z1 : (q.toList == ([] : List UInt8)) = false := by
                    cases h : q.toList with
                    | nil => rw [h] at z4; cases z4
                    | cons a r => rfl
                  have z3 : ¬ q = ⟨#[]⟩ := fun h => by rw [h] at hne; exact hne rfl
                  have zz : (z == z) = true := by simp
                  go_wp2
                  go_ret
                  exact ⟨rfl, hD3⟩
            · clear hqq
              go_wp2_with fail
              refine (drawDegreesText_any a0 len0 cap0 z0 _ (w0.next hC2)).mono ?_
              rintro e x1 ⟨z, rfl, hz0, hz1, hx1⟩
              have hD1 := bnext hC2 hx1
              go_wp2_with fail
              refine (implDegreesText_any z _ (by omega) (by omega) (hL.2.2.next hD1)).mono ?_
              rintro e x2 ⟨rfl, hx2⟩
              have hD2 := bnext hD1 hx2
              have hsz := text_small z
              have hfact := text_fact z
              generalize hq : mkB (degT z) = q at *
              have Hq := Lib.hid hq
              clear hq hx1 hx2 hD1
              go_wp2_with fail
              refine (implReadDegrees_any q _ hsz (hL.1.next hD2) (hL.2.1.next hD2) (hL.2.2.next hD2)).mono ?_
              rintro e x3 ⟨o, rfl, ho, hx3⟩
              have hD3 := bnext hD2 hx3
              rcases hfact o ho with ⟨rfl, rfl⟩ | ⟨hne, rfl⟩
              · unfold decT
                simp only [Option.getD_none, Option.isSome_none]
                clear ho hx3 hD2 hfact
                go_wp2
                go_ret
                exact ⟨rfl, hD3⟩
              · unfold decT
                simp only [Option.getD_some, Option.isSome_some]
                clear ho hx3 hD2 hfact
                have z4 : q.toList.isEmpty = false := empty_false q hne
                have z1 : (q.toList == ([] : List UInt8)) = false := by
                  cases h : q.toList with
                  | nil => rw [h] at z4; cases z4
                  | cons a r => rfl
                have z3 : ¬ q = ⟨#[]⟩ := fun h => by rw [h] at hne; exact hne rfl
                have zz : (z == z) = true := by simp
                go_wp2
                go_ret
                exact ⟨rfl, hD3⟩
        · have hT2 : inB t 0 18000 = false := by simpa using hT
          go_wp2_with fail
          refine (steam_out t _ hT2).mono ?_
          rintro e v1 ⟨rfl, hv1⟩
          have hB := bnext hA hv1
          go_wp2_with fail
          refine (drawFlowForPower_any a1 len1 cap1 z1 _ (w1a.next hB)).mono ?_
          rintro e y1 ⟨pw, wa, co, rfl, hpw, hwa, hco, hy1⟩
          have hC1 := bnext hB hy1
          go_wp2_with fail
          refine (flow_fact pw wa co _).mono ?_
          rintro e y2 ⟨q, qc, rfl, hqq, hy2⟩
          have hC2 := bnext hC1 hy2
          clear hy1 hy2 hC1
          by_cases hc : qc = 0
          · subst hc
            obtain ⟨hq0, hq1, ha0, ha1, hd0, hd1, hle, hlt⟩ := hqq rfl
            clear hqq
            go_wp2_with fail
            refine (heat_in q wa co _ hq0 hq1 ha0 ha1 hd0 hd1).mono ?_
            rintro e y3 ⟨rfl, hy3⟩
            have hC3 := bnext hC2 hy3
            go_wp2_with fail
            refine (heat_ex (q - 1) wa co _).mono ?_
            rintro e y4 ⟨y, yc, rfl, hyy, hy4⟩
            have hC4 := bnext hC3 hy4
            have hyf : 0 < q → yc = 0 ∧ y < pw := fun h => by
              obtain ⟨e1, e2⟩ := hyy (by omega) (by omega) ha0 ha1 hd0 hd1
              rw [e1, e2]
              exact ⟨rfl, hlt h⟩
            generalize wattI q (wa - co) = x at *
            have HY := Lib.hid hyf
            clear hyy hyf hy3 hy4 hC2 hC3 hlt ha0 ha1 hd0 hd1
            go_upto_region 20 with fail
            go_cut [161] (fun s161 wx => s161 = .bool false ∧ Below w.heap.size w wx)
            case first =>
              by_cases hq : 0 < q
              · obtain ⟨rfl, hyl⟩ := HY.out hq
                go_wp2_with fail
                all_goals (go_meet; exact ⟨by first | rfl | (simp; omega), hC4⟩)
              · go_wp2_with fail
                all_goals (go_meet; exact ⟨by first | rfl | (simp; omega), hC4⟩)
            case rest =>
              obtain ⟨rfl, hE⟩ := hcut
              go_wp2_with fail
              refine (drawDegreesText_any a0 len0 cap0 z0 _ (w0.next hE)).mono ?_
              rintro e x1 ⟨z, rfl, hz0, hz1, hx1⟩
              have hD1 := bnext hE hx1
              go_wp2_with fail
              refine (implDegreesText_any z _ (by omega) (by omega) (hL.2.2.next hD1)).mono ?_
              rintro e x2 ⟨rfl, hx2⟩
              have hD2 := bnext hD1 hx2
              have hsz := text_small z
              have hfact := text_fact z
              generalize hq : mkB (degT z) = q at *
              have Hq := Lib.hid hq
              clear hq hx1 hx2 hD1
              go_wp2_with fail
              refine (implReadDegrees_any q _ hsz (hL.1.next hD2) (hL.2.1.next hD2) (hL.2.2.next hD2)).mono ?_
              rintro e x3 ⟨o, rfl, ho, hx3⟩
              have hD3 := bnext hD2 hx3
              rcases hfact o ho with ⟨rfl, rfl⟩ | ⟨hne, rfl⟩
              · unfold decT
                simp only [Option.getD_none, Option.isSome_none]
                clear ho hx3 hD2 hfact
                go_wp2
                go_ret
                exact ⟨rfl, hD3⟩
              · unfold decT
                simp only [Option.getD_some, Option.isSome_some]
                clear ho hx3 hD2 hfact
                have z4 : q.toList.isEmpty = false := empty_false q hne
                have z1 : (q.toList == ([] : List UInt8)) = false := by
                  cases h : q.toList with
                  | nil => rw [h] at z4; cases z4
                  | cons a r => rfl
                have z3 : ¬ q = ⟨#[]⟩ := fun h => by rw [h] at hne; exact hne rfl
                have zz : (z == z) = true := by simp
                go_wp2
                go_ret
                exact ⟨rfl, hD3⟩
          · clear hqq
            go_wp2_with fail
            refine (drawDegreesText_any a0 len0 cap0 z0 _ (w0.next hC2)).mono ?_
            rintro e x1 ⟨z, rfl, hz0, hz1, hx1⟩
            have hD1 := bnext hC2 hx1
            go_wp2_with fail
            refine (implDegreesText_any z _ (by omega) (by omega) (hL.2.2.next hD1)).mono ?_
            rintro e x2 ⟨rfl, hx2⟩
            have hD2 := bnext hD1 hx2
            have hsz := text_small z
            have hfact := text_fact z
            generalize hq : mkB (degT z) = q at *
            have Hq := Lib.hid hq
            clear hq hx1 hx2 hD1
            go_wp2_with fail
            refine (implReadDegrees_any q _ hsz (hL.1.next hD2) (hL.2.1.next hD2) (hL.2.2.next hD2)).mono ?_
            rintro e x3 ⟨o, rfl, ho, hx3⟩
            have hD3 := bnext hD2 hx3
            rcases hfact o ho with ⟨rfl, rfl⟩ | ⟨hne, rfl⟩
            · unfold decT
              simp only [Option.getD_none, Option.isSome_none]
              clear ho hx3 hD2 hfact
              go_wp2
              go_ret
              exact ⟨rfl, hD3⟩
            · unfold decT
              simp only [Option.getD_some, Option.isSome_some]
              clear ho hx3 hD2 hfact
              have z4 : q.toList.isEmpty = false := empty_false q hne
              have z1 : (q.toList == ([] : List UInt8)) = false := by
                cases h : q.toList with
                | nil => rw [h] at z4; cases z4
                | cons a r => rfl
              have z3 : ¬ q = ⟨#[]⟩ := fun h => by rw [h] at hne; exact hne rfl
              have zz : (z == z) = true := by simp
              go_wp2
              go_ret
              exact ⟨rfl, hD3⟩
    · go_enter Tryd.func3, Tryd.ntmps3
      go_wp2_with fail
      refine (bLong_no a0 cap0 len0 _ hz0).mono ?_
      rintro e w' ⟨rfl, rfl⟩
      go_wp2_with fail
      refine (bLong_yes a1 cap1 len1 _ (by omega) hn1).mono ?_
      rintro e w' ⟨rfl, rfl⟩
      go_wp2
      go_ret
      exact ⟨rfl, Below.refl _ _⟩
  · go_enter Tryd.func3, Tryd.ntmps3
    go_wp2_with fail
    refine (bLong_yes a0 cap0 len0 _ (by omega) hn0).mono ?_
    rintro e w' ⟨rfl, rfl⟩
    go_wp2
    go_ret
    exact ⟨rfl, Below.refl _ _⟩

theorem own : ownKnob Tryd.prog.godebug = none := by kernel_rfl
theorem laidOut : laidOutB Tryd.prog = true := by kernel_rfl

/-- A WORLD FOR THE WITNESS: the heap that the start-up code's own run leaves. -/
theorem laid_met (os : Os) : laidMet Tryd.prog Rows.fnWaterRow.laid ((World.laidAll Tryd.prog os Rows.fnWaterRow.laid).forCall (fun _ _ => 0) ⟨#[], #[.slice none 0 0, .slice none 0 0], []⟩).memory :=
  laidMet_laidAll _ (by kernel_rfl) (by kernel_rfl)
theorem reads (os : Os) {H : Type} (enc : TypeId × Value → H) : ∃ x places, DataW.whole enc Tryd.prog ((World.laidAll Tryd.prog os Rows.fnWaterRow.laid).forCall (fun _ _ => 0) ⟨#[], #[.slice none 0 0, .slice none 0 0], []⟩).memory Tryd.f3.params.toList Rows.fnWaterSpec.vars false (#[.slice none 0 0, .slice none 0 0] : Array Value).toList 8 = some (x, [], places) :=
  ⟨[.nil, .nil], [], by kernel_rfl⟩

set_option maxRecDepth 100000 in
theorem lifted (os : Os) (started : os.Started) (H : Type) (enc : TypeId × Value → H) (F : Stop.Interp) :
    ReturnsInHanded {} Tryd.checked os 3 .any ((OpenSpec.ofChange Rows.fnWaterSpec).preRow enc Tryd.prog Tryd.f3 Rows.fnWaterRow.domain false Rows.fnWaterRow.laid) (((OpenSpec.ofChange Rows.fnWaterSpec).at F).post enc Tryd.prog Tryd.f3 false true false false) := by
  obtain ⟨x, places, hx⟩ := reads os enc
  refine returnsInHanded_of_row (C := Tryd.checked) (s := OpenSpec.ofChange Rows.fnWaterSpec) own started (by kernel_rfl) Tryd.func3
    (witness_row_atRef (enc := enc) (C := Tryd.checked) false (World.laidAll Tryd.prog os Rows.fnWaterRow.laid) #[.slice none 0 0, .slice none 0 0] (World.laidAll_os _ _ _) (by kernel_rfl) (by kernel_rfl) (by kernel_rfl)
      (OpenSpec.preRow_of_cond 8 hx (by kernel_rfl) (fun k hk => by cases hk) (by kernel_rfl) (laid_met os))) ?_
  intro W base args ds gs before hval0 hW hcnd _ _ hLaid hShaped _
  have hL := laid_facts hLaid hShaped
  have hval : ∀ (j : Nat) t v, Tryd.f3.params[j]? = some t → args[j]? = some v → Value.okWide Tryd.prog W .any base t v := hval0
  have hW' := hW
  obtain ⟨p, q, hA0, hV, rfl, hfz, hnd⟩ := hW
  have hA : DataW.TrodAll enc Tryd.prog W 0 (fun _ => true) true Tryd.f3.params.toList args.toList ds p := hA0
  rw [Tryd.params3] at hA hval
  obtain ⟨v0, vs0, d0, ds0, p0, q0, hargs, rfl, rfl, h0, r0⟩ := trodAll_cons hA
  obtain ⟨v1, vs1, d1, ds1, p1, q1, rfl, rfl, rfl, h1, r1⟩ := trodAll_cons r0
  obtain ⟨rfl, rfl, rfl⟩ := trodAll_nil r1
  obtain rfl : args = #[v0, v1] := by cases args; simp_all
  obtain ⟨rfl, rfl⟩ := trodVars_none hV
  obtain ⟨a0, len0, cap0, rfl⟩ := okWide_slice Tryd.underlying22 (hval 0 22 v0 rfl rfl)
  have k0 := h0
  have lt0 : ∀ x ∈ p0, x.block < W.heap.size := by obtain ⟨m, hm⟩ := k0; exact DataW.trod_lt m _ _ _ hm
  obtain ⟨z0, w0⟩ : ∃ zs, SliceIn .u8 W a0 len0 zs := by
    obtain ⟨fuel, hf⟩ := h0
    rcases open_ints Tryd.underlying22 Tryd.underlying5 (by kernel_rfl) hf with ⟨hcs, _⟩ | ⟨x, l, c, zs, hcs, _, hl, hm, hz, _, hcell, hwz⟩
    · simp [Value.cells] at hcs
      obtain ⟨rfl, rfl, rfl⟩ := hcs
      exact ⟨[], SliceIn.nil _ _⟩
    · simp [Value.cells] at hcs
      obtain ⟨rfl, rfl, rfl⟩ := hcs
      exact ⟨_, SliceIn.row hl hm (by simpa using hz) hcell hwz⟩
  obtain ⟨a1, len1, cap1, rfl⟩ := okWide_slice Tryd.underlying22 (hval 1 22 v1 rfl rfl)
  have k1 := h1
  have lt1 : ∀ x ∈ p1, x.block < W.heap.size := by obtain ⟨m, hm⟩ := k1; exact DataW.trod_lt m _ _ _ hm
  obtain ⟨z1, w1⟩ : ∃ zs, SliceIn .u8 W a1 len1 zs := by
    obtain ⟨fuel, hf⟩ := h1
    rcases open_ints Tryd.underlying22 Tryd.underlying5 (by kernel_rfl) hf with ⟨hcs, _⟩ | ⟨x, l, c, zs, hcs, _, hl, hm, hz, _, hcell, hwz⟩
    · simp [Value.cells] at hcs
      obtain ⟨rfl, rfl, rfl⟩ := hcs
      exact ⟨[], SliceIn.nil _ _⟩
    · simp [Value.cells] at hcs
      obtain ⟨rfl, rfl, rfl⟩ := hcs
      exact ⟨_, SliceIn.row hl hm (by simpa using hz) hcell hwz⟩
  clear hA0 hval0
  refine (walk a0 len0 cap0 z0 a1 len1 cap1 z1 W w0 w1 hL).mono fun e W' ⟨he, bel⟩ => ?_
  subst he
  exact ⟨_, rfl, _, _, _, [], _, [], hW', trodAll_mk1 (shut_bool Tryd.underlying4 _), (trodAll_cons_mk (Below.trod laidOut (by kernel_rfl) (of_decide_eq_true (by kernel_rfl)) k0 bel lt0) (trodAll_cons_mk (Below.trod laidOut (by kernel_rfl) (of_decide_eq_true (by kernel_rfl)) k1 bel lt1) trodAll_mk0)), rfl, bel.frame _, fun h => by cases h⟩

theorem said : Rows.FnWaterSaid :=
  OpenClaim.holds_of_cond 3 Tryd.f3 rfl rfl rfl rfl rfl rfl rfl ⟨rfl, rfl, rfl, rfl, rfl⟩ rfl rfl rfl rfl rfl (by kernel_rfl) Tryd.func3 (by kernel_rfl)
    (of_decide_eq_true (by kernel_rfl)) (by unfold Func.isWrapper; first | (rw [if_pos (by decide +kernel)]; kernel_rfl) | (rw [if_neg (by decide +kernel)]; exact ⟨rfl, rfl⟩))
    (fun os started H enc _ F => by rw [OpenClaim.pre_eq_preRow]; exact lifted os started H enc F)

theorem plain (f : FuncId) (fn : Func) (hf : Tryd.pinned.checked.prog.funcNamed "loop.example/g01011/laws.FnWater" = some f) (hfn : Tryd.pinned.checked.prog.funcs[f]? = some fn) :
    true = Tryd.pinned.checked.prog.looks [] ∧ ∀ (j : Nat) t, fn.params[j]? = some t → Tryd.pinned.checked.prog.wantsStandIn t = false := by
  obtain rfl : f = 3 := Option.some.inj ((show Tryd.prog.funcNamed "loop.example/g01011/laws.FnWater" = some 3 by kernel_rfl).symm.trans hf) |>.symm
  obtain rfl : fn = Tryd.f3 := (Option.some.inj (Tryd.func3.symm.trans hfn)).symm
  refine ⟨by kernel_rfl, fun j t ht => ?_⟩
  rw [Tryd.params3] at ht
  have hm : t ∈ [22, 22] := by simpa using Array.mem_of_getElem? ht
  have hall : ([22, 22].all fun u => !Tryd.prog.wantsStandIn u) = true := by kernel_rfl
  exact (show Tryd.prog.wantsStandIn t = false by simpa using List.all_eq_true.1 hall t hm)

theorem proved : Rows.FnWaterCardSaid :=
  Claim7.holds_tied_plain_at .later [] _ _ _ _ said (fun _ h => by cases h) (by kernel_rfl) (fun _ h => by cases h) fnWater_row_tie rfl ⟨rfl, rfl⟩ (by kernel_rfl) rfl plain (by kernel_rfl)
#print axioms proved
end Go.Proofs.YtjabcoanpinpiaaDoor.fnWater

