/-
  FnMixes: for every input the law returns true and its arguments read as before. No condition.
-/
import Derived.Test.YtgdafgnjaogmeabMx0
import Derived.Test.YtgdafgnjaogmeabMx1
import Derived.Test.YtgdafgnjaogmeabMx2
import Derived.Test.YtgdafgnjaogmeabW7
import Derived.Test.YtgdafgnjaogmeabW5
import Derived.Test.YtgdafgnjaogmeabW3
import Derived.Deep.DeepCutAuto
import Derived.Lib.MinMax
import Derived.Test.YtgdafgnjaogmeabG0
import Derived.ShutString
import Derived.ChangeOld
namespace Go.Proofs.Ytgdafgnjaogmeab.fnMixes
open Go.ChangeShapes Go.WideShapes Go.ChangeAt Go.RowKit
open Go.ChangeMaps (open_string shut_string)
set_option linter.unusedVariables false

set_option maxRecDepth 100000
set_option maxHeartbeats 6400000
theorem bLong_no (A : Option Addr) (c n : Nat) (w : World) (hn : n ≤ 1048576) :
    Calls Try.prog 26 #[.slice A n c] w fun e w' => e = .returned (.bool false) ∧ w = w' := by
  have h1 : ¬ (1048576 : Int) < (n : Int) := by omega
  go_enter Try.func26, Try.ntmps26
  go_wp2
  go_ret
  exact ⟨rfl, rfl⟩
theorem bLong_yes (A : Option Addr) (c n : Nat) (w : World) (hn : 1048576 < n) (hn1 : n ≤ 9223372036854775807) :
    Calls Try.prog 26 #[.slice A n c] w fun e w' => e = .returned (.bool true) ∧ w = w' := by
  have h1 : (1048576 : Int) < (n : Int) := by omega
  go_enter Try.func26, Try.ntmps26
  go_wp2
  go_ret
  exact ⟨rfl, rfl⟩
theorem abs_any (n : Int) (w : World) (h : -1 ≤ n) (h1 : n ≤ 1) :
    Calls Try.prog 35 #[.int .i64 n] w fun e w' => ∃ x : Int, e = .returned (.int .i64 x) ∧ x ≤ 1 ∧ w = w' := by
  by_cases hs : n < 0
  · go_enter Try.func35, Try.ntmps35
    go_wp2
    go_ret
    exact ⟨_, rfl, by omega, rfl⟩
  · go_enter Try.func35, Try.ntmps35
    go_wp2
    go_ret
    exact ⟨_, rfl, by omega, rfl⟩
theorem en_bd (p m : Int) : -2000000000000 ≤ enV p m ∧ enV p m ≤ 2000000000000 := by
  unfold enV
  by_cases hc : (inB p 0 100000000 && inB m 0 1000000) = true
  · rw [if_pos hc]
    simp only [Bool.and_eq_true] at hc
    have h1 := inB_iff.1 hc.1
    have h2 := inB_iff.1 hc.2
    have h0 : 0 ≤ p * m := Int.mul_nonneg h1.1 h2.1
    have h3 : p * m ≤ 100000000 * 1000000 := Int.mul_le_mul h1.2 h2.2 h2.1 (by omega)
    have k := near_halfM (p * m) 60 (by omega)
    omega
  · rw [if_neg hc]; omega
theorem head_bd (h t : Int) : -1000000000000 ≤ headV h t ∧ headV h t ≤ 1000000000000 := by
  have d := dens_bd t
  unfold headV
  split
  · rename_i hc
    simp only [Bool.and_eq_true] at hc
    have h1 := inB_iff.1 hc.1
    have k := near_halfM (densI t * h * 981) 1000000 (by omega)
    have m1 : densI t * h ≤ densI t * 200000 := Int.mul_le_mul_of_nonneg_left h1.2 (by omega)
    have m2 : densI t * (-200000) ≤ densI t * h := Int.mul_le_mul_of_nonneg_left h1.1 (by omega)
    omega
  · omega
theorem mixC_len2 {fs ts : List Int} (h : mixC fs ts = 0) : 1 ≤ ts.length ∧ ts.length ≤ 64 := by
  by_cases hB : mixB fs ts = true
  · obtain ⟨h1, h2, -⟩ := mixB_bd fs ts hB
    omega
  · have hB : mixB fs ts = false := by simpa only [Bool.not_eq_true] using hB
    rw [(mix_no fs ts hB).2] at h; cases h
theorem half_bd {m : Int} (h0 : -1 ≤ m) (h1 : m ≤ 1000001) : -1 ≤ m.tdiv 2 ∧ m.tdiv 2 ≤ 1000001 := by
  by_cases h : 0 ≤ m
  · rw [Int.tdiv_eq_ediv_of_nonneg h]
    omega
  · obtain rfl : m = -1 := by omega
    decide

theorem walk (a0 : Option Addr) (len0 cap0 : Nat) (z0 : List Int) (a1 : Option Addr) (len1 cap1 : Nat) (z1 : List Int) (w : World) (w0 : SliceIn .u8 w a0 len0 z0) (w1 : SliceIn .u8 w a1 len1 z1) :
    Calls Try.prog 6 #[.slice a0 len0 cap0, .slice a1 len1 cap1] w fun e w' => e = .returned (.bool true) ∧ Below w.heap.size w w' := by
  have w1a := w1
  clear w1
  have hn0 : len0 ≤ 9223372036854775807 := by have := w0.2.1; unfold maxLen at this; omega
  have hn1 : len1 ≤ 9223372036854775807 := by have := w1a.2.1; unfold maxLen at this; omega
  by_cases hz0 : len0 ≤ 1048576
  · by_cases hz1 : len1 ≤ 1048576
    · skip
      go_enter Try.func6, Try.ntmps6
      go_wp2_with fail
      refine (bLong_no a0 cap0 len0 _ hz0).mono ?_
      rintro e w' ⟨rfl, rfl⟩
      go_wp2_with fail
      refine (bLong_no a1 cap1 len1 _ hz1).mono ?_
      rintro e w' ⟨rfl, rfl⟩
      go_wp2_with fail
      refine (drawMixWater_any a0 len0 cap0 z0 _ w0).mono ?_
      rintro e w1 ⟨A, B, c, d, fs, ts, rfl, hA, hB, hfl, htl, hb⟩
      go_wp2_with fail
      refine (implMixWater_any A B c d fs ts _ hA hB (by omega) (by omega)).mono ?_
      rintro e w2 ⟨rfl, hb2⟩
      have hB := hB.next hb2
      have hb := bnext hb hb2
      have hF := mix_between (fs := fs) (ts := ts)
      have hL := mixC_len2 (fs := fs) (ts := ts)
      generalize mixV fs ts = V at *
      generalize mixC fs ts = C at *
      have HF := Lib.hid hF
      clear hF hA hb2
      by_cases hC : C = 0
      · subst hC
        obtain ⟨hL0, hL1⟩ := hL rfl
        have HM : Hid (∀ (lo hi : Int), (∀ j, j < ts.length → lo ≤ ts.getD j 0 ∧ ts.getD j 0 ≤ hi) → lo ≤ V ∧ V ≤ hi) := Lib.hid (HF.out rfl)
        clear hL HF
        obtain ⟨bB, oB, rfl, lB, cB⟩ := cells_getD hB hL0
        have CB := Lib.hid cB
        clear cB hB
        go_wp2_with fail
        go_loopw [9, 10, 11] (fun lv hv iv wr => ∃ (q : Nat) (l h : Int), q ≤ ts.length ∧ iv = .int .i64 q ∧ lv = .int .i64 l ∧ hv = .int .i64 h ∧ (∀ j, j < q → l ≤ ts.getD j 0 ∧ ts.getD j 0 ≤ h) ∧ wr = w2) (fun _ _ iv _ => ts.length - (intOf iv).toNat)
        case atStart => exact ⟨0, 18000, 0, by omega, rfl, rfl, rfl, fun j hj => absurd hj (by omega), rfl⟩
        case round =>
          obtain ⟨q, l, h, hq, rfl, rfl, rfl, hbd, rfl⟩ := hrel
          by_cases hlt : q < ts.length
          · have g := CB.out q hlt
            have HN : Hid (∀ j, j < q + 1 → min l (ts.getD q 0) ≤ ts.getD j 0 ∧ ts.getD j 0 ≤ max h (ts.getD q 0)) := Lib.hid (fun j hj => by
              by_cases e : j = q
              · subst e; exact ⟨Int.min_le_right _ _, Int.le_max_right _ _⟩
              · have k := hbd j (by omega)
                exact ⟨Int.le_trans (Int.min_le_left _ _) k.1, Int.le_trans k.2 (Int.le_max_left _ _)⟩)
            generalize ts.getD q 0 = x at *
            clear hbd
            go_wp2_with fail
            go_roundw
            case rel => exact ⟨q + 1, _, _, by omega, by go_num, rfl, rfl, HN.out, (by first | rfl | trivial)⟩
            case measure => simp [intOf]; omega
          · obtain rfl : q = ts.length := by omega
            obtain ⟨v0, v1⟩ := HM.out l h hbd
            clear hbd hlt
            have hb := hb
            go_wp2_with fail
            refine (drawDrawExpandedVolume_any a1 len1 cap1 z1 _ (w1a.next hb)).mono ?_
            rintro e w3 ⟨u, f, t, rfl, ⟨⟨hu0, hu1⟩, ⟨hf0, hf1⟩, ⟨ht0, ht1⟩⟩, hb3⟩
            have hb := bnext hb hb3
            go_wp2_with fail
            refine (implExpandedVolume_any u f t _).mono ?_
            rintro e w4 ⟨rfl, hb4⟩
            have hb := bnext hb hb4
            go_wp2_with fail
            refine (implExpandedVolume_any u f f _).mono ?_
            rintro e w5 ⟨rfl, hb5⟩
            have hb := bnext hb hb5
            have HVF := Lib.hid (vol_fact u f t)
            generalize volV u f t = v at *
            generalize volC u f t = vc at *
            generalize volV u f f = s at *
            generalize volC u f f = sc at *
            clear hb3 hb4 hb5
            go_upto_region 18 with fail
            go_cut [128] (fun s128 wx => s128 = .bool false ∧ Below w.heap.size w wx)
            case first =>
              by_cases hvc : vc = 0
              · subst hvc
                obtain ⟨e1, e2, v0, v1⟩ := HVF.out rfl
                subst e1
                subst e2
                have huu : (s != s) = false := by simp
                clear HVF
                by_cases hft : f < t
                · have v2 := v0 (by omega)
                  clear v0 v1
                  go_wp2_with fail
                  all_goals (go_meet; exact ⟨by first | rfl | (simp; omega), hb⟩)
                · by_cases htf : t < f
                  · have v2 := v1 (by omega)
                    clear v0 v1
                    go_wp2_with fail
                    all_goals (go_meet; exact ⟨by first | rfl | (simp; omega), hb⟩)
                  · have v2 := v0 (by omega)
                    have v3 := v1 (by omega)
                    clear v0 v1
                    go_wp2_with fail
                    all_goals (go_meet; exact ⟨by first | rfl | (simp; omega), hb⟩)
              · clear HVF
                go_wp2_with fail
                all_goals (go_meet; exact ⟨by first | rfl | (simp; omega), hb⟩)
            case rest =>
              clear HVF hb
              obtain ⟨rfl, hb⟩ := hcut
              go_wp2_with fail
              refine (drawDrawHeadPressure_any a0 len0 cap0 z0 _ (w0.next hb)).mono ?_
              rintro e w6 ⟨y, r, rfl, ⟨⟨hy0, hy1⟩, ⟨hr0, hr1⟩⟩, hb6⟩
              have hb := bnext hb hb6
              go_wp2_with fail
              refine (implHeadPressure_any y r _).mono ?_
              rintro e w7 ⟨rfl, hb7⟩
              have hb := bnext hb hb7
              go_wp2_with fail
              refine (implHeadPressure_any (-y) r _).mono ?_
              rintro e w8 ⟨rfl, hb8⟩
              have hb := bnext hb hb8
              rw [(head_fact y r).1, (head_fact y r).2]
              have hhb := head_bd y r
              generalize headV y r = p at *
              generalize headC y r = pc at *
              have hpp : (p != - -p) = false := by simp
              have hcc : (pc != pc) = false := by simp
              clear hb6 hb7 hb8
              go_upto_region 23 with fail
              go_cut [159] (fun s159 wx => s159 = .bool false ∧ Below w.heap.size w wx)
              case first =>
                by_cases hpc : pc = 0
                · subst hpc
                  go_wp2_with fail
                  all_goals (go_meet; exact ⟨by first | rfl | (simp; omega) | simp, hb⟩)
                · go_wp2_with fail
                  all_goals (go_meet; exact ⟨by first | rfl | (simp; omega) | simp, hb⟩)
              case rest =>
                clear hb hpp hcc
                obtain ⟨rfl, hb⟩ := hcut
                go_wp2_with fail
                refine (drawDrawEnergyOf_any a1 len1 cap1 z1 _ (w1a.next hb)).mono ?_
                rintro e w9 ⟨k, m, rfl, ⟨⟨hk0, hk1⟩, ⟨hm0, hm1⟩⟩, hb9⟩
                have hb := bnext hb hb9
                have hm2 := half_bd hm0 hm1
                go_wp2_with fail
                refine (implEnergyOf_any k m _).mono ?_
                rintro e w10 ⟨rfl, hb10⟩
                have hb := bnext hb hb10
                go_wp2_with fail
                refine (implEnergyOf_any k (m.tdiv 2) _).mono ?_
                rintro e w11 ⟨rfl, hb11⟩
                have hb := bnext hb hb11
                go_wp2_with fail
                refine (implEnergyOf_any k (m - m.tdiv 2) _).mono ?_
                rintro e w12 ⟨rfl, hb12⟩
                have hb := bnext hb hb12
                obtain ⟨f1, f2⟩ := en_fact k m
                have b1 := en_bd k m
                have b2 := en_bd k (m.tdiv 2)
                have b3 := en_bd k (m - m.tdiv 2)
                generalize enV k m = x1 at *
                generalize enC k m = c1 at *
                generalize enV k (m.tdiv 2) = x2 at *
                generalize enC k (m.tdiv 2) = c2 at *
                generalize enV k (m - m.tdiv 2) = x3 at *
                generalize enC k (m - m.tdiv 2) = c3 at *
                clear hb9 hb10 hb11 hb12
                by_cases hc1 : c1 = 0
                · obtain ⟨e2, e3, g0, g1⟩ := f2 hc1
                  subst hc1
                  subst e2
                  subst e3
                  clear f1 f2
                  go_wp2_with fail
                  refine (abs_any (x1 - x2 - x3) _ g0 g1).mono ?_
                  rintro e w13 ⟨x, rfl, hx, rfl⟩
                  go_wp2_with fail
                  go_ret
                  exact ⟨by first | rfl | (simp; omega) | simp, hb⟩
                · have e1 := f1 hc1
                  subst e1
                  clear f1 f2
                  go_wp2_with fail
                  go_ret
                  exact ⟨by first | rfl | (simp; omega) | simp, hb⟩
      · clear hL HF hB
        go_wp2_with fail
        refine (drawDrawExpandedVolume_any a1 len1 cap1 z1 _ (w1a.next hb)).mono ?_
        rintro e w3 ⟨u, f, t, rfl, ⟨⟨hu0, hu1⟩, ⟨hf0, hf1⟩, ⟨ht0, ht1⟩⟩, hb3⟩
        have hb := bnext hb hb3
        go_wp2_with fail
        refine (implExpandedVolume_any u f t _).mono ?_
        rintro e w4 ⟨rfl, hb4⟩
        have hb := bnext hb hb4
        go_wp2_with fail
        refine (implExpandedVolume_any u f f _).mono ?_
        rintro e w5 ⟨rfl, hb5⟩
        have hb := bnext hb hb5
        have HVF := Lib.hid (vol_fact u f t)
        generalize volV u f t = v at *
        generalize volC u f t = vc at *
        generalize volV u f f = s at *
        generalize volC u f f = sc at *
        clear hb3 hb4 hb5
        go_upto_region 18 with fail
        go_cut [128] (fun s128 wx => s128 = .bool false ∧ Below w.heap.size w wx)
        case first =>
          by_cases hvc : vc = 0
          · subst hvc
            obtain ⟨e1, e2, v0, v1⟩ := HVF.out rfl
            subst e1
            subst e2
            have huu : (s != s) = false := by simp
            clear HVF
            by_cases hft : f < t
            · have v2 := v0 (by omega)
              clear v0 v1
              go_wp2_with fail
              all_goals (go_meet; exact ⟨by first | rfl | (simp; omega), hb⟩)
            · by_cases htf : t < f
              · have v2 := v1 (by omega)
                clear v0 v1
                go_wp2_with fail
                all_goals (go_meet; exact ⟨by first | rfl | (simp; omega), hb⟩)
              · have v2 := v0 (by omega)
                have v3 := v1 (by omega)
                clear v0 v1
                go_wp2_with fail
                all_goals (go_meet; exact ⟨by first | rfl | (simp; omega), hb⟩)
          · clear HVF
            go_wp2_with fail
            all_goals (go_meet; exact ⟨by first | rfl | (simp; omega), hb⟩)
        case rest =>
          clear HVF hb
          obtain ⟨rfl, hb⟩ := hcut
          go_wp2_with fail
          refine (drawDrawHeadPressure_any a0 len0 cap0 z0 _ (w0.next hb)).mono ?_
          rintro e w6 ⟨y, r, rfl, ⟨⟨hy0, hy1⟩, ⟨hr0, hr1⟩⟩, hb6⟩
          have hb := bnext hb hb6
          go_wp2_with fail
          refine (implHeadPressure_any y r _).mono ?_
          rintro e w7 ⟨rfl, hb7⟩
          have hb := bnext hb hb7
          go_wp2_with fail
          refine (implHeadPressure_any (-y) r _).mono ?_
          rintro e w8 ⟨rfl, hb8⟩
          have hb := bnext hb hb8
          rw [(head_fact y r).1, (head_fact y r).2]
          have hhb := head_bd y r
          generalize headV y r = p at *
          generalize headC y r = pc at *
          have hpp : (p != - -p) = false := by simp
          have hcc : (pc != pc) = false := by simp
          clear hb6 hb7 hb8
          go_upto_region 23 with fail
          go_cut [159] (fun s159 wx => s159 = .bool false ∧ Below w.heap.size w wx)
          case first =>
            by_cases hpc : pc = 0
            · subst hpc
              go_wp2_with fail
              all_goals (go_meet; exact ⟨by first | rfl | (simp; omega) | simp, hb⟩)
            · go_wp2_with fail
              all_goals (go_meet; exact ⟨by first | rfl | (simp; omega) | simp, hb⟩)
          case rest =>
            clear hb hpp hcc
            obtain ⟨rfl, hb⟩ := hcut
            go_wp2_with fail
            refine (drawDrawEnergyOf_any a1 len1 cap1 z1 _ (w1a.next hb)).mono ?_
            rintro e w9 ⟨k, m, rfl, ⟨⟨hk0, hk1⟩, ⟨hm0, hm1⟩⟩, hb9⟩
            have hb := bnext hb hb9
            have hm2 := half_bd hm0 hm1
            go_wp2_with fail
            refine (implEnergyOf_any k m _).mono ?_
            rintro e w10 ⟨rfl, hb10⟩
            have hb := bnext hb hb10
            go_wp2_with fail
            refine (implEnergyOf_any k (m.tdiv 2) _).mono ?_
            rintro e w11 ⟨rfl, hb11⟩
            have hb := bnext hb hb11
            go_wp2_with fail
            refine (implEnergyOf_any k (m - m.tdiv 2) _).mono ?_
            rintro e w12 ⟨rfl, hb12⟩
            have hb := bnext hb hb12
            obtain ⟨f1, f2⟩ := en_fact k m
            have b1 := en_bd k m
            have b2 := en_bd k (m.tdiv 2)
            have b3 := en_bd k (m - m.tdiv 2)
            generalize enV k m = x1 at *
            generalize enC k m = c1 at *
            generalize enV k (m.tdiv 2) = x2 at *
            generalize enC k (m.tdiv 2) = c2 at *
            generalize enV k (m - m.tdiv 2) = x3 at *
            generalize enC k (m - m.tdiv 2) = c3 at *
            clear hb9 hb10 hb11 hb12
            by_cases hc1 : c1 = 0
            · obtain ⟨e2, e3, g0, g1⟩ := f2 hc1
              subst hc1
              subst e2
              subst e3
              clear f1 f2
              go_wp2_with fail
              refine (abs_any (x1 - x2 - x3) _ g0 g1).mono ?_
              rintro e w13 ⟨x, rfl, hx, rfl⟩
              go_wp2_with fail
              go_ret
              exact ⟨by first | rfl | (simp; omega) | simp, hb⟩
            · have e1 := f1 hc1
              subst e1
              clear f1 f2
              go_wp2_with fail
              go_ret
              exact ⟨by first | rfl | (simp; omega) | simp, hb⟩
    · go_enter Try.func6, Try.ntmps6
      go_wp2_with fail
      refine (bLong_no a0 cap0 len0 _ hz0).mono ?_
      rintro e w' ⟨rfl, rfl⟩
      go_wp2_with fail
      refine (bLong_yes a1 cap1 len1 _ (by omega) hn1).mono ?_
      rintro e w' ⟨rfl, rfl⟩
      go_wp2
      go_ret
      exact ⟨rfl, Below.refl _ _⟩
  · go_enter Try.func6, Try.ntmps6
    go_wp2_with fail
    refine (bLong_yes a0 cap0 len0 _ (by omega) hn0).mono ?_
    rintro e w' ⟨rfl, rfl⟩
    go_wp2
    go_ret
    exact ⟨rfl, Below.refl _ _⟩

theorem own : ownKnob Try.prog.godebug = none := by kernel_rfl
theorem laidOut : laidOutB Try.prog = true := by kernel_rfl

set_option maxRecDepth 100000 in
theorem lifted (os : Os) (started : os.Started) (H : Type) (enc : TypeId × Value → H) :
    ReturnsInHanded {} Try.checked os 6 .any (Rows.fnMixesSpec.pre6 enc Try.prog Try.f6 Rows.fnMixesRow.domain false) (Rows.fnMixesSpec.post enc Try.prog Try.f6 false true false false) := by
  refine returnsInHanded_of_change (C := Try.checked) own started (by kernel_rfl) Try.func6
    (ChangeSpec.witness6 (enc := enc) (C := Try.checked) false ⟨#[], #[.slice none 0 0, .slice none 0 0], []⟩ 8 (by kernel_rfl) (by kernel_rfl) (by kernel_rfl) (by kernel_rfl)) ?_
  intro W base args ds gs before hval0 hW hcnd _
  have hval : ∀ (j : Nat) t v, Try.f6.params[j]? = some t → args[j]? = some v → Value.okWide Try.prog W .any base t v := hval0
  have hW' := hW
  obtain ⟨p, q, hA0, hV, rfl, hfz, hnd⟩ := hW
  have hA : DataW.TrodAll enc Try.prog W 0 (fun _ => true) true Try.f6.params.toList args.toList ds p := hA0
  rw [Try.params6] at hA hval
  obtain ⟨v0, vs0, d0, ds0, p0, q0, hargs, rfl, rfl, h0, r0⟩ := trodAll_cons hA
  obtain ⟨v1, vs1, d1, ds1, p1, q1, rfl, rfl, rfl, h1, r1⟩ := trodAll_cons r0
  obtain ⟨rfl, rfl, rfl⟩ := trodAll_nil r1
  obtain rfl : args = #[v0, v1] := by cases args; simp_all
  obtain ⟨rfl, rfl⟩ := trodVars_none hV
  obtain ⟨a0, len0, cap0, rfl⟩ := okWide_slice Try.underlying54 (hval 0 54 v0 rfl rfl)
  have k0 := h0
  have lt0 : ∀ x ∈ p0, x.block < W.heap.size := by obtain ⟨m, hm⟩ := k0; exact DataW.trod_lt m _ _ _ hm
  obtain ⟨z0, w0⟩ : ∃ zs, SliceIn .u8 W a0 len0 zs := by
    obtain ⟨fuel, hf⟩ := h0
    rcases open_ints Try.underlying54 Try.underlying5 (by kernel_rfl) hf with ⟨hcs, _⟩ | ⟨x, l, c, zs, hcs, _, hl, hm, hz, _, hcell, hwz⟩
    · simp [Value.cells] at hcs
      obtain ⟨rfl, rfl, rfl⟩ := hcs
      exact ⟨[], SliceIn.nil _ _⟩
    · simp [Value.cells] at hcs
      obtain ⟨rfl, rfl, rfl⟩ := hcs
      exact ⟨_, SliceIn.row hl hm (by simpa using hz) hcell hwz⟩
  obtain ⟨a1, len1, cap1, rfl⟩ := okWide_slice Try.underlying54 (hval 1 54 v1 rfl rfl)
  have k1 := h1
  have lt1 : ∀ x ∈ p1, x.block < W.heap.size := by obtain ⟨m, hm⟩ := k1; exact DataW.trod_lt m _ _ _ hm
  obtain ⟨z1, w1⟩ : ∃ zs, SliceIn .u8 W a1 len1 zs := by
    obtain ⟨fuel, hf⟩ := h1
    rcases open_ints Try.underlying54 Try.underlying5 (by kernel_rfl) hf with ⟨hcs, _⟩ | ⟨x, l, c, zs, hcs, _, hl, hm, hz, _, hcell, hwz⟩
    · simp [Value.cells] at hcs
      obtain ⟨rfl, rfl, rfl⟩ := hcs
      exact ⟨[], SliceIn.nil _ _⟩
    · simp [Value.cells] at hcs
      obtain ⟨rfl, rfl, rfl⟩ := hcs
      exact ⟨_, SliceIn.row hl hm (by simpa using hz) hcell hwz⟩
  clear hA0 hval0
  refine (walk a0 len0 cap0 z0 a1 len1 cap1 z1 W w0 w1).mono fun e W' ⟨he, bel⟩ => ?_
  subst he
  exact ⟨_, rfl, _, _, _, [], _, [], hW', trodAll_mk1 (shut_bool Try.underlying4 _), (trodAll_cons_mk (Below.trod laidOut (by kernel_rfl) (of_decide_eq_true (by kernel_rfl)) k0 bel lt0) (trodAll_cons_mk (Below.trod laidOut (by kernel_rfl) (of_decide_eq_true (by kernel_rfl)) k1 bel lt1) trodAll_mk0)), rfl, bel.frame _, fun h => by cases h⟩

theorem over : Rows.fnMixesRow.holds Try.pinned (OpenSpec.ofChange Rows.fnMixesSpec) :=
  OpenClaim.holds_of_wide 6 Try.f6 rfl rfl rfl rfl rfl rfl rfl ⟨rfl, rfl, rfl, rfl, rfl⟩ rfl rfl rfl rfl rfl (by kernel_rfl) Try.func6 (by kernel_rfl)
    (of_decide_eq_true (by kernel_rfl)) (by unfold Func.isWrapper; first | (rw [if_pos (by decide +kernel)]; kernel_rfl) | (rw [if_neg (by decide +kernel)]; exact ⟨rfl, rfl⟩))
    (fun os started H enc _ => lifted os started H enc)

theorem proved : Rows.FnMixesSaid :=
  over
#print axioms proved
end Go.Proofs.Ytgdafgnjaogmeab.fnMixes
