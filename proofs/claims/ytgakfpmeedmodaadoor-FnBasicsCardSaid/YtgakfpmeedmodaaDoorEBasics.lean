/-
  FnBasics: for every input the law returns true and its arguments read as before. No condition.
-/
import Derived.Test.YtgakfpmeedmodaaDoorR3
import Derived.Test.YtgakfpmeedmodaaDoorN1
import Derived.Test.YtgakfpmeedmodaaDoorN2
import Derived.Test.YtgakfpmeedmodaaDoorN3
import Derived.Test.YtgakfpmeedmodaaDoorL1
import Derived.Test.YtgakfpmeedmodaaDoorCards
import Derived.Test.YtgakfpmeedmodaaDoorTie
import Derived.Test.YtgakfpmeedmodaaDoorG0
import Derived.Deep.DeepHandedRow
import Derived.Deep.DeepWitnessRowRef
import Derived.LaidMore
import Derived.Lay
import Derived.Lib.LaidTab
import Derived.ShutString
import Derived.ChangeOld
namespace Go.Proofs.YtgakfpmeedmodaaDoor.fnBasics
open Go.ChangeShapes Go.WideShapes Go.ChangeAt Go.RowKit
open Go.ChangeMaps (open_string shut_string)
set_option linter.unusedVariables false

def Facts (w : World) : Prop := MaxVar w ∧ ErrVars w ∧ PowTab w
theorem laid_facts {W : World} (h : laidMetH Tryd.prog Rows.fnBasicsRow.laid W) (hS : W.ShapedOpen Tryd.prog) : Facts W := by
  rw [MakeChecks.laidMetH_plain _ _ _ (by kernel_rfl)] at h
  exact ⟨maxVar_shaped hS, errVars_laid h.tail.tail.tail.tail, powTab_laid h.tail.tail⟩
theorem Facts.next {w w' : World} (h : Facts w) (hb : Below w.heap.size w w') : Facts w' := ⟨h.1.next hb, h.2.1.next hb, h.2.2.next hb⟩
theorem cells_five (w : World) (E : TypeId) (a b c d e : Int) : CellsAt (w.alloc (.cells #[.int .i64 a, .int .i64 b, .int .i64 c, .int .i64 d, .int .i64 e] E)) (some ⟨w.heap.size, 0, none⟩) (intsV [a, b, c, d, e]) := by
  intro _
  refine ⟨_, _, rfl, fun j hj => ?_⟩
  rw [intsV_length] at hj
  match j, hj with
  | 0, _ => simp [intsV]
  | 1, _ => simp [intsV]
  | 2, _ => simp [intsV]
  | 3, _ => simp [intsV]
  | 4, _ => simp [intsV]
/-- a call that returns a new slice of five numbers, and true -/
def RetFive (a b c d e : Int) (w : World) (en : Ending) (w' : World) : Prop :=
  ∃ A k, en = .returned (.tuple #[.slice A 5 k, .bool true]) ∧ w'.ownsRow w.heap.size 2 1 (.slice A 5 k) 5 (intsV [a, b, c, d, e]) ∧ Below w.heap.size w w'
theorem retFive_of {l : List UInt8} {a b c d e : Int} {w w' : World} {en : Ending} (h : readL l = some [a, b, c, d, e]) (k : RetList (readL (mkB l).data.toList) w en w') : RetFive a b c d e w en w' := by
  have e2 : (mkB l).data.toList = l := rfl
  rw [e2, h] at k
  exact k
set_option maxRecDepth 100000
set_option maxHeartbeats 3200000

theorem walk (a0 : Option Addr) (len0 cap0 : Nat) (z0 : List Int) (a1 : Option Addr) (len1 cap1 : Nat) (z1 : List Int) (w : World) (w0 : SliceIn .u8 w a0 len0 z0) (w1 : SliceIn .u8 w a1 len1 z1) (hL : Facts w) :
    Calls Tryd.prog 3 #[.slice a0 len0 cap0, .slice a1 len1 cap1] w fun e w' => e = .returned (.bool true) ∧ Below w.heap.size w w' := by
  have w1a := w1
  clear w1
  have hn0 : len0 ≤ 9223372036854775807 := by have := w0.2.1; unfold maxLen at this; omega
  have hn1 : len1 ≤ 9223372036854775807 := by have := w1a.2.1; unfold maxLen at this; omega
  by_cases hz0 : len0 ≤ 1048576
  · by_cases hz1 : len1 ≤ 1048576
    · go_enter Tryd.func3, Tryd.ntmps3
      go_wp2_with fail
      refine (long_no a0 a1 cap0 cap1 len0 len1 _ hz0 hz1).mono ?_
      rintro e w' ⟨rfl, rfl⟩
      go_wp2_with fail
      refine (numbers_any a0 len0 cap0 z0 _ w0).mono ?_
      rintro e w1 ⟨p, q, r, rfl, hp0, hp1, hq0, hq1, hr0, hr1, hb1⟩
      have hpq0 : 0 ≤ p * q := Int.mul_nonneg hp0 hq0
      have hpq1 : p * q ≤ 3599880001 := Int.le_trans (Int.mul_le_mul (by omega : p ≤ 59999) (by omega : q ≤ 59999) hq0 (by omega)) (by omega)
      have ha0 : -4000000000 ≤ p * q - 100000 := by omega
      have ha1 : p * q - 100000 ≤ 4000000000 := by omega
      have hbp : 0 < 1 + r := by omega
      have hbq : 1 + r ≤ 5000 := by omega
      generalize p * q - 100000 = a at *
      generalize 1 + r = b at *
      clear hpq0 hpq1 hp0 hp1 hq0 hq1 hr0 hr1
      go_wp2_with fail
      by_cases ha : a < 0
      · have hrt := implRootOf_any a w1 (by omega)
        rw [root_neg a ha] at hrt
        refine hrt.mono ?_
        clear hrt
        rintro e w' ⟨rfl, rfl⟩
        go_wp2_with fail
        refine (implDivRound_any a b _).mono ?_
        rintro e w2 ⟨rfl, hb2⟩
        obtain ⟨hdn, hd1, hd2, hd3, hd4⟩ := div_fact a b ha0 ha1 hbp hbq
        have Hdn := Lib.hid hdn
        clear hdn
        generalize divRoundI a b = Q at *
        have hb02 := bnext hb1 hb2
        go_wp2_with fail
        refine (abs_any (a - Q * b) _ (by omega) (by omega)).mono ?_
        rintro e w' ⟨rfl, rfl⟩
        have habs : 0 ≤ absI (a - Q * b) ∧ 2 * absI (a - Q * b) ≤ b := by unfold absI; split <;> omega
        generalize absI (a - Q * b) = B at *
        obtain ⟨hB0, hB1⟩ := habs
        have hB2 : ¬ b < 2 * B := by omega
        go_wp2_with fail
        refine (implDivRound_any (-a) b _).mono ?_
        rintro e w3 ⟨rfl, hb3⟩
        rw [Hdn.out]
        have hqq : ((-Q) != (-Q)) = false := by simp
        have hb03 := bnext hb02 hb3
        go_wp2_with fail
        refine (wide_any a1 len1 cap1 z1 0 _ _ (w1a.next hb03) (by omega) (by omega) (by omega)).mono ?_
        rintro e w4 ⟨x, rfl, hx0, hx1, ⟨k4, rfl⟩⟩
        have hb04 := below_drewN hb03 k4
        go_wp2_with fail
        refine (wide_any a1 len1 cap1 z1 2 _ _ (w1a.next hb04) (by omega) (by omega) (by omega)).mono ?_
        rintro e w5 ⟨y, rfl, hy0, hy1, ⟨k5, rfl⟩⟩
        have hb05 : Below w.heap.size w (w3.drewN (k4 + k5)) := below_drewN hb03 _
        go_wp2_with fail
        refine (wide_any a1 len1 cap1 z1 4 _ _ (w1a.next hb05) (by omega) (by omega) (by omega)).mono ?_
        rintro e w6 ⟨z, rfl, hz0', hz1', ⟨k6, rfl⟩⟩
        have hb06 : Below w.heap.size w (w3.drewN (k4 + k5 + k6)) := below_drewN hb03 _
        go_wp2_with fail
        have hY0 : -2500 ≤ y - 2500 := by omega
        have hY1 : y - 2500 < 2500 := by omega
        have hZ0 : -2500 ≤ z - 2500 := by omega
        have hZ1 : z - 2500 < 2500 := by omega
        generalize y - 2500 = Y at *
        generalize z - 2500 = Z at *
        obtain ⟨hbl, hbl0, hbl1⟩ := blend_fact Y Z x hY0 hY1 hZ0 hZ1 hx0 hx1
        have Hb0 := Lib.hid hbl0
        have Hb1 := Lib.hid hbl1
        clear hbl0 hbl1 hy0 hy1 hz0' hz1'
        refine (implBlend_any 0 Y 1000 Z x _).mono ?_
        rintro e w7 ⟨rfl, hb7⟩
        generalize blendI 0 Y 1000 Z x = V at *
        have hb07 := bnext hb06 hb7
        have hv0 : min Y Z ≤ V := by omega
        have hv1 : V ≤ max Y Z := by omega
        have hv0' : ¬ V < min Y Z := by omega
        have hv1' : ¬ max Y Z < V := by omega
        clear hbl
        go_wp2_with fail
        refine (implBlend_any 0 Y 1000 Z 0 _).mono ?_
        rintro e w8 ⟨rfl, hb8⟩
        rw [Hb0.out]
        have hb08 := bnext hb07 hb8
        go_wp2_with fail
        refine (implBlend_any 0 Y 1000 Z 1000 _).mono ?_
        rintro e w9 ⟨rfl, hb9⟩
        rw [Hb1.out]
        have hb09 := bnext hb08 hb9
        have hF9 := hL.next hb09
        have hnew : Below w9.heap.size w9 (w9.alloc (.cells #[.int .i64 a, .int .i64 b, .int .i64 x, .int .i64 Y, .int .i64 Z] 2)) := (Below.refl _ _).alloc (Nat.le_refl _) _
        have hcl := cells_five w9 2 a b x Y Z
        have hlt := implListText_any (some ⟨w9.heap.size, 0, none⟩) 5 5 [a, b, x, Y, Z] _ rfl (by decide) hcl (hF9.2.2.next hnew)
        have hb0A := bnext hb09 hnew
        have hai : inV a = true := inB_true (by omega)
        have hft := fits_five a b x Y Z (by omega) (by omega) (by omega) (by omega) (by omega)
        have hrl := read_list [a, b, x, Y, Z] hft (by simp)
        have hsz := listL_size [a, b, x, Y, Z] hft
        have hrd := fun wx (h : Facts wx) => implReadList_any (mkB (listL [a, b, x, Y, Z])) wx (by rw [mkB_size]; omega) h.1 h.2.1 h.2.2
        have hrd' : ∀ wx, Facts wx → Calls Tryd.prog 15 #[.string (mkB (listL [a, b, x, Y, Z]))] wx (RetFive a b x Y Z wx) := fun wx h => (hrd wx h).mono fun e w' hh => retFive_of hrl hh
        have hde := fun wx (h : Facts wx) => implDecimal_any a wx (by omega) (by omega) h.2.2
        have hre := fun wx (h : Facts wx) => implReadDecimal_any (mkB (Lib.itoa a)) wx (by rw [mkB_size]; have := itoa_bd a hai; omega) h.2.1 h.2.2
        have hre' : ∀ wx, Facts wx → Calls Tryd.prog 17 #[.string (mkB (Lib.itoa a))] wx fun e w' => e = .returned (.tuple #[.int .i64 a, .bool true]) ∧ Below wx.heap.size wx w' := fun wx h => (hre wx h).mono fun e w' hh => by
          have e1 := readDec_text a hai
          have e2 : (mkB (Lib.itoa a)).data.toList = Lib.itoa a := rfl
          rw [e2, e1] at hh
          exact hh
        clear hrd hre hrl hsz hft
        generalize listL [a, b, x, Y, Z] = L at *
        generalize Lib.itoa a = M at *
        have HLT := Lib.hid hlt
        have HRD := Lib.hid hrd'
        have HDE := Lib.hid hde
        have HRE := Lib.hid hre'
        have HCL := Lib.hid hcl
        clear hlt hrd' hde hre' hcl
        go_wp2_with fail
        refine HLT.out.mono ?_
        rintro e wB ⟨rfl, hbB⟩
        have hb0B := bnext hb0A hbB
        go_wp2_with fail
        refine (HRD.out _ (hL.next hb0B)).mono ?_
        rintro e wC ⟨A2, c2, rfl, hoC, hbC⟩
        have hb0C := bnext hb0B hbC
        go_wp2_with fail
        refine (HDE.out _ (hL.next hb0C)).mono ?_
        rintro e wD ⟨rfl, hbD⟩
        have hb0D := bnext hb0C hbD
        go_wp2_with fail
        refine (HRE.out _ (hL.next hb0D)).mono ?_
        rintro e wE ⟨rfl, hbE⟩
        have hb0E := bnext hb0D hbE
        have hsame := r8Same_same A2 (some ⟨w9.heap.size, 0, none⟩) c2 5 [a, b, x, Y, Z] wE (show (5 : Nat) ≤ maxLen by decide) (owns_cells (owns_below (owns_below hoC hbD (Nat.le_refl _)) hbE (Nat.le_refl _))) ((((HCL.out.next hbB).next hbC).next hbD).next hbE)
        have HSA := Lib.hid hsame
        clear hsame
        go_wp2_with fail
        refine HSA.out.mono ?_
        rintro e wF ⟨rfl, ⟨k9, rfl⟩⟩
        go_wp2
        go_ret
        exact ⟨rfl, below_drewN hb0E k9⟩
      · have hrt := implRootOf_any a w1 (by omega)
        obtain ⟨hr1, hr2, hr3, hr4⟩ := root_pos a (by omega) ha1
        generalize rootI a = rt at *
        have hr5 : 0 ≤ rt * rt := Int.mul_nonneg hr1 hr1
        have hr6 : (rt + 1) * (rt + 1) ≤ 4900140001 := Int.le_trans (Int.mul_le_mul (by omega : rt + 1 ≤ 70001) (by omega : rt + 1 ≤ 70001) (by omega) (by omega)) (by omega)
        refine hrt.mono ?_
        clear hrt
        rintro e w' ⟨rfl, rfl⟩
        go_wp2_with fail
        refine (implDivRound_any a b _).mono ?_
        rintro e w2 ⟨rfl, hb2⟩
        obtain ⟨hdn, hd1, hd2, hd3, hd4⟩ := div_fact a b ha0 ha1 hbp hbq
        have Hdn := Lib.hid hdn
        clear hdn
        generalize divRoundI a b = Q at *
        have hb02 := bnext hb1 hb2
        go_wp2_with fail
        refine (abs_any (a - Q * b) _ (by omega) (by omega)).mono ?_
        rintro e w' ⟨rfl, rfl⟩
        have habs : 0 ≤ absI (a - Q * b) ∧ 2 * absI (a - Q * b) ≤ b := by unfold absI; split <;> omega
        generalize absI (a - Q * b) = B at *
        obtain ⟨hB0, hB1⟩ := habs
        have hB2 : ¬ b < 2 * B := by omega
        go_wp2_with fail
        refine (implDivRound_any (-a) b _).mono ?_
        rintro e w3 ⟨rfl, hb3⟩
        rw [Hdn.out]
        have hqq : ((-Q) != (-Q)) = false := by simp
        have hb03 := bnext hb02 hb3
        go_wp2_with fail
        refine (wide_any a1 len1 cap1 z1 0 _ _ (w1a.next hb03) (by omega) (by omega) (by omega)).mono ?_
        rintro e w4 ⟨x, rfl, hx0, hx1, ⟨k4, rfl⟩⟩
        have hb04 := below_drewN hb03 k4
        go_wp2_with fail
        refine (wide_any a1 len1 cap1 z1 2 _ _ (w1a.next hb04) (by omega) (by omega) (by omega)).mono ?_
        rintro e w5 ⟨y, rfl, hy0, hy1, ⟨k5, rfl⟩⟩
        have hb05 : Below w.heap.size w (w3.drewN (k4 + k5)) := below_drewN hb03 _
        go_wp2_with fail
        refine (wide_any a1 len1 cap1 z1 4 _ _ (w1a.next hb05) (by omega) (by omega) (by omega)).mono ?_
        rintro e w6 ⟨z, rfl, hz0', hz1', ⟨k6, rfl⟩⟩
        have hb06 : Below w.heap.size w (w3.drewN (k4 + k5 + k6)) := below_drewN hb03 _
        go_wp2_with fail
        have hY0 : -2500 ≤ y - 2500 := by omega
        have hY1 : y - 2500 < 2500 := by omega
        have hZ0 : -2500 ≤ z - 2500 := by omega
        have hZ1 : z - 2500 < 2500 := by omega
        generalize y - 2500 = Y at *
        generalize z - 2500 = Z at *
        obtain ⟨hbl, hbl0, hbl1⟩ := blend_fact Y Z x hY0 hY1 hZ0 hZ1 hx0 hx1
        have Hb0 := Lib.hid hbl0
        have Hb1 := Lib.hid hbl1
        clear hbl0 hbl1 hy0 hy1 hz0' hz1'
        refine (implBlend_any 0 Y 1000 Z x _).mono ?_
        rintro e w7 ⟨rfl, hb7⟩
        generalize blendI 0 Y 1000 Z x = V at *
        have hb07 := bnext hb06 hb7
        have hv0 : min Y Z ≤ V := by omega
        have hv1 : V ≤ max Y Z := by omega
        have hv0' : ¬ V < min Y Z := by omega
        have hv1' : ¬ max Y Z < V := by omega
        clear hbl
        go_wp2_with fail
        refine (implBlend_any 0 Y 1000 Z 0 _).mono ?_
        rintro e w8 ⟨rfl, hb8⟩
        rw [Hb0.out]
        have hb08 := bnext hb07 hb8
        go_wp2_with fail
        refine (implBlend_any 0 Y 1000 Z 1000 _).mono ?_
        rintro e w9 ⟨rfl, hb9⟩
        rw [Hb1.out]
        have hb09 := bnext hb08 hb9
        have hF9 := hL.next hb09
        have hnew : Below w9.heap.size w9 (w9.alloc (.cells #[.int .i64 a, .int .i64 b, .int .i64 x, .int .i64 Y, .int .i64 Z] 2)) := (Below.refl _ _).alloc (Nat.le_refl _) _
        have hcl := cells_five w9 2 a b x Y Z
        have hlt := implListText_any (some ⟨w9.heap.size, 0, none⟩) 5 5 [a, b, x, Y, Z] _ rfl (by decide) hcl (hF9.2.2.next hnew)
        have hb0A := bnext hb09 hnew
        have hai : inV a = true := inB_true (by omega)
        have hft := fits_five a b x Y Z (by omega) (by omega) (by omega) (by omega) (by omega)
        have hrl := read_list [a, b, x, Y, Z] hft (by simp)
        have hsz := listL_size [a, b, x, Y, Z] hft
        have hrd := fun wx (h : Facts wx) => implReadList_any (mkB (listL [a, b, x, Y, Z])) wx (by rw [mkB_size]; omega) h.1 h.2.1 h.2.2
        have hrd' : ∀ wx, Facts wx → Calls Tryd.prog 15 #[.string (mkB (listL [a, b, x, Y, Z]))] wx (RetFive a b x Y Z wx) := fun wx h => (hrd wx h).mono fun e w' hh => retFive_of hrl hh
        have hde := fun wx (h : Facts wx) => implDecimal_any a wx (by omega) (by omega) h.2.2
        have hre := fun wx (h : Facts wx) => implReadDecimal_any (mkB (Lib.itoa a)) wx (by rw [mkB_size]; have := itoa_bd a hai; omega) h.2.1 h.2.2
        have hre' : ∀ wx, Facts wx → Calls Tryd.prog 17 #[.string (mkB (Lib.itoa a))] wx fun e w' => e = .returned (.tuple #[.int .i64 a, .bool true]) ∧ Below wx.heap.size wx w' := fun wx h => (hre wx h).mono fun e w' hh => by
          have e1 := readDec_text a hai
          have e2 : (mkB (Lib.itoa a)).data.toList = Lib.itoa a := rfl
          rw [e2, e1] at hh
          exact hh
        clear hrd hre hrl hsz hft
        generalize listL [a, b, x, Y, Z] = L at *
        generalize Lib.itoa a = M at *
        have HLT := Lib.hid hlt
        have HRD := Lib.hid hrd'
        have HDE := Lib.hid hde
        have HRE := Lib.hid hre'
        have HCL := Lib.hid hcl
        clear hlt hrd' hde hre' hcl
        go_wp2_with fail
        refine HLT.out.mono ?_
        rintro e wB ⟨rfl, hbB⟩
        have hb0B := bnext hb0A hbB
        go_wp2_with fail
        refine (HRD.out _ (hL.next hb0B)).mono ?_
        rintro e wC ⟨A2, c2, rfl, hoC, hbC⟩
        have hb0C := bnext hb0B hbC
        go_wp2_with fail
        refine (HDE.out _ (hL.next hb0C)).mono ?_
        rintro e wD ⟨rfl, hbD⟩
        have hb0D := bnext hb0C hbD
        go_wp2_with fail
        refine (HRE.out _ (hL.next hb0D)).mono ?_
        rintro e wE ⟨rfl, hbE⟩
        have hb0E := bnext hb0D hbE
        have hsame := r8Same_same A2 (some ⟨w9.heap.size, 0, none⟩) c2 5 [a, b, x, Y, Z] wE (show (5 : Nat) ≤ maxLen by decide) (owns_cells (owns_below (owns_below hoC hbD (Nat.le_refl _)) hbE (Nat.le_refl _))) ((((HCL.out.next hbB).next hbC).next hbD).next hbE)
        have HSA := Lib.hid hsame
        clear hsame
        go_wp2_with fail
        refine HSA.out.mono ?_
        rintro e wF ⟨rfl, ⟨k9, rfl⟩⟩
        go_wp2
        go_ret
        exact ⟨rfl, below_drewN hb0E k9⟩
    · go_enter Tryd.func3, Tryd.ntmps3
      go_wp2_with fail
      refine (long_yes2 a0 a1 cap0 cap1 len0 len1 _ hz0 (by omega) hn1).mono ?_
      rintro e w' ⟨rfl, rfl⟩
      go_wp2
      go_ret
      exact ⟨rfl, Below.refl _ _⟩
  · go_enter Tryd.func3, Tryd.ntmps3
    go_wp2_with fail
    refine (long_yes1 a0 a1 cap0 cap1 len0 len1 _ (by omega) hn0).mono ?_
    rintro e w' ⟨rfl, rfl⟩
    go_wp2
    go_ret
    exact ⟨rfl, Below.refl _ _⟩

theorem own : ownKnob Tryd.prog.godebug = none := by kernel_rfl
theorem laidOut : laidOutB Tryd.prog = true := by kernel_rfl

/-- A WORLD FOR THE WITNESS: the heap that the start-up code's own run leaves. -/
theorem laid_met (os : Os) : laidMet Tryd.prog Rows.fnBasicsRow.laid ((World.laidAll Tryd.prog os Rows.fnBasicsRow.laid).forCall (fun _ _ => 0) ⟨#[], #[.slice none 0 0, .slice none 0 0], []⟩).memory :=
  laidMet_laidAll _ (by kernel_rfl) (by kernel_rfl)
theorem reads (os : Os) {H : Type} (enc : TypeId × Value → H) : ∃ x places, DataW.whole enc Tryd.prog ((World.laidAll Tryd.prog os Rows.fnBasicsRow.laid).forCall (fun _ _ => 0) ⟨#[], #[.slice none 0 0, .slice none 0 0], []⟩).memory Tryd.f3.params.toList Rows.fnBasicsSpec.vars false (#[.slice none 0 0, .slice none 0 0] : Array Value).toList 8 = some (x, [], places) :=
  ⟨[.nil, .nil], [], by kernel_rfl⟩

set_option maxRecDepth 100000 in
theorem lifted (os : Os) (started : os.Started) (H : Type) (enc : TypeId × Value → H) (F : Stop.Interp) :
    ReturnsInHanded {} Tryd.checked os 3 .any ((OpenSpec.ofChange Rows.fnBasicsSpec).preRow enc Tryd.prog Tryd.f3 Rows.fnBasicsRow.domain false Rows.fnBasicsRow.laid) (((OpenSpec.ofChange Rows.fnBasicsSpec).at F).post enc Tryd.prog Tryd.f3 false true false false) := by
  obtain ⟨x, places, hx⟩ := reads os enc
  refine returnsInHanded_of_row (C := Tryd.checked) (s := OpenSpec.ofChange Rows.fnBasicsSpec) own started (by kernel_rfl) Tryd.func3
    (witness_row_atRef (enc := enc) (C := Tryd.checked) false (World.laidAll Tryd.prog os Rows.fnBasicsRow.laid) #[.slice none 0 0, .slice none 0 0] (World.laidAll_os _ _ _) (by kernel_rfl) (by kernel_rfl) (by kernel_rfl)
      (OpenSpec.preRow_of_cond 8 hx (by kernel_rfl) (fun k hk => by cases hk) (by kernel_rfl) (laid_met os))) ?_
  intro W base args ds gs before hval0 hW hcnd _ _ hLaid hShaped _
  have hL := laid_facts hLaid hShaped
  have hval : ∀ (j : Nat) t v, Tryd.f3.params[j]? = some t → args[j]? = some v → Value.okWide Tryd.prog W .any base t v := hval0
  have hW' := hW
  obtain ⟨p, q, hA0, hV, rfl, hfz, hnd⟩ := hW
  have hA : DataW.TrodAll enc Tryd.prog W 0 (fun _ => true) true Tryd.f3.params.toList args.toList ds p := hA0
  rw [Tryd.params3] at hA hval
  obtain ⟨v0, vs0, d0, ds0, p0, q0, hargs, rfl, rfl, h0, r0⟩ := trodAll_cons hA
  obtain ⟨v1, vs1, d1, ds1, p1, q1, rfl, rfl, rfl, h1, r1⟩ := trodAll_cons r0
  obtain ⟨rfl, rfl, rfl⟩ := trodAll_nil r1
  obtain rfl : args = #[v0, v1] := by cases args; simp_all
  obtain ⟨rfl, rfl⟩ := trodVars_none hV
  obtain ⟨a0, len0, cap0, rfl⟩ := okWide_slice Tryd.underlying22 (hval 0 22 v0 rfl rfl)
  have k0 := h0
  have lt0 : ∀ x ∈ p0, x.block < W.heap.size := by obtain ⟨m, hm⟩ := k0; exact DataW.trod_lt m _ _ _ hm
  obtain ⟨z0, w0⟩ : ∃ zs, SliceIn .u8 W a0 len0 zs := by
    obtain ⟨fuel, hf⟩ := h0
    rcases open_ints Tryd.underlying22 Tryd.underlying5 (by kernel_rfl) hf with ⟨hcs, _⟩ | ⟨x, l, c, zs, hcs, _, hl, hm, hz, _, hcell, hwz⟩
    · simp [Value.cells] at hcs
      obtain ⟨rfl, rfl, rfl⟩ := hcs
      exact ⟨[], SliceIn.nil _ _⟩
    · simp [Value.cells] at hcs
      obtain ⟨rfl, rfl, rfl⟩ := hcs
      exact ⟨_, SliceIn.row hl hm (by simpa using hz) hcell hwz⟩
  obtain ⟨a1, len1, cap1, rfl⟩ := okWide_slice Tryd.underlying22 (hval 1 22 v1 rfl rfl)
  have k1 := h1
  have lt1 : ∀ x ∈ p1, x.block < W.heap.size := by obtain ⟨m, hm⟩ := k1; exact DataW.trod_lt m _ _ _ hm
  obtain ⟨z1, w1⟩ : ∃ zs, SliceIn .u8 W a1 len1 zs := by
    obtain ⟨fuel, hf⟩ := h1
    rcases open_ints Tryd.underlying22 Tryd.underlying5 (by kernel_rfl) hf with ⟨hcs, _⟩ | ⟨x, l, c, zs, hcs, _, hl, hm, hz, _, hcell, hwz⟩
    · simp [Value.cells] at hcs
      obtain ⟨rfl, rfl, rfl⟩ := hcs
      exact ⟨[], SliceIn.nil _ _⟩
    · simp [Value.cells] at hcs
      obtain ⟨rfl, rfl, rfl⟩ := hcs
      exact ⟨_, SliceIn.row hl hm (by simpa using hz) hcell hwz⟩
  clear hA0 hval0
  refine (walk a0 len0 cap0 z0 a1 len1 cap1 z1 W w0 w1 hL).mono fun e W' ⟨he, bel⟩ => ?_
  subst he
  exact ⟨_, rfl, _, _, _, [], _, [], hW', trodAll_mk1 (shut_bool Tryd.underlying4 _), (trodAll_cons_mk (Below.trod laidOut (by kernel_rfl) (of_decide_eq_true (by kernel_rfl)) k0 bel lt0) (trodAll_cons_mk (Below.trod laidOut (by kernel_rfl) (of_decide_eq_true (by kernel_rfl)) k1 bel lt1) trodAll_mk0)), rfl, bel.frame _, fun h => by cases h⟩

theorem said : Rows.FnBasicsSaid :=
  OpenClaim.holds_of_cond 3 Tryd.f3 rfl rfl rfl rfl rfl rfl rfl ⟨rfl, rfl, rfl, rfl, rfl⟩ rfl rfl rfl rfl rfl (by kernel_rfl) Tryd.func3 (by kernel_rfl)
    (of_decide_eq_true (by kernel_rfl)) (by unfold Func.isWrapper; first | (rw [if_pos (by decide +kernel)]; kernel_rfl) | (rw [if_neg (by decide +kernel)]; exact ⟨rfl, rfl⟩))
    (fun os started H enc _ F => by rw [OpenClaim.pre_eq_preRow]; exact lifted os started H enc F)

theorem plain (f : FuncId) (fn : Func) (hf : Tryd.pinned.checked.prog.funcNamed "loop.example/g01011/laws.FnBasics" = some f) (hfn : Tryd.pinned.checked.prog.funcs[f]? = some fn) :
    true = Tryd.pinned.checked.prog.looks [] ∧ ∀ (j : Nat) t, fn.params[j]? = some t → Tryd.pinned.checked.prog.wantsStandIn t = false := by
  obtain rfl : f = 3 := Option.some.inj ((show Tryd.prog.funcNamed "loop.example/g01011/laws.FnBasics" = some 3 by kernel_rfl).symm.trans hf) |>.symm
  obtain rfl : fn = Tryd.f3 := (Option.some.inj (Tryd.func3.symm.trans hfn)).symm
  refine ⟨by kernel_rfl, fun j t ht => ?_⟩
  rw [Tryd.params3] at ht
  have hm : t ∈ [22, 22] := by simpa using Array.mem_of_getElem? ht
  have hall : ([22, 22].all fun u => !Tryd.prog.wantsStandIn u) = true := by kernel_rfl
  exact (show Tryd.prog.wantsStandIn t = false by simpa using List.all_eq_true.1 hall t hm)

theorem proved : Rows.FnBasicsCardSaid :=
  Claim7.holds_tied_plain_at .later [] _ _ _ _ said (fun _ h => by cases h) (by kernel_rfl) (fun _ h => by cases h) fnBasics_row_tie rfl ⟨rfl, rfl⟩ (by kernel_rfl) rfl plain (by kernel_rfl)
#print axioms proved
end Go.Proofs.YtgakfpmeedmodaaDoor.fnBasics

