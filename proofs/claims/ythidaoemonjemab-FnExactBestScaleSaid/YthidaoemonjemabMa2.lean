/-
  Readings that are odd: both sides.
-/
import Derived.Test.YthidaoemonjemabMa1
namespace Go.Proofs.Ythidaoemonjemab
open Go.ChangeShapes Go.WideShapes Go.ChangeAt Go.RowKit

set_option maxRecDepth 100000
set_option maxHeartbeats 1600000
set_option linter.unusedVariables false

def isOdd (xs : List Rg) (most : Int) (i : Nat) : Bool := decide (most < pwI xs i) || decide ((rgAt xs (i + 1)).c = (rgAt xs i).c)
def oddTo (xs : List Rg) (most : Int) (k : Nat) : List Int := ((List.range k).filter (isOdd xs most)).map fun (i : Nat) => (i : Int) + 1
theorem oddTo_yes (xs : List Rg) (most : Int) (k : Nat) (h : isOdd xs most k = true) : oddTo xs most (k + 1) = oddTo xs most k ++ [(k : Int) + 1] := by
  unfold oddTo; rw [List.range_succ, List.filter_append, List.map_append]; simp [h]
theorem oddTo_no (xs : List Rg) (most : Int) (k : Nat) (h : isOdd xs most k = false) : oddTo xs most (k + 1) = oddTo xs most k := by
  unfold oddTo; rw [List.range_succ, List.filter_append, List.map_append]; simp [h]
theorem oddTo_length (xs : List Rg) (most : Int) (k : Nat) : (oddTo xs most k).length ≤ k := by
  unfold oddTo; rw [List.length_map]; exact Nat.le_trans (List.length_filter_le _ _) (by simp)
def oddReadingsX (xs : List Rg) (most : Int) : List Int := if okRs xs = true ∧ 0 ≤ most then oddTo xs most (xs.length - 1) else []
def oddReadingsC (xs : List Rg) (most : Int) : Int := if okRs xs = true then (if 0 ≤ most then 0 else 2) else 1
theorem oddReadingsX_short (xs : List Rg) (most : Int) : (oddReadingsX xs most).length ≤ 1048576 := by
  unfold oddReadingsX
  split
  · next h => have := (okRs_parts h.1).1; have := oddTo_length xs most (xs.length - 1); omega
  · simp
theorem odd_ok {xs : List Rg} {most : Int} (h : okRs xs = true) (h0 : 0 ≤ most) : oddReadingsX xs most = oddTo xs most (xs.length - 1) ∧ oddReadingsC xs most = 0 := by
  unfold oddReadingsX oddReadingsC; rw [if_pos ⟨h, h0⟩, if_pos h, if_pos h0]; exact ⟨rfl, rfl⟩
theorem odd_neg {xs : List Rg} {most : Int} (h : okRs xs = true) (h0 : ¬ 0 ≤ most) : oddReadingsX xs most = [] ∧ oddReadingsC xs most = 2 := by
  unfold oddReadingsX oddReadingsC; rw [if_neg (fun k => h0 k.2), if_pos h, if_neg h0]; exact ⟨rfl, rfl⟩
theorem odd_no {xs : List Rg} {most : Int} (h : okRs xs = false) : oddReadingsX xs most = [] ∧ oddReadingsC xs most = 1 := by
  unfold oddReadingsX oddReadingsC; rw [if_neg (by rw [h]; simp), if_neg (by rw [h]; simp)]; exact ⟨rfl, rfl⟩
theorem powCell {xs : List Rg} {w : World} {P : Option Addr} (h : CellsAt w P (intsV (powI xs))) (h0 : 1 < xs.length) : ∃ b o, P = some ⟨b, o, none⟩ ∧ ∀ k, k + 1 < xs.length → w.cell? ⟨b, o + k, none⟩ = some (.int .i64 (pwI xs k)) := by
  obtain ⟨b, o, rfl, hc⟩ := h (by rw [intsV_length, powI_length]; omega)
  refine ⟨b, o, rfl, fun k hk => ?_⟩
  have hk' : k < (powI xs).length := by rw [powI_length]; omega
  rw [hc k (by rw [intsV_length]; exact hk'), intsV_at _ _ hk']
  have := powI_at xs k (by omega)
  rw [List.getElem?_eq_getElem hk'] at this
  injection this with this
  rw [this]

theorem specOddReadings_ic (A : Option Addr) (n c : Nat) (xs : List Rg) (most : Int) (w : World) (h : RgsOk w A n xs) :
    Calls Try.prog 32 #[.slice A n c, .int .i64 most] w (RetIC (oddReadingsX xs most) (oddReadingsC xs most) w) := by
  have HO := Lib.hid (l06Ok_any A n c xs w h)
  by_cases ho : okRs xs = true
  rotate_left
  · have ho : okRs xs = false := by simpa only [Bool.not_eq_true] using ho
    rw [(odd_no ho).1, (odd_no ho).2]
    go_enter Try.func32, Try.ntmps32
    go_wp2_with fail
    refine HO.out.mono ?_
    rintro e w1 ⟨rfl, ⟨k, rfl⟩⟩
    rw [ho]
    go_wp2
    go_ret2
    exact retIC_nil rfl (below_drewN (Below.refl _ _) _)
  by_cases h0 : 0 ≤ most
  rotate_left
  · rw [(odd_neg ho h0).1, (odd_neg ho h0).2]
    have h0' : most < 0 := by omega
    go_enter Try.func32, Try.ntmps32
    go_wp2_with fail
    refine HO.out.mono ?_
    rintro e w1 ⟨rfl, ⟨k, rfl⟩⟩
    rw [ho]
    go_wp2
    go_ret2
    exact retIC_nil rfl (below_drewN (Below.refl _ _) _)
  rw [(odd_ok ho h0).1, (odd_ok ho h0).2]
  have HP := Lib.hid (fun (k : Nat) => l06Powers_any A n c xs (w.drewN k) (h.go (below_drewN (Below.refl _ _) k)) ho)
  obtain ⟨i0, hi, hz0, hz1, hz2⟩ := info_parts infoI64
  have hn : n ≤ 48 := by have := (okRs_parts ho).1; have := h.1.1; omega
  obtain rfl := h.1.1
  have HB := Lib.hid h.cells
  clear h
  go_enter Try.func32, Try.ntmps32
  go_wp2_with fail
  refine HO.out.mono ?_
  rintro e w1 ⟨rfl, ⟨kd, rfl⟩⟩
  rw [ho]
  clear ho
  go_wp2_with fail
  refine (HP.out _).mono ?_
  rintro e w2 ⟨P, pc, rfl, hown, hb2⟩
  have hb0 : Below w.heap.size w w2 := bnext (below_drewN (Below.refl _ _) kd) hb2
  have HPC := Lib.hid (owns_cells hown)
  rw [intsV_length, powI_length]
  have hsz : w.heap.size ≤ w2.heap.size := hb0.size
  clear hown hb2 HO HP
  go_wp2
  go_loopw [7, 8] (fun v i wr => ∃ (k l : Nat) (T : Option Addr) (td : Nat), k ≤ xs.length - 1 ∧ l ≤ k ∧ i = .int .i64 k ∧ v = .slice T l td ∧ wr.ownsRow w2.heap.size 2 1 (.slice T l td) l (intsV (oddTo xs most k)) ∧ Below w2.heap.size w2 wr) (fun _ i _ => xs.length - (intOf i).toNat)
  case atStart => exact ⟨0, 0, _, _, by omega, by omega, rfl, rfl, owns_empty _ _ _ (Nat.le_refl _), bal (Below.refl _ _) _⟩
  case round =>
    obtain ⟨k, l, T, td, hk, hlk, rfl, rfl, hro, hb⟩ := hrel
    by_cases hlt : k < xs.length - 1
    · obtain ⟨b, off, rfl, hrow⟩ := RgO.at (HB.out.next (bnext hb0 hb)) (by omega)
      obtain ⟨pb, po, rfl, hpw⟩ := powCell (HPC.out.next hb) (by omega)
      have p2 := hpw k (by omega)
      have HY := Lib.hid (oddTo_yes xs most k)
      have HN := Lib.hid (oddTo_no xs most k)
      have ⟨p0, p1⟩ := hrow (k + 1) _ (rgAt_some xs (k + 1) (by omega))
      have ⟨q0, q1⟩ := hrow k _ (rgAt_some xs k (by omega))
      have HOD : Hid (isOdd xs most k = (decide (most < pwI xs k) || decide ((rgAt xs (k + 1)).c = (rgAt xs k).c))) := Lib.hid rfl
      generalize pwI xs k = v at *
      generalize rgAt xs (k + 1) = p at *
      generalize rgAt xs k = q at *
      clear hrow hpw
      have hk1 : (k : Int) < ((xs.length - 1 : Nat) : Int) := by omega
      have hk2 : (k : Int) + 1 < (xs.length : Int) := by omega
      have hk3 : (0 : Int) ≤ (k : Int) + 1 := by omega
      have hk4 : ((k : Int) + 1).toNat = k + 1 := by omega
      have hl48 : l ≤ 48 := by omega
      by_cases hm : most < v
      · have HT := Lib.hid (HY.out (by rw [HOD.out, decide_eq_true hm]; rfl))
        clear HOD HY HN
        have hmd : decide (most < v) = true := decide_eq_true hm
        go_wp2_with fail
        go_quiet (fail)
        have hb1 : Below w2.heap.size w2 (wr.drewN nq) := below_drewN hb nq
        have hro1 := owns_below hro (below_drewN (Below.refl wr.heap.size wr) nq) (Nat.le_refl _)
        go_wp2_with (at_builtin; refine wpList_append_own _ rfl _ _ 23 rfl w2.heap.size 2 i0 (.int .i64 0) 1 8 Try.underlying23 hi hz0 hz1 hz2 rfl (by decide) _ _ _ rfl (hro1.alloc _) ⟨wr.heap.size, 0, none⟩ 1 1 [.int .i64 ((k : Int) + 1)] rfl rfl (cell_one_new _ _ _) (by simp [Value.oneCell']) ?_ ?_ ?_ ?_; (unfold maxLen; omega); (omega); (have := hb.size; simp; omega); intro v4 w4 hown4 hgrow4 _; obtain ⟨T4, d4, rfl⟩ := owns_form hown4)
        go_roundw
        case rel => exact ⟨k + 1, l + 1, T4, d4, by omega, by omega, by go_num, rfl, by rw [HT.out, intsV_snoc]; exact hown4, (bal hb1 _).grown hgrow4 (by have := hb.size; simp; omega) (owns_ge hro)⟩
        case measure => simp [intOf]; omega
      · have hmd : decide (most < v) = false := decide_eq_false hm
        have hm' : v ≤ most := by omega
        by_cases hc : p.c = q.c
        · have HT := Lib.hid (HY.out (by rw [HOD.out, hmd, decide_eq_true hc]; rfl))
          clear HOD HY HN
          have hcd : (p.c == q.c) = true := by simpa using hc
          rw [hc] at p1
          go_wp2_with fail
          go_quiet (fail)
          have hb1 : Below w2.heap.size w2 (wr.drewN nq) := below_drewN hb nq
          have hro1 := owns_below hro (below_drewN (Below.refl wr.heap.size wr) nq) (Nat.le_refl _)
          go_wp2_with (at_builtin; refine wpList_append_own _ rfl _ _ 23 rfl w2.heap.size 2 i0 (.int .i64 0) 1 8 Try.underlying23 hi hz0 hz1 hz2 rfl (by decide) _ _ _ rfl (hro1.alloc _) ⟨wr.heap.size, 0, none⟩ 1 1 [.int .i64 ((k : Int) + 1)] rfl rfl (cell_one_new _ _ _) (by simp [Value.oneCell']) ?_ ?_ ?_ ?_; (unfold maxLen; omega); (omega); (have := hb.size; simp; omega); intro v4 w4 hown4 hgrow4 _; obtain ⟨T4, d4, rfl⟩ := owns_form hown4)
          go_roundw
          case rel => exact ⟨k + 1, l + 1, T4, d4, by omega, by omega, by go_num, rfl, by rw [HT.out, intsV_snoc]; exact hown4, (bal hb1 _).grown hgrow4 (by have := hb.size; simp; omega) (owns_ge hro)⟩
          case measure => simp [intOf]; omega
        · have HT := Lib.hid (HN.out (by rw [HOD.out, hmd, decide_eq_false hc]; rfl))
          clear HOD HY HN
          have hcd : (p.c == q.c) = false := by simpa using hc
          go_wp2_with fail
          go_quiet (fail)
          have hb1 : Below w2.heap.size w2 (wr.drewN nq) := below_drewN hb nq
          have hro1 := owns_below hro (below_drewN (Below.refl wr.heap.size wr) nq) (Nat.le_refl _)
          go_wp2
          go_roundw
          case rel => exact ⟨k + 1, l, T, td, by omega, by omega, by go_num, rfl, by rw [HT.out]; exact hro1, hb1⟩
          case measure => simp [intOf]; omega
    · have e : k = xs.length - 1 := by omega
      subst e
      go_wp2
      go_ret2
      exact retIC_mk rfl hro hsz (bnext hb0 hb)

theorem implOddReadings_ic (A : Option Addr) (n c : Nat) (xs : List Rg) (most : Int) (w : World) (h : RgsOk w A n xs) :
    Calls Try.prog 33 #[.slice A n c, .int .i64 most] w (RetIC (oddReadingsX xs most) (oddReadingsC xs most) w) := by
  have HM := Lib.hid (newMeter_any A n c xs w h)
  by_cases ho : okRs xs = true
  rotate_left
  · have ho : okRs xs = false := by simpa only [Bool.not_eq_true] using ho
    rw [(odd_no ho).1, (odd_no ho).2]
    go_enter Try.func33, Try.ntmps33
    go_wp2_with fail
    refine HM.out.mono ?_
    rintro e w1 (⟨hn, -⟩ | ⟨-, rfl, hb⟩)
    · rw [ho] at hn; cases hn
    clear ho
    go_wp2
    go_ret2
    exact retIC_nil rfl (bal hb _)
  by_cases h0 : 0 ≤ most
  rotate_left
  · rw [(odd_neg ho h0).1, (odd_neg ho h0).2]
    have h0' : most < 0 := by omega
    go_enter Try.func33, Try.ntmps33
    go_wp2_with fail
    refine HM.out.mono ?_
    rintro e w1 (⟨-, T, td, rfl, hown, hb⟩ | ⟨hn, -, -⟩)
    rotate_left
    · rw [ho] at hn; cases hn
    clear ho
    go_wp2
    go_ret2
    exact retIC_nil rfl (bal hb _)
  rw [(odd_ok ho h0).1, (odd_ok ho h0).2]
  obtain ⟨i0, hi, hz0, hz1, hz2⟩ := info_parts infoI64
  have hn : n ≤ 48 := by have := (okRs_parts ho).1; have := h.1.1; omega
  obtain rfl := h.1.1
  have HB := Lib.hid h.cells
  clear h
  go_enter Try.func33, Try.ntmps33
  go_wp2_with fail
  refine HM.out.mono ?_
  rintro e w1 (⟨-, P, pd, rfl, hown, hb1⟩ | ⟨hn, -, -⟩)
  rotate_left
  · rw [ho] at hn; cases hn
  clear ho HM
  rw [powI_length] at hown ⊢
  have hb0 : Below w.heap.size w (w1.alloc (.cells #[.slice A xs.length c, .slice P (xs.length - 1) pd] 89)) := bal hb1 _
  have HM := Lib.hid (Two.new w1 (.slice A xs.length c) (.slice P (xs.length - 1) pd) 89)
  have HPC := Lib.hid ((owns_cells hown).next (bal (Below.refl _ _) (.cells #[.slice A xs.length c, .slice P (xs.length - 1) pd] 89)))
  have hsz : w.heap.size ≤ w1.heap.size := hb1.size
  have ⟨m0, m1, m2, m3⟩ := HM.out
  have HPL := Lib.hid (owns_lies hown)
  clear hown hb1
  go_wp2
  go_loopw [8, 26] (fun v i wr => ∃ (k l : Nat) (T : Option Addr) (td : Nat), k ≤ xs.length - 1 ∧ l ≤ k ∧ i = .int .i64 k ∧ v = .slice T l td ∧ wr.ownsRow (w1.heap.size + 1) 2 1 (.slice T l td) l (intsV (oddTo xs most k)) ∧ Below w.heap.size w wr ∧ w1.heap.size + 1 ≤ wr.heap.size ∧ Hid (Two wr w1.heap.size (.slice A xs.length c) (.slice P (xs.length - 1) pd)) ∧ Hid (CellsAt wr P (intsV (powI xs)))) (fun _ i _ => xs.length - (intOf i).toNat)
  case atStart => exact ⟨0, 0, none, 0, by omega, by omega, rfl, rfl, World.ownsRow_nil _ _ _ _, hb0, by simp, HM, HPC⟩
  case round =>
    clear HM HPC m0 m1 m2 m3
    obtain ⟨k, l, T, td, hk, hlk, rfl, rfl, hro, hb, hsz1, HM, HPC⟩ := hrel
    by_cases hlt : k < xs.length - 1
    · obtain ⟨b, off, rfl, hrow⟩ := RgO.at (HB.out.next hb) (by omega)
      obtain ⟨pb, po, rfl, hpw⟩ := powCell HPC.out (by omega)
      have p2 := hpw k (by omega)
      have HY := Lib.hid (oddTo_yes xs most k)
      have HN := Lib.hid (oddTo_no xs most k)
      have ⟨p0, p1⟩ := hrow (k + 1) _ (rgAt_some xs (k + 1) (by omega))
      have ⟨q0, q1⟩ := hrow k _ (rgAt_some xs k (by omega))
      have HOD : Hid (isOdd xs most k = (decide (most < pwI xs k) || decide ((rgAt xs (k + 1)).c = (rgAt xs k).c))) := Lib.hid rfl
      generalize pwI xs k = v at *
      generalize rgAt xs (k + 1) = p at *
      generalize rgAt xs k = q at *
      clear hrow hpw
      have hk1 : (k : Int) < ((xs.length - 1 : Nat) : Int) := by omega
      have hk0 : (0 : Int) ≤ (k : Int) := by omega
      have hk6 : (k : Int) < (xs.length : Int) := by omega
      have hk7 : k < xs.length := by omega
      have hk8 : k + 1 < xs.length := by omega
      have hk2 : (k : Int) + 1 < (xs.length : Int) := by omega
      have hk3 : (0 : Int) ≤ (k : Int) + 1 := by omega
      have hk4 : ((k : Int) + 1).toNat = k + 1 := by omega
      have hk5 : IntKind.i64.wrap ((k : Int) + 1) = (k : Int) + 1 := IntWalk.i64_in _ (by omega)
      have hl48 : l ≤ 48 := by omega
      have ⟨m0, m1, m2, m3⟩ := HM.out
      have n0 := World.new_ne wr _ p0
      have n1 := World.new_ne wr _ m0
      go_upto_region 10 with fail
      go_cut [11, 12] (fun s6 s7 wx => ∃ b6 b7 : Nat, s6 = .pointer (some ⟨b6, 0, none⟩) ∧ s7 = .pointer (some ⟨b7, 0, none⟩) ∧ Hid (RgO wx b6 0 q) ∧ Hid (RgO wx b7 0 p) ∧ Below wr.heap.size wr wx)
      case first =>
        go_wp2_with fail
        go_region_held3 (fun w' => w'.cell? ⟨b, off + (k + 1) * 2, none⟩ = some (.int .i64 p.h) ∧ w'.cell? ⟨b, off + (k + 1) * 2 + 1, none⟩ = some (.int .i64 p.c) ∧ w'.cell? ⟨b, off + k * 2, none⟩ = some (.int .i64 q.h) ∧ w'.cell? ⟨b, off + k * 2 + 1, none⟩ = some (.int .i64 q.c) ∧ w'.cell? ⟨w1.heap.size, 0, none⟩ = some (.slice (some ⟨b, off, none⟩) xs.length c)) (go_keep) ((fail))
        all_goals (
          have X1 := rg_pair wr q p 44
          have X2 := rg_pair wr p q 44
          go_wp2
          go_meet
          first | exact ⟨_, _, rfl, rfl, Lib.hid X1.1, Lib.hid X1.2.1, X1.2.2⟩ | exact ⟨_, _, rfl, rfl, Lib.hid X2.2.1, Lib.hid X2.1, X2.2.2⟩)
      case rest =>
        obtain ⟨b6, b7, rfl, rfl, H6, H7, hbx⟩ := hcut
        have hb2 := bnext hb hbx
        have HM2 := Lib.hid (HM.out.next hbx)
        have HPC2 := Lib.hid (HPC.out.next hbx)
        have hro2 := owns_below hro hbx (Nat.le_refl _)
        have HLO := Lib.hid (fun (q : Nat) (hq : (Value.slice T l td).ownBlock = some q) => owns_ge hro2 q hq)
        have hsz2 := hbx.size
        have ⟨q2, q3⟩ := H6.out
        have ⟨p3, p4⟩ := H7.out
        clear hbx hb hro HM HPC m0 m1 m2 m3 p0 p1 p2 q0 q1
        by_cases hm : most < v
        · have HT := Lib.hid (HY.out (by rw [HOD.out, decide_eq_true hm]; rfl))
          clear HOD HY HN
          have hmd : decide (most < v) = true := decide_eq_true hm
          go_wp2_with (at_builtin; refine wpList_append_own _ rfl _ _ 23 rfl (w1.heap.size + 1) 2 i0 (.int .i64 0) 1 8 Try.underlying23 hi hz0 hz1 hz2 rfl (by decide) _ _ _ rfl (hro2.alloc _) ⟨wc.heap.size, 0, none⟩ 1 1 [.int .i64 ((k : Int) + 1)] rfl rfl (cell_one_new _ _ _) (by simp [Value.oneCell']) ?_ ?_ ?_ ?_; (unfold maxLen; omega); (omega); (have := hb2.size; simp; omega); intro v4 w4 hown4 hgrow4 _; obtain ⟨T4, d4, rfl⟩ := owns_form hown4)
          go_roundw
          case rel => exact ⟨k + 1, l + 1, T4, d4, by omega, by omega, by go_num, rfl, by rw [HT.out, intsV_snoc]; exact hown4, (bal hb2 _).grown hgrow4 (by have := hb2.size; simp; omega) (fun q hq => by have := owns_ge hro2 q hq; omega), by have := hgrow4.size; simp at this; omega, Lib.hid ((HM2.out.next (bal (Below.refl _ _) _)).grown hgrow4 (fun e => by have := HLO.out _ e.symm; omega)), Lib.hid ((HPC2.out.next (bal (Below.refl _ _) _)).keep (fun b off e => hgrow4.block b (by have := HPL.out b off e; simp; omega) (fun e2 => by have := HLO.out _ e2.symm; have := HPL.out b off e; omega)))⟩
          case measure => simp [intOf]; omega
        · have hmd : decide (most < v) = false := decide_eq_false hm
          have hm' : v ≤ most := by omega
          by_cases hc : p.c = q.c
          · have HT := Lib.hid (HY.out (by rw [HOD.out, hmd, decide_eq_true hc]; rfl))
            clear HOD HY HN
            have hcd : (p.c == q.c) = true := by simpa using hc
            rw [hc] at p4
            go_wp2_with (at_builtin; refine wpList_append_own _ rfl _ _ 23 rfl (w1.heap.size + 1) 2 i0 (.int .i64 0) 1 8 Try.underlying23 hi hz0 hz1 hz2 rfl (by decide) _ _ _ rfl (hro2.alloc _) ⟨wc.heap.size, 0, none⟩ 1 1 [.int .i64 ((k : Int) + 1)] rfl rfl (cell_one_new _ _ _) (by simp [Value.oneCell']) ?_ ?_ ?_ ?_; (unfold maxLen; omega); (omega); (have := hb2.size; simp; omega); intro v4 w4 hown4 hgrow4 _; obtain ⟨T4, d4, rfl⟩ := owns_form hown4)
            go_roundw
            case rel => exact ⟨k + 1, l + 1, T4, d4, by omega, by omega, by go_num, rfl, by rw [HT.out, intsV_snoc]; exact hown4, (bal hb2 _).grown hgrow4 (by have := hb2.size; simp; omega) (fun q hq => by have := owns_ge hro2 q hq; omega), by have := hgrow4.size; simp at this; omega, Lib.hid ((HM2.out.next (bal (Below.refl _ _) _)).grown hgrow4 (fun e => by have := HLO.out _ e.symm; omega)), Lib.hid ((HPC2.out.next (bal (Below.refl _ _) _)).keep (fun b off e => hgrow4.block b (by have := HPL.out b off e; simp; omega) (fun e2 => by have := HLO.out _ e2.symm; have := HPL.out b off e; omega)))⟩
            case measure => simp [intOf]; omega
          · have HT := Lib.hid (HN.out (by rw [HOD.out, hmd, decide_eq_false hc]; rfl))
            clear HOD HY HN
            have hcd : (p.c == q.c) = false := by simpa using hc
            go_wp2
            go_roundw
            case rel => exact ⟨k + 1, l, T, td, by omega, by omega, by go_num, rfl, by rw [HT.out]; exact hro2, hb2, by omega, HM2, HPC2⟩
            case measure => simp [intOf]; omega
    · have e : k = xs.length - 1 := by omega
      subst e
      go_wp2
      go_ret2
      exact retIC_mk rfl hro (by omega) hb

end Go.Proofs.Ythidaoemonjemab
