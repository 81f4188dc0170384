/-
  FnExactPeakHours: for every input the law returns true and its arguments read as before. No condition.
-/
import Derived.Test.YthidaoemonjemacMb7
import Derived.Test.YthidaoemonjemacRg1
import Derived.Test.YthidaoemonjemacRg2
import Derived.Test.YthidaoemonjemacRg5
import Derived.Test.YthidaoemonjemacM2
import Derived.Test.YthidaoemonjemacGs
import Derived.Test.YthidaoemonjemacFl
import Derived.Test.YthidaoemonjemacG0
import Derived.ShutString
import Derived.ChangeOld
namespace Go.Proofs.Ythidaoemonjemac.fnExactPeakHours
open Go.ChangeShapes Go.WideShapes Go.ChangeAt Go.RowKit
open Go.ChangeMaps (open_string shut_string)
set_option linter.unusedVariables false

set_option maxRecDepth 100000
set_option maxHeartbeats 1600000

theorem walk (A0 : Option Addr) (n0 c0 : Nat) (xs0 : List Rg) (a1 : Int) (w : World) (w0 : RgsIn w A0 n0 xs0) (w1 : (Lit.int .i64 a1).wf = true) :
    Calls Try.prog 3 #[.slice A0 n0 c0, .int .i64 a1] w fun e w' => e = .returned (.bool true) ∧ Below w.heap.size w w' := by
  have HI0 := Lib.hid w0
  clear w0
  have hb : Below w.heap.size w w := Below.refl _ _
  have hcur : w.heap.size ≤ w.heap.size := Nat.le_refl _
  go_enter Try.func3, Try.ntmps3
  go_wp2_with fail
  refine (szRgs_any A0 n0 c0 xs0 1048576 _ (by omega) (by omega) (HI0.out.go hb)).mono ?_
  rintro e wk1 ⟨r0, rfl, hr, hbs⟩
  have hb := bnext hb hbs
  have hcur := Nat.le_trans hcur hbs.size
  clear hbs
  rcases hr with rfl | ⟨r0_0, r0_1⟩
  · go_wp2
    go_ret
    exact ⟨rfl, hb⟩
  have hn0 : n0 ≤ 1048576 := by omega
  have hXs := peakHoursX_short xs0 a1
  obtain ⟨X, hX⟩ : ∃ X, peakHoursX xs0 a1 = X := ⟨_, rfl⟩
  obtain ⟨C, hC⟩ : ∃ C, peakHoursC xs0 a1 = C := ⟨_, rfl⟩
  rw [hX] at hXs
  have HRX := Lib.hid hX
  have HRC := Lib.hid hC
  clear hX hC
  have hCC : (C != C) = false := by simp
  have hXm : X.length ≤ maxLen := by unfold maxLen; omega
  have hXi : X.length ≤ 9223372036854775807 := by omega
  go_wp2_with fail
  refine (copyRgs A0 n0 c0 xs0 _ ⟨HI0.out.go hb, hn0⟩).mono ?_
  rintro e wk2 ⟨Au0, cu0, rfl, Ou0, Yu0, hbs⟩
  clear Ou0
  have hb := bnext hb hbs
  have hcur := Nat.le_trans hcur hbs.size
  clear hbs
  go_wp2_with fail
  have hC := specPeakHours_ic Au0 n0 cu0 xs0 a1 _ Yu0
  rw [HRX.out, HRC.out] at hC
  refine hC.mono ?_
  rintro e wk3 ⟨Aw, cw, rfl, ho, hbs⟩
  clear hC
  have S2 := owns_cells ho
  have L2 := owns_lies ho
  clear ho
  clear Yu0
  have hb := bnext hb hbs
  have hcur := Nat.le_trans hcur hbs.size
  clear hbs
  have hch1 := hcur
  have hcur : wk3.heap.size ≤ wk3.heap.size := Nat.le_refl _
  go_wp2_with fail
  refine (copyRgs A0 n0 c0 xs0 _ ⟨HI0.out.go hb, hn0⟩).mono ?_
  rintro e wk4 ⟨Av0, cv0, rfl, Ov0, Yv0, hbs⟩
  have OwnHi0 := Lib.hid (fun (b : Nat) (e : (Value.slice Av0 n0 cv0).ownBlock = some b) => (Ov0.lt b e).2)
  have S2 := S2.next hbs
  have hb := bnext hb hbs
  have hcur := Nat.le_trans hcur hbs.size
  clear hbs
  have hch2 := hcur
  have hcur : wk4.heap.size ≤ wk4.heap.size := Nat.le_refl _
  go_wp2_with fail
  have hC := implPeakHours_ic Av0 n0 cv0 xs0 a1 _ Yv0
  rw [HRX.out, HRC.out] at hC
  refine hC.mono ?_
  rintro e wk5 ⟨Ag, cg, rfl, OG, hbs⟩
  clear hC
  have S2 := S2.next hbs
  have Yv0 := Yv0.go hbs
  have Ov0 := rowsF_below Ov0 hbs (Nat.le_refl _)
  have hb := bnext hb hbs
  have hcur := Nat.le_trans hcur hbs.size
  clear hbs
  have hch3 := hcur
  have hcur : wk5.heap.size ≤ wk5.heap.size := Nat.le_refl _
  go_wp2_with fail
  refine (eqInts_same Ag Aw cg cw X _ hXm (owns_cells OG) S2).mono ?_
  rintro e wk6 ⟨rfl, hd⟩
  have hbs := drawn_below hd
  clear hd
  have S2 := S2.next hbs
  have Yv0 := Yv0.go hbs
  have Ov0 := rowsF_below Ov0 hbs (Nat.le_refl _)
  have OG := owns_below OG hbs (Nat.le_refl _)
  have hb := bnext hb hbs
  have hcur := Nat.le_trans hcur hbs.size
  clear hbs
  go_wp2_with fail
  refine (copyRgs A0 n0 c0 xs0 _ ⟨HI0.out.go hb, hn0⟩).mono ?_
  rintro e wk7 ⟨At0, ct0, rfl, Ot0, Yt0, hbs⟩
  clear Ot0
  have S2 := S2.next hbs
  have Yv0 := Yv0.go hbs
  have Ov0 := rowsF_below Ov0 hbs (Nat.le_refl _)
  have OG := owns_below OG hbs (Nat.le_refl _)
  have hb := bnext hb hbs
  have hcur := Nat.le_trans hcur hbs.size
  clear hbs
  go_wp2_with fail
  refine (sameRgs Av0 At0 n0 cv0 ct0 xs0 _ Yv0.1.1 Yv0.1.2.1 Yv0.cells Yt0.cells).mono ?_
  rintro e wk8 ⟨rfl, hbs⟩
  clear Yt0
  have S2 := S2.next hbs
  have Yv0 := Yv0.go hbs
  have Ov0 := rowsF_below Ov0 hbs (Nat.le_refl _)
  have OG := owns_below OG hbs (Nat.le_refl _)
  have hb := bnext hb hbs
  have hcur := Nat.le_trans hcur hbs.size
  clear hbs
  clear Yv0
  go_wp2_with fail
  have hlt := fun (b : Nat) (e : (Value.slice Av0 n0 cv0).ownBlock = some b) => Ov0.lt b e
  clear hlt
  refine (markRgs_any Av0 cv0 n0 _ _ 1 _ (by omega) (by omega) Ov0).mono ?_
  rintro e wk9 ⟨rfl, -, hg⟩
  have hB := OwnHi0.out
  have S2 := S2.keep (fun b off e => hg.block b (by have := L2 b off e; omega) (fun e2 => by have := (Ov0.lt b e2.symm).1; have := L2 b off e; omega))
  have OG := OG.kept hg (apart_of (fun b e => (OG.lt b e).1) hB (by omega))
  have hb := hb.grown hg (by omega) (fun b e => by have := (Ov0.lt b e).1; omega)
  have hcur := Nat.le_trans hcur hg.size
  clear hg hB Ov0
  have hkn : ¬ (1 + 2 * (n0 : Int)) < 0 := by omega
  go_wp2_with fail
  refine (eqInts_same Ag Aw cg cw X _ hXm (owns_cells OG) S2).mono ?_
  rintro e wk10 ⟨rfl, hd⟩
  have hbs := drawn_below hd
  clear hd
  have S2 := S2.next hbs
  have OG := owns_below OG hbs (Nat.le_refl _)
  have hb := bnext hb hbs
  have hcur := Nat.le_trans hcur hbs.size
  clear hbs
  go_wp2_with fail
  refine (markInts_any Ag cg X.length _ _ 1 _ (by omega) (by omega) OG).mono ?_
  rintro e wk11 ⟨rfl, OM, hg⟩
  have S2 := S2.keep (fun b off e => hg.block b (by have := L2 b off e; omega) (fun e2 => by have := (OG.lt b e2.symm).1; have := L2 b off e; omega))
  have hb := hb.grown hg (by omega) (fun b e => by have := (OG.lt b e).1; omega)
  have hcur := Nat.le_trans hcur hg.size
  have hneg : ¬ ((1 + (X.length : Int)) < 0) := by omega
  clear hg OG
  go_wp2_with fail
  refine (heldInts_any Ag cg X.length 1 _ (by omega) (by omega) hXm (owns_cells OM)).mono ?_
  rintro e wk12 ⟨rfl, hd⟩
  have hbs := drawn_below hd
  clear hd
  have S2 := S2.next hbs
  have OM := owns_below OM hbs (Nat.le_refl _)
  have hb := bnext hb hbs
  have hcur := Nat.le_trans hcur hbs.size
  clear hbs
  go_wp2_with fail
  refine (copyRgs A0 n0 c0 xs0 _ ⟨HI0.out.go hb, hn0⟩).mono ?_
  rintro e wk13 ⟨Ar0, cr0, rfl, Or0, Yr0, hbs⟩
  clear Or0
  have S2 := S2.next hbs
  have OM := owns_below OM hbs (Nat.le_refl _)
  have hb := bnext hb hbs
  have hcur := Nat.le_trans hcur hbs.size
  clear hbs
  go_wp2_with fail
  have hC := implPeakHours_ic Ar0 n0 cr0 xs0 a1 _ Yr0
  rw [HRX.out, HRC.out] at hC
  refine hC.mono ?_
  rintro e wk14 ⟨Ah, ch, rfl, oh, hbs⟩
  clear hC
  have S3 := owns_cells oh
  clear oh
  clear Yr0
  have S2 := S2.next hbs
  have OM := owns_below OM hbs (Nat.le_refl _)
  have hb := bnext hb hbs
  have hcur := Nat.le_trans hcur hbs.size
  clear hbs
  go_wp2_with fail
  refine (eqInts_same Ah Aw ch cw X _ hXm S3 S2).mono ?_
  rintro e wk15 ⟨rfl, hd⟩
  have hbs := drawn_below hd
  clear hd
  have S2 := S2.next hbs
  have OM := owns_below OM hbs (Nat.le_refl _)
  have S3 := S3.next hbs
  have hb := bnext hb hbs
  have hcur := Nat.le_trans hcur hbs.size
  clear hbs
  clear S3
  go_wp2_with fail
  refine (heldInts_any Ag cg X.length 1 _ (by omega) (by omega) hXm (owns_cells OM)).mono ?_
  rintro e wk16 ⟨rfl, hd⟩
  have hbs := drawn_below hd
  clear hd
  have S2 := S2.next hbs
  have OM := owns_below OM hbs (Nat.le_refl _)
  have hb := bnext hb hbs
  have hcur := Nat.le_trans hcur hbs.size
  clear hbs
  go_wp2
  go_ret
  exact ⟨rfl, hb⟩

theorem own : ownKnob Try.prog.godebug = none := by kernel_rfl
theorem laidOut : laidOutB Try.prog = true := by kernel_rfl

set_option maxRecDepth 100000 in
theorem lifted (os : Os) (started : os.Started) (H : Type) (enc : TypeId × Value → H) :
    ReturnsInHanded {} Try.checked os 3 .any (Rows.fnExactPeakHoursSpec.pre6 enc Try.prog Try.f3 Rows.fnExactPeakHoursRow.domain false) (Rows.fnExactPeakHoursSpec.post enc Try.prog Try.f3 false true false false) := by
  refine returnsInHanded_of_change (C := Try.checked) own started (by kernel_rfl) Try.func3
    (ChangeSpec.witness6 (enc := enc) (C := Try.checked) false ⟨#[], #[.slice none 0 0, .int .i64 0], []⟩ 8 (by kernel_rfl) (by kernel_rfl) (by kernel_rfl) (by kernel_rfl)) ?_
  intro W base args ds gs before hval0 hW hcnd _
  have hval : ∀ (j : Nat) t v, Try.f3.params[j]? = some t → args[j]? = some v → Value.okWide Try.prog W .any base t v := hval0
  have hW' := hW
  obtain ⟨p, q, hA0, hV, rfl, hfz, hnd⟩ := hW
  have hA : DataW.TrodAll enc Try.prog W 0 (fun _ => true) true Try.f3.params.toList args.toList ds p := hA0
  rw [Try.params3] at hA hval
  obtain ⟨v0, vs0, d0, ds0, p0, q0, hargs, rfl, rfl, h0, r0⟩ := trodAll_cons hA
  obtain ⟨v1, vs1, d1, ds1, p1, q1, rfl, rfl, rfl, h1, r1⟩ := trodAll_cons r0
  obtain ⟨rfl, rfl, rfl⟩ := trodAll_nil r1
  obtain rfl : args = #[v0, v1] := by cases args; simp_all
  obtain ⟨rfl, rfl⟩ := trodVars_none hV
  have k0 := h0
  have lt0 : ∀ x ∈ p0, x.block < W.heap.size := by obtain ⟨m, hm⟩ := k0; exact DataW.trod_lt m _ _ _ hm
  obtain ⟨A0, n0, c0, xs0, rfl, w0⟩ := open_Rgs (hval 0 22 v0 rfl rfl) h0
  obtain ⟨a1, rfl, rfl, rfl, w1⟩ := open_int Try.underlying2 (hval 1 2 v1 rfl rfl) h1
  clear hA0 hval0
  refine (walk A0 n0 c0 xs0 a1 W w0 w1).mono fun e W' ⟨he, bel⟩ => ?_
  subst he
  exact ⟨_, rfl, _, _, _, [], _, [], hW', trodAll_mk1 (shut_bool Try.underlying4 _), (trodAll_cons_mk (Below.trod laidOut (by kernel_rfl) (of_decide_eq_true (by kernel_rfl)) k0 bel lt0) (trodAll_cons_mk (shut_int Try.underlying2 w1) trodAll_mk0)), rfl, bel.frame _, fun h => by cases h⟩

theorem over : Rows.fnExactPeakHoursRow.holds Try.pinned (OpenSpec.ofChange Rows.fnExactPeakHoursSpec) :=
  OpenClaim.holds_of_wide 3 Try.f3 rfl rfl rfl rfl rfl rfl rfl ⟨rfl, rfl, rfl, rfl, rfl⟩ rfl rfl rfl rfl rfl (by kernel_rfl) Try.func3 (by kernel_rfl)
    (of_decide_eq_true (by kernel_rfl)) (by unfold Func.isWrapper; first | (rw [if_pos (by decide +kernel)]; kernel_rfl) | (rw [if_neg (by decide +kernel)]; exact ⟨rfl, rfl⟩))
    (fun os started H enc _ => lifted os started H enc)

theorem proved : Rows.FnExactPeakHoursSaid :=
  over
#print axioms proved
end Go.Proofs.Ythidaoemonjemac.fnExactPeakHours
