/-
  FnExactPeakHour: for every input the law returns true and its arguments read as before. No condition.
-/
import Derived.Test.YthidaoemonjemabMa7
import Derived.Test.YthidaoemonjemabBd1
import Derived.Test.YthidaoemonjemabBd4
import Derived.Test.YthidaoemonjemabM2
import Derived.Deep.RegionHeld3
import Derived.Test.YthidaoemonjemabG0
import Derived.ShutString
import Derived.ChangeOld
namespace Go.Proofs.Ythidaoemonjemab.fnExactPeakHour
open Go.ChangeShapes Go.WideShapes Go.ChangeAt Go.RowKit
open Go.ChangeMaps (open_string shut_string)
set_option linter.unusedVariables false

set_option maxRecDepth 100000
set_option maxHeartbeats 1600000

theorem walk (A0 : Option Addr) (n0 c0 : Nat) (xs0 : List Bd) (a1 : Option Addr) (len1 cap1 : Nat) (z1 : List Int) (w : World) (w0 : BdsIn w A0 n0 xs0) (w1 : SliceIn .i64 w a1 len1 z1) :
    Calls Try.prog 3 #[.slice A0 n0 c0, .slice a1 len1 cap1] w fun e w' => e = .returned (.bool true) ∧ Below w.heap.size w w' := by
  have HZ1 := Lib.hid w1
  have hzl1 := w1.1
  have hzm1 : len1 ≤ 9223372036854775807 := by have := w1.2.1; unfold maxLen at this; omega
  subst hzl1
  clear w1
  have HI0 := Lib.hid w0
  clear w0
  have hb : Below w.heap.size w w := Below.refl _ _
  by_cases hz1 : z1.length ≤ 1048576
  rotate_left
  · have hz1' : 1048576 < z1.length := by omega
    go_enter Try.func3, Try.ntmps3
    go_wp2
    go_ret
    exact ⟨rfl, hb⟩
  have hzz1 : z1.length ≤ 1048576 := hz1
  go_enter Try.func3, Try.ntmps3
  go_wp2_with fail
  refine (szBds_any A0 n0 c0 xs0 1048576 _ (by omega) (by omega) (HI0.out.go hb)).mono ?_
  rintro e wk1 ⟨r0, rfl, hr, hbs⟩
  have hb := bnext hb hbs
  clear hbs
  rcases hr with rfl | ⟨r0_0, r0_1, hn0, hs0⟩
  · go_wp2
    go_ret
    exact ⟨rfl, hb⟩
  have HS0 := Lib.hid hs0
  clear hs0
  go_wp2_with fail
  refine (copyBds A0 n0 c0 xs0 _ ⟨HI0.out.go hb, hn0, HS0.out⟩).mono ?_
  rintro e wk2 ⟨Au0, cu0, yu0, rfl, hdu0, Yu0, hbs⟩
  have HDu0 := Lib.hid hdu0
  clear hdu0
  have hb := bnext hb hbs
  clear hbs
  go_wp2_with fail
  refine (toInts_any a1 cap1 z1.length z1 _ rfl hz1 (HZ1.out.2.2.1.next hb)).mono ?_
  rintro e wk3 hq
  obtain ⟨Au1, cu1, rfl, ho, hbs⟩ := retInts_of hq
  have Zu1 := owns_cells ho
  clear hq ho
  have Yu0 := Yu0.go hbs
  have hb := bnext hb hbs
  clear hbs
  obtain ⟨R0, hR0⟩ : ∃ R, peakHourR0 (xs0.map Bd.d) z1 = R := ⟨_, rfl⟩
  have HR0 := Lib.hid hR0
  clear hR0
  obtain ⟨R1, hR1⟩ : ∃ R, peakHourR1 (xs0.map Bd.d) z1 = R := ⟨_, rfl⟩
  have HR1 := Lib.hid hR1
  clear hR1
  obtain ⟨R2, hR2⟩ : ∃ R, peakHourR2 (xs0.map Bd.d) z1 = R := ⟨_, rfl⟩
  have HR2 := Lib.hid hR2
  clear hR2
  go_wp2_with fail
  have hC := specPeakHour_ds Au0 n0 cu0 yu0 Au1 cu1 z1 _ Yu0 Zu1 hzz1
  have hE : peakHourR0 (yu0.map Bd.d) z1 = R0 := by rw [HDu0.out, HR0.out]
  rw [hE] at hC
  clear hE
  have hE : peakHourR1 (yu0.map Bd.d) z1 = R1 := by rw [HDu0.out, HR1.out]
  rw [hE] at hC
  clear hE
  have hE : peakHourR2 (yu0.map Bd.d) z1 = R2 := by rw [HDu0.out, HR2.out]
  rw [hE] at hC
  clear hE
  refine hC.mono ?_
  rintro e wk4 ⟨rfl, hbs⟩
  clear hC
  clear Yu0 HDu0
  clear Zu1
  have hb := bnext hb hbs
  clear hbs
  have e0 : (R0 != R0) = false := by simp
  have e1 : (R1 != R1) = false := by simp
  have e2 : (R2 != R2) = false := by simp
  go_wp2_with fail
  refine (copyBds A0 n0 c0 xs0 _ ⟨HI0.out.go hb, hn0, HS0.out⟩).mono ?_
  rintro e wk5 ⟨Av0, cv0, yv0, rfl, hdv0, Yv0, hbs⟩
  have HDv0 := Lib.hid hdv0
  clear hdv0
  have hb := bnext hb hbs
  clear hbs
  go_wp2_with fail
  refine (toInts_any a1 cap1 z1.length z1 _ rfl hz1 (HZ1.out.2.2.1.next hb)).mono ?_
  rintro e wk6 hq
  obtain ⟨Av1, cv1, rfl, ho, hbs⟩ := retInts_of hq
  have Zv1 := owns_cells ho
  clear hq ho
  have Yv0 := Yv0.go hbs
  have hb := bnext hb hbs
  clear hbs
  go_wp2_with fail
  have hC := implPeakHour_ds Av0 n0 cv0 yv0 Av1 cv1 z1 _ Yv0 Zv1 hzz1
  have hE : peakHourR0 (yv0.map Bd.d) z1 = R0 := by rw [HDv0.out, HR0.out]
  rw [hE] at hC
  clear hE
  have hE : peakHourR1 (yv0.map Bd.d) z1 = R1 := by rw [HDv0.out, HR1.out]
  rw [hE] at hC
  clear hE
  have hE : peakHourR2 (yv0.map Bd.d) z1 = R2 := by rw [HDv0.out, HR2.out]
  rw [hE] at hC
  clear hE
  refine hC.mono ?_
  rintro e wk7 ⟨rfl, hbs⟩
  clear hC
  have Yv0 := Yv0.go hbs
  have Zv1 := Zv1.next hbs
  have hb := bnext hb hbs
  clear hbs
  go_wp2_with fail
  refine (copyBds A0 n0 c0 xs0 _ ⟨HI0.out.go hb, hn0, HS0.out⟩).mono ?_
  rintro e wk8 ⟨At0, ct0, yt0, rfl, hdt0, Yt0, hbs⟩
  have HDt0 := Lib.hid hdt0
  clear hdt0
  have Yv0 := Yv0.go hbs
  have Zv1 := Zv1.next hbs
  have hb := bnext hb hbs
  clear hbs
  go_wp2_with fail
  refine (sameBds Av0 At0 n0 cv0 ct0 yv0 yt0 _ (by rw [HDv0.out, HDt0.out]) Yv0 Yt0).mono ?_
  rintro e wk9 ⟨rfl, hbs⟩
  have Zv1 := Zv1.next hbs
  have hb := bnext hb hbs
  clear hbs
  go_wp2_with fail
  refine (toInts_any a1 cap1 z1.length z1 _ rfl hz1 (HZ1.out.2.2.1.next hb)).mono ?_
  rintro e wk10 hq
  obtain ⟨At1, ct1, rfl, ho, hbs⟩ := retInts_of hq
  have Zt1 := owns_cells ho
  clear hq ho
  have Zv1 := Zv1.next hbs
  have hb := bnext hb hbs
  clear hbs
  go_wp2_with fail
  refine (eqInts_same Av1 At1 cv1 ct1 z1 _ (by unfold maxLen; omega) Zv1 Zt1).mono ?_
  rintro e wk11 ⟨rfl, hd⟩
  have hbs := drawn_below hd
  clear hd
  have hb := bnext hb hbs
  clear hbs
  go_wp2
  go_ret
  exact ⟨rfl, hb⟩

theorem own : ownKnob Try.prog.godebug = none := by kernel_rfl
theorem laidOut : laidOutB Try.prog = true := by kernel_rfl

set_option maxRecDepth 100000 in
theorem lifted (os : Os) (started : os.Started) (H : Type) (enc : TypeId × Value → H) :
    ReturnsInHanded {} Try.checked os 3 .any (Rows.fnExactPeakHourSpec.pre6 enc Try.prog Try.f3 Rows.fnExactPeakHourRow.domain false) (Rows.fnExactPeakHourSpec.post enc Try.prog Try.f3 false true false false) := by
  refine returnsInHanded_of_change (C := Try.checked) own started (by kernel_rfl) Try.func3
    (ChangeSpec.witness6 (enc := enc) (C := Try.checked) false ⟨#[], #[.slice none 0 0, .slice none 0 0], []⟩ 8 (by kernel_rfl) (by kernel_rfl) (by kernel_rfl) (by kernel_rfl)) ?_
  intro W base args ds gs before hval0 hW hcnd _
  have hval : ∀ (j : Nat) t v, Try.f3.params[j]? = some t → args[j]? = some v → Value.okWide Try.prog W .any base t v := hval0
  have hW' := hW
  obtain ⟨p, q, hA0, hV, rfl, hfz, hnd⟩ := hW
  have hA : DataW.TrodAll enc Try.prog W 0 (fun _ => true) true Try.f3.params.toList args.toList ds p := hA0
  rw [Try.params3] at hA hval
  obtain ⟨v0, vs0, d0, ds0, p0, q0, hargs, rfl, rfl, h0, r0⟩ := trodAll_cons hA
  obtain ⟨v1, vs1, d1, ds1, p1, q1, rfl, rfl, rfl, h1, r1⟩ := trodAll_cons r0
  obtain ⟨rfl, rfl, rfl⟩ := trodAll_nil r1
  obtain rfl : args = #[v0, v1] := by cases args; simp_all
  obtain ⟨rfl, rfl⟩ := trodVars_none hV
  have k0 := h0
  have lt0 : ∀ x ∈ p0, x.block < W.heap.size := by obtain ⟨m, hm⟩ := k0; exact DataW.trod_lt m _ _ _ hm
  obtain ⟨A0, n0, c0, xs0, rfl, w0⟩ := open_Bds (hval 0 22 v0 rfl rfl) h0
  obtain ⟨a1, len1, cap1, rfl⟩ := okWide_slice Try.underlying23 (hval 1 23 v1 rfl rfl)
  have k1 := h1
  have lt1 : ∀ x ∈ p1, x.block < W.heap.size := by obtain ⟨m, hm⟩ := k1; exact DataW.trod_lt m _ _ _ hm
  obtain ⟨z1, w1⟩ : ∃ zs, SliceIn .i64 W a1 len1 zs := by
    obtain ⟨fuel, hf⟩ := h1
    rcases open_ints Try.underlying23 Try.underlying2 (by kernel_rfl) hf with ⟨hcs, _⟩ | ⟨x, l, c, zs, hcs, _, hl, hm, hz, _, hcell, hwz⟩
    · simp [Value.cells] at hcs
      obtain ⟨rfl, rfl, rfl⟩ := hcs
      exact ⟨[], SliceIn.nil _ _⟩
    · simp [Value.cells] at hcs
      obtain ⟨rfl, rfl, rfl⟩ := hcs
      exact ⟨_, SliceIn.row hl hm (by simpa using hz) hcell hwz⟩
  clear hA0 hval0
  refine (walk A0 n0 c0 xs0 a1 len1 cap1 z1 W w0 w1).mono fun e W' ⟨he, bel⟩ => ?_
  subst he
  exact ⟨_, rfl, _, _, _, [], _, [], hW', trodAll_mk1 (shut_bool Try.underlying4 _), (trodAll_cons_mk (Below.trod laidOut (by kernel_rfl) (of_decide_eq_true (by kernel_rfl)) k0 bel lt0) (trodAll_cons_mk (Below.trod laidOut (by kernel_rfl) (of_decide_eq_true (by kernel_rfl)) k1 bel lt1) trodAll_mk0)), rfl, bel.frame _, fun h => by cases h⟩

theorem over : Rows.fnExactPeakHourRow.holds Try.pinned (OpenSpec.ofChange Rows.fnExactPeakHourSpec) :=
  OpenClaim.holds_of_wide 3 Try.f3 rfl rfl rfl rfl rfl rfl rfl ⟨rfl, rfl, rfl, rfl, rfl⟩ rfl rfl rfl rfl rfl (by kernel_rfl) Try.func3 (by kernel_rfl)
    (of_decide_eq_true (by kernel_rfl)) (by unfold Func.isWrapper; first | (rw [if_pos (by decide +kernel)]; kernel_rfl) | (rw [if_neg (by decide +kernel)]; exact ⟨rfl, rfl⟩))
    (fun os started H enc _ => lifted os started H enc)

theorem proved : Rows.FnExactPeakHourSaid :=
  over
#print axioms proved
end Go.Proofs.Ythidaoemonjemab.fnExactPeakHour
