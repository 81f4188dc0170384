/-
  FnExactForecastOf: for every input the law returns true and its arguments read as before. No condition.
-/
import Derived.Test.YtnepehdfkaegbaaLd9
import Derived.Test.YtnepehdfkaegbaaBd1
import Derived.Test.YtnepehdfkaegbaaBd4
import Derived.Test.YtnepehdfkaegbaaBd5
import Derived.Test.YtnepehdfkaegbaaM2
import Derived.Deep.RegionHeld3
import Derived.Test.YtnepehdfkaegbaaG0
import Derived.ShutString
import Derived.ChangeOld
namespace Go.Proofs.Ytnepehdfkaegbaa.fnExactForecastOf
open Go.ChangeShapes Go.WideShapes Go.ChangeAt Go.RowKit
open Go.ChangeMaps (open_string shut_string)
set_option linter.unusedVariables false

set_option maxRecDepth 100000
set_option maxHeartbeats 1600000

theorem walk (A0 : Option Addr) (n0 c0 : Nat) (xs0 : List Bd) (a1 : Option Addr) (len1 cap1 : Nat) (z1 : List Int) (w : World) (w0 : BdsIn w A0 n0 xs0) (w1 : SliceIn .i64 w a1 len1 z1) :
    Calls Try.prog 7 #[.slice A0 n0 c0, .slice a1 len1 cap1] w fun e w' => e = .returned (.bool true) ∧ Below w.heap.size w w' := by
  have HZ1 := Lib.hid w1
  have hzl1 := w1.1
  have hzm1 : len1 ≤ 9223372036854775807 := by have := w1.2.1; unfold maxLen at this; omega
  subst hzl1
  clear w1
  have HI0 := Lib.hid w0
  clear w0
  have hb : Below w.heap.size w w := Below.refl _ _
  by_cases hz1 : z1.length ≤ 1048576
  rotate_left
  · have hz1' : 1048576 < z1.length := by omega
    go_enter Try.func7, Try.ntmps7
    go_wp2
    go_ret
    exact ⟨rfl, hb⟩
  have hzz1 : z1.length ≤ 1048576 := hz1
  go_enter Try.func7, Try.ntmps7
  go_wp2_with fail
  refine (szBds_any A0 n0 c0 xs0 1048576 _ (by omega) (by omega) (HI0.out.go hb)).mono ?_
  rintro e wk1 ⟨r0, rfl, hr, hbs⟩
  have hb := bnext hb hbs
  clear hbs
  rcases hr with rfl | ⟨r0_0, r0_1, hn0, hs0⟩
  · go_wp2
    go_ret
    exact ⟨rfl, hb⟩
  have HS0 := Lib.hid hs0
  clear hs0
  have hXs := forecastOfX_short (xs0.map Bd.d) z1
  obtain ⟨X, hX⟩ : ∃ X, forecastOfX (xs0.map Bd.d) z1 = X := ⟨_, rfl⟩
  obtain ⟨C, hC⟩ : ∃ C, forecastOfC (xs0.map Bd.d) z1 = C := ⟨_, rfl⟩
  rw [hX] at hXs
  have HRX := Lib.hid hX
  have HRC := Lib.hid hC
  clear hX hC
  have hCC : (C != C) = false := by simp
  have hXm : X.length ≤ maxLen := by unfold maxLen; omega
  go_wp2_with fail
  refine (copyBds A0 n0 c0 xs0 _ ⟨HI0.out.go hb, hn0, HS0.out⟩).mono ?_
  rintro e wk2 ⟨Au0, cu0, yu0, rfl, hdu0, Yu0, hbs⟩
  have HDu0 := Lib.hid hdu0
  clear hdu0
  have hb := bnext hb hbs
  clear hbs
  go_wp2_with fail
  refine (toInts_any a1 cap1 z1.length z1 _ rfl hz1 (HZ1.out.2.2.1.next hb)).mono ?_
  rintro e wk3 hq
  obtain ⟨Au1, cu1, rfl, ho, hbs⟩ := retInts_of hq
  have Zu1 := owns_cells ho
  clear hq ho
  have Yu0 := Yu0.go hbs
  have hb := bnext hb hbs
  clear hbs
  go_wp2_with fail
  have hC := specForecastOf_ic Au0 n0 cu0 yu0 Au1 cu1 z1 _ Yu0 Zu1 hzz1
  have hE : forecastOfX (yu0.map Bd.d) z1 = X := by rw [HDu0.out, HRX.out]
  rw [hE] at hC
  clear hE
  have hE : forecastOfC (yu0.map Bd.d) z1 = C := by rw [HDu0.out, HRC.out]
  rw [hE] at hC
  clear hE
  refine hC.mono ?_
  rintro e wk4 ⟨Aw, cw, rfl, ho, hbs⟩
  clear hC
  have S2 := owns_cells ho
  have L2 := owns_lies ho
  clear ho
  clear Yu0 HDu0
  clear Zu1
  have hb := bnext hb hbs
  clear hbs
  have h2 : wk4.heap.size ≤ wk4.heap.size := Nat.le_refl _
  have h02 : w.heap.size ≤ wk4.heap.size := hb.size
  go_wp2_with fail
  refine (copyOwnBds A0 n0 c0 xs0 _ ⟨HI0.out.go hb, hn0, HS0.out⟩).mono ?_
  rintro e wk5 ⟨Av0, cv0, yv0, lo0, rfl, hdv0, hlo0, lA0, lH0, OR0, OB0, Yv0, hbs⟩
  have HDv0 := Lib.hid hdv0
  clear hdv0
  have hw20 := h2
  have h2 := Nat.le_trans h2 hbs.size
  have S2 := S2.next hbs
  have hb := bnext hb hbs
  clear hbs
  have hsz0 : wk5.heap.size ≤ wk5.heap.size := Nat.le_refl _
  go_wp2_with fail
  refine (toInts_any a1 cap1 z1.length z1 _ rfl hz1 (HZ1.out.2.2.1.next hb)).mono ?_
  rintro e wk6 hq
  obtain ⟨Av1, cv1, rfl, ho, hbs⟩ := retInts_of hq
  have Zv1 := owns_cells ho
  have hlh0_1 : wk5.heap.size ≤ wk5.heap.size := hsz0
  have OZ1 := ho
  have hw21 := h2
  have hzt1 : ∀ k, (Value.slice Av1 z1.length cv1).ownBlock = some k → k < wk6.heap.size := fun k hk => (ho.lt k hk).2
  clear hq ho
  have h2 := Nat.le_trans h2 hbs.size
  have hsz0 := Nat.le_trans hsz0 hbs.size
  have S2 := S2.next hbs
  have Yv0 := Yv0.go hbs
  have OB0 := OB0.go hbs
  have OR0 := ownsKBd OR0 hbs
  have hb := bnext hb hbs
  clear hbs
  have hsz1 : wk6.heap.size ≤ wk6.heap.size := Nat.le_refl _
  have hiG0 : wk5.heap.size ≤ wk6.heap.size := hsz0
  have hiG1 : wk6.heap.size ≤ wk6.heap.size := hsz1
  have hWV : wk4.heap.size ≤ wk6.heap.size := h2
  go_wp2_with fail
  have hC := implForecastOf_ic Av0 n0 cv0 yv0 Av1 cv1 z1 _ Yv0 Zv1 hzz1
  have hE : forecastOfX (yv0.map Bd.d) z1 = X := by rw [HDv0.out, HRX.out]
  rw [hE] at hC
  clear hE
  have hE : forecastOfC (yv0.map Bd.d) z1 = C := by rw [HDv0.out, HRC.out]
  rw [hE] at hC
  clear hE
  refine hC.mono ?_
  rintro e wk7 ⟨Ag, cg, rfl, OG, hbs⟩
  clear hC
  have h2 := Nat.le_trans h2 hbs.size
  have S2 := S2.next hbs
  have Yv0 := Yv0.go hbs
  have OB0 := OB0.go hbs
  have Zv1 := Zv1.next hbs
  have OR0 := ownsKBd OR0 hbs
  have OZ1 := owns_below OZ1 hbs (Nat.le_refl _)
  have hb := bnext hb hbs
  clear hbs
  go_wp2_with fail
  refine (eqInts_same Ag Aw cg cw X _ hXm (owns_cells OG) S2).mono ?_
  rintro e wk8 ⟨rfl, hd⟩
  have hbs := drawn_below hd
  clear hd
  have h2 := Nat.le_trans h2 hbs.size
  have S2 := S2.next hbs
  have Yv0 := Yv0.go hbs
  have OB0 := OB0.go hbs
  have Zv1 := Zv1.next hbs
  have OR0 := ownsKBd OR0 hbs
  have OZ1 := owns_below OZ1 hbs (Nat.le_refl _)
  have OG := owns_below OG hbs (Nat.le_refl _)
  have hb := bnext hb hbs
  clear hbs
  go_wp2_with fail
  refine (copyBds A0 n0 c0 xs0 _ ⟨HI0.out.go hb, hn0, HS0.out⟩).mono ?_
  rintro e wk9 ⟨At0, ct0, yt0, rfl, hdt0, Yt0, hbs⟩
  have HDt0 := Lib.hid hdt0
  clear hdt0
  have h2 := Nat.le_trans h2 hbs.size
  have S2 := S2.next hbs
  have Yv0 := Yv0.go hbs
  have OB0 := OB0.go hbs
  have Zv1 := Zv1.next hbs
  have OR0 := ownsKBd OR0 hbs
  have OZ1 := owns_below OZ1 hbs (Nat.le_refl _)
  have OG := owns_below OG hbs (Nat.le_refl _)
  have hb := bnext hb hbs
  clear hbs
  go_wp2_with fail
  refine (sameBds Av0 At0 n0 cv0 ct0 yv0 yt0 _ (by rw [HDv0.out, HDt0.out]) Yv0 Yt0).mono ?_
  rintro e wk10 ⟨rfl, hbs⟩
  have h2 := Nat.le_trans h2 hbs.size
  have S2 := S2.next hbs
  have Yv0 := Yv0.go hbs
  have OB0 := OB0.go hbs
  have Zv1 := Zv1.next hbs
  have OR0 := ownsKBd OR0 hbs
  have OZ1 := owns_below OZ1 hbs (Nat.le_refl _)
  have OG := owns_below OG hbs (Nat.le_refl _)
  have hb := bnext hb hbs
  clear hbs
  go_wp2_with fail
  refine (toInts_any a1 cap1 z1.length z1 _ rfl hz1 (HZ1.out.2.2.1.next hb)).mono ?_
  rintro e wk11 hq
  obtain ⟨At1, ct1, rfl, ho, hbs⟩ := retInts_of hq
  have Zt1 := owns_cells ho
  clear hq ho
  have h2 := Nat.le_trans h2 hbs.size
  have S2 := S2.next hbs
  have Yv0 := Yv0.go hbs
  have OB0 := OB0.go hbs
  have Zv1 := Zv1.next hbs
  have OR0 := ownsKBd OR0 hbs
  have OZ1 := owns_below OZ1 hbs (Nat.le_refl _)
  have OG := owns_below OG hbs (Nat.le_refl _)
  have hb := bnext hb hbs
  clear hbs
  go_wp2_with fail
  refine (eqInts_same Av1 At1 cv1 ct1 z1 _ (by unfold maxLen; omega) Zv1 Zt1).mono ?_
  rintro e wk12 ⟨rfl, hd⟩
  have hbs := drawn_below hd
  clear hd
  have h2 := Nat.le_trans h2 hbs.size
  have S2 := S2.next hbs
  have Yv0 := Yv0.go hbs
  have OB0 := OB0.go hbs
  have Zv1 := Zv1.next hbs
  have OR0 := ownsKBd OR0 hbs
  have OZ1 := owns_below OZ1 hbs (Nat.le_refl _)
  have OG := owns_below OG hbs (Nat.le_refl _)
  have hb := bnext hb hbs
  clear hbs
  go_wp2_with fail
  refine (markBds_any Av0 n0 cv0 yv0 _ lo0 _ 1 _ (by omega) (by omega) hn0 Yv0.1.1 Yv0.2.2 OR0 OB0 lA0 lH0 hlo0).mono ?_
  rintro e wk13 ⟨k0, rfl, kk0_0, kk0_1, hW⟩
  have hS2l : wk4.heap.size ≤ wk4.heap.size := hw20
  have S2 := S2.keep (fun b off e => hW.2.2.2.2 b (Nat.lt_of_lt_of_le (L2 b off e) h2) (.inl (Nat.lt_of_lt_of_le (L2 b off e) hS2l)))
  have OG := owns_keep OG (fun b e => hW.2.2.2.2 b (OG.lt b e).2 (.inr (Nat.le_trans hiG0 (OG.lt b e).1)))
  have hb := hW.below hb (Nat.le_trans h02 hS2l) (Nat.le_trans h02 h2)
  have h2 := Nat.le_trans h2 hW.2.2.2.1
  have OZ1 := owns_keep OZ1 (fun b e => hW.2.2.2.2 b (OZ1.lt b e).2 (.inr (Nat.le_trans hlh0_1 (OZ1.lt b e).1)))
  clear Zv1
  clear hW hS2l Yv0 OB0 OR0
  go_wp2_with fail
  refine (markInts_any Av1 cv1 z1.length _ _ k0 _ (by omega) (by omega) OZ1).mono ?_
  rintro e wk14 ⟨rfl, -, hg⟩
  have hW := WrBd.grown (WrBd.refl _ wk5.heap.size wk6.heap.size) hg (fun k hk => ⟨(OZ1.lt k hk).1, hzt1 k hk⟩)
  have hS2l : wk4.heap.size ≤ wk5.heap.size := hw21
  have S2 := S2.keep (fun b off e => hW.2.2.2.2 b (Nat.lt_of_lt_of_le (L2 b off e) h2) (.inl (Nat.lt_of_lt_of_le (L2 b off e) hS2l)))
  have OG := owns_keep OG (fun b e => hW.2.2.2.2 b (OG.lt b e).2 (.inr (Nat.le_trans hiG1 (OG.lt b e).1)))
  have hb := hW.below hb (Nat.le_trans h02 hS2l) (Nat.le_trans h02 h2)
  have h2 := Nat.le_trans h2 hW.2.2.2.1
  clear hW hS2l OZ1 hg
  have hkn : ¬ (k0 + (z1.length : Int)) < 0 := by omega
  go_wp2_with fail
  refine (eqInts_same Ag Aw cg cw X _ hXm (owns_cells OG) S2).mono ?_
  rintro e wk15 ⟨rfl, hd⟩
  have hbs := drawn_below hd
  clear hd
  have h2 := Nat.le_trans h2 hbs.size
  have S2 := S2.next hbs
  have OG := owns_below OG hbs (Nat.le_refl _)
  have hb := bnext hb hbs
  clear hbs
  go_wp2_with fail
  refine (markIntsE_any Ag cg X.length wk6.heap.size (intsV X) 1 _ (by omega) (by omega) OG).mono ?_
  rintro e wk16 ⟨rfl, OM, hg⟩
  obtain ⟨k1, k2, k3⟩ := one_keeps (w0 := w) hg OG
  have S2 := S2.keep (fun b off e => k1 b (Nat.lt_of_lt_of_le (L2 b off e) hWV) (Nat.lt_of_lt_of_le (L2 b off e) h2))
  have hb := k2 _ (Nat.le_trans h02 hWV) (Nat.le_trans h02 h2) hb
  have h2 := Nat.le_trans h2 k3
  have hneg : ¬ (1 + (X.length : Int) < 0) := by omega
  clear hg k1 k2 k3 OG
  go_wp2_with fail
  refine (heldInts_any Ag cg X.length 1 _ (by omega) (by omega) hXm (owns_cells OM)).mono ?_
  rintro e wk17 ⟨rfl, hd⟩
  have hbs := drawn_below hd
  clear hd
  have h2 := Nat.le_trans h2 hbs.size
  have S2 := S2.next hbs
  have OM := owns_below OM hbs (Nat.le_refl _)
  have hb := bnext hb hbs
  clear hbs
  go_wp2_with fail
  refine (copyBds A0 n0 c0 xs0 _ ⟨HI0.out.go hb, hn0, HS0.out⟩).mono ?_
  rintro e wk18 ⟨Ar0, cr0, yr0, rfl, hdr0, Yr0, hbs⟩
  have HDr0 := Lib.hid hdr0
  clear hdr0
  have h2 := Nat.le_trans h2 hbs.size
  have S2 := S2.next hbs
  have OM := owns_below OM hbs (Nat.le_refl _)
  have hb := bnext hb hbs
  clear hbs
  go_wp2_with fail
  refine (toInts_any a1 cap1 z1.length z1 _ rfl hz1 (HZ1.out.2.2.1.next hb)).mono ?_
  rintro e wk19 hq
  obtain ⟨Ar1, cr1, rfl, ho, hbs⟩ := retInts_of hq
  have Zr1 := owns_cells ho
  clear hq ho
  have h2 := Nat.le_trans h2 hbs.size
  have S2 := S2.next hbs
  have Yr0 := Yr0.go hbs
  have OM := owns_below OM hbs (Nat.le_refl _)
  have hb := bnext hb hbs
  clear hbs
  go_wp2_with fail
  have hC := implForecastOf_ic Ar0 n0 cr0 yr0 Ar1 cr1 z1 _ Yr0 Zr1 hzz1
  have hE : forecastOfX (yr0.map Bd.d) z1 = X := by rw [HDr0.out, HRX.out]
  rw [hE] at hC
  clear hE
  have hE : forecastOfC (yr0.map Bd.d) z1 = C := by rw [HDr0.out, HRC.out]
  rw [hE] at hC
  clear hE
  refine hC.mono ?_
  rintro e wk20 ⟨Ah, ch, rfl, oh, hbs⟩
  clear hC
  have S3 := owns_cells oh
  clear oh
  clear Yr0 HDr0
  clear Zr1
  have h2 := Nat.le_trans h2 hbs.size
  have S2 := S2.next hbs
  have OM := owns_below OM hbs (Nat.le_refl _)
  have hb := bnext hb hbs
  clear hbs
  go_wp2_with fail
  refine (eqInts_same Ah Aw ch cw X _ hXm S3 S2).mono ?_
  rintro e wk21 ⟨rfl, hd⟩
  have hbs := drawn_below hd
  clear hd S3
  have h2 := Nat.le_trans h2 hbs.size
  have S2 := S2.next hbs
  have OM := owns_below OM hbs (Nat.le_refl _)
  have hb := bnext hb hbs
  clear hbs
  go_wp2_with fail
  refine (heldInts_any Ag cg X.length 1 _ (by omega) (by omega) hXm (owns_cells OM)).mono ?_
  rintro e wk22 ⟨rfl, hd⟩
  have hbs := drawn_below hd
  clear hd
  have h2 := Nat.le_trans h2 hbs.size
  have S2 := S2.next hbs
  have OM := owns_below OM hbs (Nat.le_refl _)
  have hb := bnext hb hbs
  clear hbs
  go_wp2
  go_ret
  exact ⟨rfl, hb⟩

theorem own : ownKnob Try.prog.godebug = none := by kernel_rfl
theorem laidOut : laidOutB Try.prog = true := by kernel_rfl

set_option maxRecDepth 100000 in
theorem lifted (os : Os) (started : os.Started) (H : Type) (enc : TypeId × Value → H) :
    ReturnsInHanded {} Try.checked os 7 .any (Rows.fnExactForecastOfSpec.pre6 enc Try.prog Try.f7 Rows.fnExactForecastOfRow.domain false) (Rows.fnExactForecastOfSpec.post enc Try.prog Try.f7 false true false false) := by
  refine returnsInHanded_of_change (C := Try.checked) own started (by kernel_rfl) Try.func7
    (ChangeSpec.witness6 (enc := enc) (C := Try.checked) false ⟨#[], #[.slice none 0 0, .slice none 0 0], []⟩ 8 (by kernel_rfl) (by kernel_rfl) (by kernel_rfl) (by kernel_rfl)) ?_
  intro W base args ds gs before hval0 hW hcnd _
  have hval : ∀ (j : Nat) t v, Try.f7.params[j]? = some t → args[j]? = some v → Value.okWide Try.prog W .any base t v := hval0
  have hW' := hW
  obtain ⟨p, q, hA0, hV, rfl, hfz, hnd⟩ := hW
  have hA : DataW.TrodAll enc Try.prog W 0 (fun _ => true) true Try.f7.params.toList args.toList ds p := hA0
  rw [Try.params7] at hA hval
  obtain ⟨v0, vs0, d0, ds0, p0, q0, hargs, rfl, rfl, h0, r0⟩ := trodAll_cons hA
  obtain ⟨v1, vs1, d1, ds1, p1, q1, rfl, rfl, rfl, h1, r1⟩ := trodAll_cons r0
  obtain ⟨rfl, rfl, rfl⟩ := trodAll_nil r1
  obtain rfl : args = #[v0, v1] := by cases args; simp_all
  obtain ⟨rfl, rfl⟩ := trodVars_none hV
  have k0 := h0
  have lt0 : ∀ x ∈ p0, x.block < W.heap.size := by obtain ⟨m, hm⟩ := k0; exact DataW.trod_lt m _ _ _ hm
  obtain ⟨A0, n0, c0, xs0, rfl, w0⟩ := open_Bds (hval 0 41 v0 rfl rfl) h0
  obtain ⟨a1, len1, cap1, rfl⟩ := okWide_slice Try.underlying26 (hval 1 26 v1 rfl rfl)
  have k1 := h1
  have lt1 : ∀ x ∈ p1, x.block < W.heap.size := by obtain ⟨m, hm⟩ := k1; exact DataW.trod_lt m _ _ _ hm
  obtain ⟨z1, w1⟩ : ∃ zs, SliceIn .i64 W a1 len1 zs := by
    obtain ⟨fuel, hf⟩ := h1
    rcases open_ints Try.underlying26 Try.underlying2 (by kernel_rfl) hf with ⟨hcs, _⟩ | ⟨x, l, c, zs, hcs, _, hl, hm, hz, _, hcell, hwz⟩
    · simp [Value.cells] at hcs
      obtain ⟨rfl, rfl, rfl⟩ := hcs
      exact ⟨[], SliceIn.nil _ _⟩
    · simp [Value.cells] at hcs
      obtain ⟨rfl, rfl, rfl⟩ := hcs
      exact ⟨_, SliceIn.row hl hm (by simpa using hz) hcell hwz⟩
  clear hA0 hval0
  refine (walk A0 n0 c0 xs0 a1 len1 cap1 z1 W w0 w1).mono fun e W' ⟨he, bel⟩ => ?_
  subst he
  exact ⟨_, rfl, _, _, _, [], _, [], hW', trodAll_mk1 (shut_bool Try.underlying4 _), (trodAll_cons_mk (Below.trod laidOut (by kernel_rfl) (of_decide_eq_true (by kernel_rfl)) k0 bel lt0) (trodAll_cons_mk (Below.trod laidOut (by kernel_rfl) (of_decide_eq_true (by kernel_rfl)) k1 bel lt1) trodAll_mk0)), rfl, bel.frame _, fun h => by cases h⟩

theorem over : Rows.fnExactForecastOfRow.holds Try.pinned (OpenSpec.ofChange Rows.fnExactForecastOfSpec) :=
  OpenClaim.holds_of_wide 7 Try.f7 rfl rfl rfl rfl rfl rfl rfl ⟨rfl, rfl, rfl, rfl, rfl⟩ rfl rfl rfl rfl rfl (by kernel_rfl) Try.func7 (by kernel_rfl)
    (of_decide_eq_true (by kernel_rfl)) (by unfold Func.isWrapper; first | (rw [if_pos (by decide +kernel)]; kernel_rfl) | (rw [if_neg (by decide +kernel)]; exact ⟨rfl, rfl⟩))
    (fun os started H enc _ => lifted os started H enc)

theorem proved : Rows.FnExactForecastOfSaid :=
  over
#print axioms proved
end Go.Proofs.Ytnepehdfkaegbaa.fnExactForecastOf
