/-
  FnExactDayLoads: for every input the law returns true and its arguments read as before. No condition.
-/
import Derived.Test.YtnepehdfkaegbaaLe0
import Derived.Test.YtnepehdfkaegbaaBd1
import Derived.Test.YtnepehdfkaegbaaBd4
import Derived.Test.YtnepehdfkaegbaaBd5
import Derived.Test.YtnepehdfkaegbaaM2
import Derived.Deep.RegionHeld3
import Derived.Test.YtnepehdfkaegbaaG0
import Derived.ShutString
import Derived.ChangeOld
namespace Go.Proofs.Ytnepehdfkaegbaa.fnExactDayLoads
open Go.ChangeShapes Go.WideShapes Go.ChangeAt Go.RowKit
open Go.ChangeMaps (open_string shut_string)
set_option linter.unusedVariables false

set_option maxRecDepth 100000
set_option maxHeartbeats 1600000

theorem walk (x0 : Bd) (a1 : Option Addr) (len1 cap1 : Nat) (z1 : List Int) (w : World) (w0 : x0.fine w) (w1 : SliceIn .i64 w a1 len1 z1) :
    Calls Try.prog 6 #[.agg #[.string x0.d.id, .int .i64 x0.d.nd, .int .i64 x0.d.ba, .int .i64 x0.d.sl, .int .i64 x0.d.li, .slice x0.prA x0.d.pr.length x0.prc], .slice a1 len1 cap1] w fun e w' => e = .returned (.bool true) ∧ Below w.heap.size w w' := by
  have HZ1 := Lib.hid w1
  have hzl1 := w1.1
  have hzm1 : len1 ≤ 9223372036854775807 := by have := w1.2.1; unfold maxLen at this; omega
  subst hzl1
  clear w1
  have HI0 := Lib.hid w0
  clear w0
  have hb : Below w.heap.size w w := Below.refl _ _
  have hN0 : BdO (w.alloc (.cells #[.string x0.d.id, .int .i64 x0.d.nd, .int .i64 x0.d.ba, .int .i64 x0.d.sl, .int .i64 x0.d.li, .slice x0.prA x0.d.pr.length x0.prc] 47)) (w.heap.size) 0 x0 := BdO.new w x0 47
  have hb : Below w.heap.size w (w.alloc (.cells #[.string x0.d.id, .int .i64 x0.d.nd, .int .i64 x0.d.ba, .int .i64 x0.d.sl, .int .i64 x0.d.li, .slice x0.prA x0.d.pr.length x0.prc] 47)) := bal hb _
  have hlow : w.heap.size < (w.alloc (.cells #[.string x0.d.id, .int .i64 x0.d.nd, .int .i64 x0.d.ba, .int .i64 x0.d.sl, .int .i64 x0.d.li, .slice x0.prA x0.d.pr.length x0.prc] 47)).heap.size := by simp
  by_cases hz1 : z1.length ≤ 1048576
  rotate_left
  · have hz1' : 1048576 < z1.length := by omega
    have ⟨n0_0, n0_1, n0_2, n0_3, n0_4, n0_5⟩ := hN0
    go_enter Try.func6, Try.ntmps6
    go_wp2
    go_ret
    exact ⟨rfl, hb⟩
  have hzz1 : z1.length ≤ 1048576 := hz1
  have ⟨n0_0, n0_1, n0_2, n0_3, n0_4, n0_5⟩ := hN0
  go_enter Try.func6, Try.ntmps6
  go_wp2_with fail
  refine (szBd_any x0 1048576 _ (by omega) (by omega) (HI0.out.go hb)).mono ?_
  rintro e wk1 ⟨r0, rfl, hr, hbs⟩
  have hN0 := hN0.next hbs
  have hb := bnext hb hbs
  have hlow := Nat.lt_of_lt_of_le hlow hbs.size
  clear n0_0 n0_1 n0_2 n0_3 n0_4 n0_5
  clear hbs
  have ⟨n0_0, n0_1, n0_2, n0_3, n0_4, n0_5⟩ := hN0
  rcases hr with rfl | ⟨r0_0, r0_1, hs0⟩
  · go_wp2
    go_ret
    exact ⟨rfl, hb⟩
  have HS0 := Lib.hid hs0
  clear hs0
  have hXs := dayLoadsX_short x0.d z1
  obtain ⟨X, hX⟩ : ∃ X, dayLoadsX x0.d z1 = X := ⟨_, rfl⟩
  obtain ⟨C, hC⟩ : ∃ C, dayLoadsC x0.d z1 = C := ⟨_, rfl⟩
  rw [hX] at hXs
  have HRX := Lib.hid hX
  have HRC := Lib.hid hC
  clear hX hC
  have hCC : (C != C) = false := by simp
  have hXm : X.length ≤ maxLen := by unfold maxLen; omega
  go_wp2_with fail
  refine (copyBd x0 _ ⟨HI0.out.go hb, HS0.out⟩).mono ?_
  rintro e wk2 ⟨yu0, hdu0, rfl, Yu0, hbs⟩
  have HDu0 := Lib.hid hdu0
  clear hdu0
  have hN0 := hN0.next hbs
  have hb := bnext hb hbs
  have hlow := Nat.lt_of_lt_of_le hlow hbs.size
  clear n0_0 n0_1 n0_2 n0_3 n0_4 n0_5
  clear hbs
  have ⟨n0_0, n0_1, n0_2, n0_3, n0_4, n0_5⟩ := hN0
  go_wp2_with fail
  refine (toInts_any a1 cap1 z1.length z1 _ rfl hz1 (HZ1.out.2.2.1.next hb)).mono ?_
  rintro e wk3 hq
  obtain ⟨Au1, cu1, rfl, ho, hbs⟩ := retInts_of hq
  have Zu1 := owns_cells ho
  clear hq ho
  have hN0 := hN0.next hbs
  have Yu0 := Yu0.go hbs
  have hb := bnext hb hbs
  have hlow := Nat.lt_of_lt_of_le hlow hbs.size
  clear n0_0 n0_1 n0_2 n0_3 n0_4 n0_5
  clear hbs
  have ⟨n0_0, n0_1, n0_2, n0_3, n0_4, n0_5⟩ := hN0
  go_wp2_with fail
  have hC := specDayLoads_ic yu0 Au1 cu1 z1 _ Yu0 Zu1 hzz1
  have hE : dayLoadsX yu0.d z1 = X := by rw [HDu0.out, HRX.out]
  rw [hE] at hC
  clear hE
  have hE : dayLoadsC yu0.d z1 = C := by rw [HDu0.out, HRC.out]
  rw [hE] at hC
  clear hE
  refine hC.mono ?_
  rintro e wk4 ⟨Aw, cw, rfl, ho, hbs⟩
  clear hC
  have S2 := owns_cells ho
  have L2 := owns_lies ho
  clear ho
  clear Yu0 HDu0
  clear Zu1
  have hN0 := hN0.next hbs
  have hb := bnext hb hbs
  have hlow := Nat.lt_of_lt_of_le hlow hbs.size
  clear n0_0 n0_1 n0_2 n0_3 n0_4 n0_5
  clear hbs
  have ⟨n0_0, n0_1, n0_2, n0_3, n0_4, n0_5⟩ := hN0
  have h2 : wk4.heap.size ≤ wk4.heap.size := Nat.le_refl _
  have h02 : w.heap.size ≤ wk4.heap.size := hb.size
  go_wp2_with fail
  refine (copyOwnBd x0 _ ⟨HI0.out.go hb, HS0.out⟩).mono ?_
  rintro e wk5 ⟨yv0, hdv0, rfl, OB0, Yv0, hbs⟩
  have HDv0 := Lib.hid hdv0
  clear hdv0
  have hw20 := h2
  have hlg0 := hlow
  have hzt0 : ∀ k, yv0.blk = some k → k < wk5.heap.size := fun k hk => (OB0.lt k hk).2
  have hpl0 := Yv0.2
  have h2 := Nat.le_trans h2 hbs.size
  have hN0 := hN0.next hbs
  have S2 := S2.next hbs
  have hb := bnext hb hbs
  have hlow := Nat.lt_of_lt_of_le hlow hbs.size
  clear n0_0 n0_1 n0_2 n0_3 n0_4 n0_5
  clear hbs
  have ⟨n0_0, n0_1, n0_2, n0_3, n0_4, n0_5⟩ := hN0
  have hsz0 : wk5.heap.size ≤ wk5.heap.size := Nat.le_refl _
  have hal : Below wk5.heap.size wk5 (wk5.alloc (.cells #[.string yv0.d.id, .int .i64 yv0.d.nd, .int .i64 yv0.d.ba, .int .i64 yv0.d.sl, .int .i64 yv0.d.li, .slice yv0.prA yv0.d.pr.length yv0.prc] 40)) := bal (Below.refl _ _) _
  have hX0 := BdO.new wk5 yv0 40
  have h2 := Nat.le_trans h2 hal.size
  have hsz0 := Nat.le_trans hsz0 hal.size
  have hN0 := hN0.next hal
  have S2 := S2.next hal
  have Yv0 := Yv0.go hal
  have OB0 := owns_below OB0 hal (Nat.le_refl _)
  have hb := bnext hb hal
  have hlow := Nat.lt_of_lt_of_le hlow hal.size
  clear n0_0 n0_1 n0_2 n0_3 n0_4 n0_5
  clear hal
  have ⟨n0_0, n0_1, n0_2, n0_3, n0_4, n0_5⟩ := hN0
  have ⟨x0_0, x0_1, x0_2, x0_3, x0_4, x0_5⟩ := hX0
  go_wp2_with fail
  refine (toInts_any a1 cap1 z1.length z1 _ rfl hz1 (HZ1.out.2.2.1.next hb)).mono ?_
  rintro e wk6 hq
  obtain ⟨Av1, cv1, rfl, ho, hbs⟩ := retInts_of hq
  have Zv1 := owns_cells ho
  have hlh0_1 : wk5.heap.size ≤ (wk5.alloc (.cells #[.string yv0.d.id, .int .i64 yv0.d.nd, .int .i64 yv0.d.ba, .int .i64 yv0.d.sl, .int .i64 yv0.d.li, .slice yv0.prA yv0.d.pr.length yv0.prc] 40)).heap.size := hsz0
  have hlg1 := hlow
  have OZ1 := ho
  have hw21 := h2
  have hzt1 : ∀ k, (Value.slice Av1 z1.length cv1).ownBlock = some k → k < wk6.heap.size := fun k hk => (ho.lt k hk).2
  clear hq ho
  have h2 := Nat.le_trans h2 hbs.size
  have hsz0 := Nat.le_trans hsz0 hbs.size
  have hN0 := hN0.next hbs
  have S2 := S2.next hbs
  have Yv0 := Yv0.go hbs
  have hX0 := hX0.next hbs
  have OB0 := owns_below OB0 hbs (Nat.le_refl _)
  have hb := bnext hb hbs
  have hlow := Nat.lt_of_lt_of_le hlow hbs.size
  clear n0_0 n0_1 n0_2 n0_3 n0_4 n0_5
  clear x0_0 x0_1 x0_2 x0_3 x0_4 x0_5
  clear hbs
  have ⟨n0_0, n0_1, n0_2, n0_3, n0_4, n0_5⟩ := hN0
  have ⟨x0_0, x0_1, x0_2, x0_3, x0_4, x0_5⟩ := hX0
  have hsz1 : wk6.heap.size ≤ wk6.heap.size := Nat.le_refl _
  have hlgV := hlow
  have hiG0 : wk5.heap.size ≤ wk6.heap.size := hsz0
  have hiG1 : wk6.heap.size ≤ wk6.heap.size := hsz1
  have hWV : wk4.heap.size ≤ wk6.heap.size := h2
  go_wp2_with fail
  have hC := implDayLoads_ic yv0 Av1 cv1 z1 _ Yv0 Zv1 hzz1
  have hE : dayLoadsX yv0.d z1 = X := by rw [HDv0.out, HRX.out]
  rw [hE] at hC
  clear hE
  have hE : dayLoadsC yv0.d z1 = C := by rw [HDv0.out, HRC.out]
  rw [hE] at hC
  clear hE
  refine hC.mono ?_
  rintro e wk7 ⟨Ag, cg, rfl, OG, hbs⟩
  clear hC
  have h2 := Nat.le_trans h2 hbs.size
  have hN0 := hN0.next hbs
  have S2 := S2.next hbs
  have Yv0 := Yv0.go hbs
  have hX0 := hX0.next hbs
  have Zv1 := Zv1.next hbs
  have OB0 := owns_below OB0 hbs (Nat.le_refl _)
  have OZ1 := owns_below OZ1 hbs (Nat.le_refl _)
  have hb := bnext hb hbs
  have hlow := Nat.lt_of_lt_of_le hlow hbs.size
  clear n0_0 n0_1 n0_2 n0_3 n0_4 n0_5
  clear x0_0 x0_1 x0_2 x0_3 x0_4 x0_5
  clear hbs
  have ⟨n0_0, n0_1, n0_2, n0_3, n0_4, n0_5⟩ := hN0
  have ⟨x0_0, x0_1, x0_2, x0_3, x0_4, x0_5⟩ := hX0
  go_wp2_with fail
  refine (eqInts_same Ag Aw cg cw X _ hXm (owns_cells OG) S2).mono ?_
  rintro e wk8 ⟨rfl, hd⟩
  have hbs := drawn_below hd
  clear hd
  have h2 := Nat.le_trans h2 hbs.size
  have hN0 := hN0.next hbs
  have S2 := S2.next hbs
  have Yv0 := Yv0.go hbs
  have hX0 := hX0.next hbs
  have Zv1 := Zv1.next hbs
  have OB0 := owns_below OB0 hbs (Nat.le_refl _)
  have OZ1 := owns_below OZ1 hbs (Nat.le_refl _)
  have OG := owns_below OG hbs (Nat.le_refl _)
  have hb := bnext hb hbs
  have hlow := Nat.lt_of_lt_of_le hlow hbs.size
  clear n0_0 n0_1 n0_2 n0_3 n0_4 n0_5
  clear x0_0 x0_1 x0_2 x0_3 x0_4 x0_5
  clear hbs
  have ⟨n0_0, n0_1, n0_2, n0_3, n0_4, n0_5⟩ := hN0
  have ⟨x0_0, x0_1, x0_2, x0_3, x0_4, x0_5⟩ := hX0
  go_wp2_with fail
  have hdr : Below wk8.heap.size wk8 wk8.drew := below_drewN (Below.refl _ _) 1
  have h2 := Nat.le_trans h2 hdr.size
  have hN0 := hN0.next hdr
  have S2 := S2.next hdr
  have Yv0 := Yv0.go hdr
  have hX0 := hX0.next hdr
  have Zv1 := Zv1.next hdr
  have OB0 := owns_below OB0 hdr (Nat.le_refl _)
  have OZ1 := owns_below OZ1 hdr (Nat.le_refl _)
  have OG := owns_below OG hdr (Nat.le_refl _)
  have hb := bnext hb hdr
  have hlow := Nat.lt_of_lt_of_le hlow hdr.size
  clear n0_0 n0_1 n0_2 n0_3 n0_4 n0_5
  clear x0_0 x0_1 x0_2 x0_3 x0_4 x0_5
  clear hdr
  have ⟨n0_0, n0_1, n0_2, n0_3, n0_4, n0_5⟩ := hN0
  have ⟨x0_0, x0_1, x0_2, x0_3, x0_4, x0_5⟩ := hX0
  go_region_held3 (fun w' => w'.cell? ⟨w.heap.size, 0, none⟩ = some (.string x0.d.id) ∧ w'.cell? ⟨w.heap.size, 1, none⟩ = some (.int .i64 x0.d.nd) ∧ w'.cell? ⟨w.heap.size, 2, none⟩ = some (.int .i64 x0.d.ba) ∧ w'.cell? ⟨w.heap.size, 3, none⟩ = some (.int .i64 x0.d.sl) ∧ w'.cell? ⟨w.heap.size, 4, none⟩ = some (.int .i64 x0.d.li) ∧ w'.cell? ⟨w.heap.size, 5, none⟩ = some (.slice x0.prA x0.d.pr.length x0.prc) ∧ w'.cell? ⟨wk5.heap.size, 0, none⟩ = some (.string yv0.d.id) ∧ w'.cell? ⟨wk5.heap.size, 1, none⟩ = some (.int .i64 yv0.d.nd) ∧ w'.cell? ⟨wk5.heap.size, 2, none⟩ = some (.int .i64 yv0.d.ba) ∧ w'.cell? ⟨wk5.heap.size, 3, none⟩ = some (.int .i64 yv0.d.sl) ∧ w'.cell? ⟨wk5.heap.size, 4, none⟩ = some (.int .i64 yv0.d.li) ∧ w'.cell? ⟨wk5.heap.size, 5, none⟩ = some (.slice yv0.prA yv0.d.pr.length yv0.prc)) (exact ⟨n0_0, n0_1, n0_2, n0_3, n0_4, n0_5, x0_0, x0_1, x0_2, x0_3, x0_4, x0_5⟩) (first | (go_at_call 32; refine (copyBd x0 _ ⟨HI0.out.go hb, HS0.out⟩).mono ?_; rintro e wr1 ⟨yt0, hdt0, rfl, Yt0, hbs⟩; have HDt0 := Lib.hid hdt0; clear hdt0; have hN0 := hN0.next hbs; have S2 := S2.next hbs; have Yv0 := Yv0.go hbs; have hX0 := hX0.next hbs; have Zv1 := Zv1.next hbs; have OB0 := owns_below OB0 hbs (Nat.le_refl _); have OZ1 := owns_below OZ1 hbs (Nat.le_refl _); have OG := owns_below OG hbs (Nat.le_refl _); have hb := bnext hb hbs; have hlow := Nat.lt_of_lt_of_le hlow hbs.size; have h2 := Nat.le_trans h2 hbs.size; have ⟨n0_0, n0_1, n0_2, n0_3, n0_4, n0_5⟩ := hN0; have ⟨x0_0, x0_1, x0_2, x0_3, x0_4, x0_5⟩ := hX0) | (go_at_call 34; refine (eqBd_same yv0 yt0 _ (by rw [HDv0.out, HDt0.out]) Yv0.1 Yt0.1).mono ?_; rintro e wr2 ⟨rfl, hbs⟩; have hN0 := hN0.next hbs; have S2 := S2.next hbs; have Yv0 := Yv0.go hbs; have hX0 := hX0.next hbs; have Zv1 := Zv1.next hbs; have OB0 := owns_below OB0 hbs (Nat.le_refl _); have OZ1 := owns_below OZ1 hbs (Nat.le_refl _); have OG := owns_below OG hbs (Nat.le_refl _); have hb := bnext hb hbs; have hlow := Nat.lt_of_lt_of_le hlow hbs.size; have h2 := Nat.le_trans h2 hbs.size; have ⟨n0_0, n0_1, n0_2, n0_3, n0_4, n0_5⟩ := hN0; have ⟨x0_0, x0_1, x0_2, x0_3, x0_4, x0_5⟩ := hX0))
  go_wp2_with fail
  refine (toInts_any a1 cap1 z1.length z1 _ rfl hz1 (HZ1.out.2.2.1.next hb)).mono ?_
  rintro e wk9 hq
  obtain ⟨At1, ct1, rfl, ho, hbs⟩ := retInts_of hq
  have Zt1 := owns_cells ho
  clear hq ho
  have h2 := Nat.le_trans h2 hbs.size
  have hN0 := hN0.next hbs
  have S2 := S2.next hbs
  have Yv0 := Yv0.go hbs
  have hX0 := hX0.next hbs
  have Zv1 := Zv1.next hbs
  have OB0 := owns_below OB0 hbs (Nat.le_refl _)
  have OZ1 := owns_below OZ1 hbs (Nat.le_refl _)
  have OG := owns_below OG hbs (Nat.le_refl _)
  have hb := bnext hb hbs
  have hlow := Nat.lt_of_lt_of_le hlow hbs.size
  clear n0_0 n0_1 n0_2 n0_3 n0_4 n0_5
  clear x0_0 x0_1 x0_2 x0_3 x0_4 x0_5
  clear hbs
  have ⟨n0_0, n0_1, n0_2, n0_3, n0_4, n0_5⟩ := hN0
  have ⟨x0_0, x0_1, x0_2, x0_3, x0_4, x0_5⟩ := hX0
  go_wp2_with fail
  refine (eqInts_same Av1 At1 cv1 ct1 z1 _ (by unfold maxLen; omega) Zv1 Zt1).mono ?_
  rintro e wk10 ⟨rfl, hd⟩
  have hbs := drawn_below hd
  clear hd
  have h2 := Nat.le_trans h2 hbs.size
  have hN0 := hN0.next hbs
  have S2 := S2.next hbs
  have Yv0 := Yv0.go hbs
  have hX0 := hX0.next hbs
  have Zv1 := Zv1.next hbs
  have OB0 := owns_below OB0 hbs (Nat.le_refl _)
  have OZ1 := owns_below OZ1 hbs (Nat.le_refl _)
  have OG := owns_below OG hbs (Nat.le_refl _)
  have hb := bnext hb hbs
  have hlow := Nat.lt_of_lt_of_le hlow hbs.size
  clear n0_0 n0_1 n0_2 n0_3 n0_4 n0_5
  clear x0_0 x0_1 x0_2 x0_3 x0_4 x0_5
  clear hbs
  have ⟨n0_0, n0_1, n0_2, n0_3, n0_4, n0_5⟩ := hN0
  have ⟨x0_0, x0_1, x0_2, x0_3, x0_4, x0_5⟩ := hX0
  go_wp2_with fail
  refine (markBd_any yv0 _ 1 _ (by omega) (by omega) Yv0.2 OB0).mono ?_
  rintro e wk11 ⟨rfl, hg⟩
  have hW := WrBd.grown (WrBd.refl _ wk4.heap.size wk5.heap.size) hg (fun k hk => ⟨(OB0.lt k hk).1, hzt0 k hk⟩)
  have hS2l : wk4.heap.size ≤ wk4.heap.size := hw20
  have S2 := S2.keep (fun b off e => hW.2.2.2.2 b (Nat.lt_of_lt_of_le (L2 b off e) h2) (.inl (Nat.lt_of_lt_of_le (L2 b off e) hS2l)))
  have OG := owns_keep OG (fun b e => hW.2.2.2.2 b (OG.lt b e).2 (.inr (Nat.le_trans hiG0 (OG.lt b e).1)))
  have hb := hW.below hb (Nat.le_trans h02 hS2l) (Nat.le_trans h02 h2)
  have h2 := Nat.le_trans h2 hW.2.2.2.1
  have hN0 := hN0.keep (hW.2.2.2.2 _ hN0.lies (.inl hlg0))
  have hlow := Nat.lt_of_lt_of_le hlow hW.2.2.2.1
  clear n0_0 n0_1 n0_2 n0_3 n0_4 n0_5
  clear x0_0 x0_1 x0_2 x0_3 x0_4 x0_5
  clear hX0
  have ⟨n0_0, n0_1, n0_2, n0_3, n0_4, n0_5⟩ := hN0
  have OZ1 := owns_keep OZ1 (fun b e => hW.2.2.2.2 b (OZ1.lt b e).2 (.inr (Nat.le_trans hlh0_1 (OZ1.lt b e).1)))
  clear Zv1
  clear hW hS2l Yv0 OB0 hg
  go_wp2_with fail
  refine (markInts_any Av1 cv1 z1.length _ _ (1 + (yv0.d.pr.length : Int)) _ (by omega) (by omega) OZ1).mono ?_
  rintro e wk12 ⟨rfl, -, hg⟩
  have hW := WrBd.grown (WrBd.refl _ (wk5.alloc (.cells #[.string yv0.d.id, .int .i64 yv0.d.nd, .int .i64 yv0.d.ba, .int .i64 yv0.d.sl, .int .i64 yv0.d.li, .slice yv0.prA yv0.d.pr.length yv0.prc] 40)).heap.size wk6.heap.size) hg (fun k hk => ⟨(OZ1.lt k hk).1, hzt1 k hk⟩)
  have hS2l : wk4.heap.size ≤ (wk5.alloc (.cells #[.string yv0.d.id, .int .i64 yv0.d.nd, .int .i64 yv0.d.ba, .int .i64 yv0.d.sl, .int .i64 yv0.d.li, .slice yv0.prA yv0.d.pr.length yv0.prc] 40)).heap.size := hw21
  have S2 := S2.keep (fun b off e => hW.2.2.2.2 b (Nat.lt_of_lt_of_le (L2 b off e) h2) (.inl (Nat.lt_of_lt_of_le (L2 b off e) hS2l)))
  have OG := owns_keep OG (fun b e => hW.2.2.2.2 b (OG.lt b e).2 (.inr (Nat.le_trans hiG1 (OG.lt b e).1)))
  have hb := hW.below hb (Nat.le_trans h02 hS2l) (Nat.le_trans h02 h2)
  have h2 := Nat.le_trans h2 hW.2.2.2.1
  have hN0 := hN0.keep (hW.2.2.2.2 _ hN0.lies (.inl hlg1))
  have hlow := Nat.lt_of_lt_of_le hlow hW.2.2.2.1
  clear n0_0 n0_1 n0_2 n0_3 n0_4 n0_5
  have ⟨n0_0, n0_1, n0_2, n0_3, n0_4, n0_5⟩ := hN0
  clear hW hS2l OZ1 hg
  have hkn : ¬ ((1 + (yv0.d.pr.length : Int)) + (z1.length : Int)) < 0 := by omega
  go_wp2_with fail
  refine (eqInts_same Ag Aw cg cw X _ hXm (owns_cells OG) S2).mono ?_
  rintro e wk13 ⟨rfl, hd⟩
  have hbs := drawn_below hd
  clear hd
  have h2 := Nat.le_trans h2 hbs.size
  have hN0 := hN0.next hbs
  have S2 := S2.next hbs
  have OG := owns_below OG hbs (Nat.le_refl _)
  have hb := bnext hb hbs
  have hlow := Nat.lt_of_lt_of_le hlow hbs.size
  clear n0_0 n0_1 n0_2 n0_3 n0_4 n0_5
  clear hbs
  have ⟨n0_0, n0_1, n0_2, n0_3, n0_4, n0_5⟩ := hN0
  go_wp2_with fail
  refine (markIntsE_any Ag cg X.length wk6.heap.size (intsV X) 1 _ (by omega) (by omega) OG).mono ?_
  rintro e wk14 ⟨rfl, OM, hg⟩
  obtain ⟨k1, k2, k3⟩ := one_keeps (w0 := w) hg OG
  have S2 := S2.keep (fun b off e => k1 b (Nat.lt_of_lt_of_le (L2 b off e) hWV) (Nat.lt_of_lt_of_le (L2 b off e) h2))
  have hb := k2 _ (Nat.le_trans h02 hWV) (Nat.le_trans h02 h2) hb
  have h2 := Nat.le_trans h2 k3
  have hneg : ¬ (1 + (X.length : Int) < 0) := by omega
  have hN0 := hN0.keep (k1 _ hlgV hN0.lies)
  have hlow := Nat.lt_of_lt_of_le hlow k3
  clear n0_0 n0_1 n0_2 n0_3 n0_4 n0_5
  have ⟨n0_0, n0_1, n0_2, n0_3, n0_4, n0_5⟩ := hN0
  clear hg k1 k2 k3 OG
  go_wp2_with fail
  refine (heldInts_any Ag cg X.length 1 _ (by omega) (by omega) hXm (owns_cells OM)).mono ?_
  rintro e wk15 ⟨rfl, hd⟩
  have hbs := drawn_below hd
  clear hd
  have h2 := Nat.le_trans h2 hbs.size
  have hN0 := hN0.next hbs
  have S2 := S2.next hbs
  have OM := owns_below OM hbs (Nat.le_refl _)
  have hb := bnext hb hbs
  have hlow := Nat.lt_of_lt_of_le hlow hbs.size
  clear n0_0 n0_1 n0_2 n0_3 n0_4 n0_5
  clear hbs
  have ⟨n0_0, n0_1, n0_2, n0_3, n0_4, n0_5⟩ := hN0
  go_wp2_with fail
  refine (copyBd x0 _ ⟨HI0.out.go hb, HS0.out⟩).mono ?_
  rintro e wk16 ⟨yr0, hdr0, rfl, Yr0, hbs⟩
  have HDr0 := Lib.hid hdr0
  clear hdr0
  have h2 := Nat.le_trans h2 hbs.size
  have hN0 := hN0.next hbs
  have S2 := S2.next hbs
  have OM := owns_below OM hbs (Nat.le_refl _)
  have hb := bnext hb hbs
  have hlow := Nat.lt_of_lt_of_le hlow hbs.size
  clear n0_0 n0_1 n0_2 n0_3 n0_4 n0_5
  clear hbs
  have ⟨n0_0, n0_1, n0_2, n0_3, n0_4, n0_5⟩ := hN0
  go_wp2_with fail
  refine (toInts_any a1 cap1 z1.length z1 _ rfl hz1 (HZ1.out.2.2.1.next hb)).mono ?_
  rintro e wk17 hq
  obtain ⟨Ar1, cr1, rfl, ho, hbs⟩ := retInts_of hq
  have Zr1 := owns_cells ho
  clear hq ho
  have h2 := Nat.le_trans h2 hbs.size
  have hN0 := hN0.next hbs
  have S2 := S2.next hbs
  have Yr0 := Yr0.go hbs
  have OM := owns_below OM hbs (Nat.le_refl _)
  have hb := bnext hb hbs
  have hlow := Nat.lt_of_lt_of_le hlow hbs.size
  clear n0_0 n0_1 n0_2 n0_3 n0_4 n0_5
  clear hbs
  have ⟨n0_0, n0_1, n0_2, n0_3, n0_4, n0_5⟩ := hN0
  go_wp2_with fail
  have hC := implDayLoads_ic yr0 Ar1 cr1 z1 _ Yr0 Zr1 hzz1
  have hE : dayLoadsX yr0.d z1 = X := by rw [HDr0.out, HRX.out]
  rw [hE] at hC
  clear hE
  have hE : dayLoadsC yr0.d z1 = C := by rw [HDr0.out, HRC.out]
  rw [hE] at hC
  clear hE
  refine hC.mono ?_
  rintro e wk18 ⟨Ah, ch, rfl, oh, hbs⟩
  clear hC
  have S3 := owns_cells oh
  clear oh
  clear Yr0 HDr0
  clear Zr1
  have h2 := Nat.le_trans h2 hbs.size
  have hN0 := hN0.next hbs
  have S2 := S2.next hbs
  have OM := owns_below OM hbs (Nat.le_refl _)
  have hb := bnext hb hbs
  have hlow := Nat.lt_of_lt_of_le hlow hbs.size
  clear n0_0 n0_1 n0_2 n0_3 n0_4 n0_5
  clear hbs
  have ⟨n0_0, n0_1, n0_2, n0_3, n0_4, n0_5⟩ := hN0
  go_wp2_with fail
  refine (eqInts_same Ah Aw ch cw X _ hXm S3 S2).mono ?_
  rintro e wk19 ⟨rfl, hd⟩
  have hbs := drawn_below hd
  clear hd S3
  have h2 := Nat.le_trans h2 hbs.size
  have hN0 := hN0.next hbs
  have S2 := S2.next hbs
  have OM := owns_below OM hbs (Nat.le_refl _)
  have hb := bnext hb hbs
  have hlow := Nat.lt_of_lt_of_le hlow hbs.size
  clear n0_0 n0_1 n0_2 n0_3 n0_4 n0_5
  clear hbs
  have ⟨n0_0, n0_1, n0_2, n0_3, n0_4, n0_5⟩ := hN0
  go_wp2_with fail
  refine (heldInts_any Ag cg X.length 1 _ (by omega) (by omega) hXm (owns_cells OM)).mono ?_
  rintro e wk20 ⟨rfl, hd⟩
  have hbs := drawn_below hd
  clear hd
  have h2 := Nat.le_trans h2 hbs.size
  have hN0 := hN0.next hbs
  have S2 := S2.next hbs
  have OM := owns_below OM hbs (Nat.le_refl _)
  have hb := bnext hb hbs
  have hlow := Nat.lt_of_lt_of_le hlow hbs.size
  clear n0_0 n0_1 n0_2 n0_3 n0_4 n0_5
  clear hbs
  have ⟨n0_0, n0_1, n0_2, n0_3, n0_4, n0_5⟩ := hN0
  go_wp2
  go_ret
  exact ⟨rfl, hb⟩

theorem own : ownKnob Try.prog.godebug = none := by kernel_rfl
theorem laidOut : laidOutB Try.prog = true := by kernel_rfl

set_option maxRecDepth 100000 in
theorem lifted (os : Os) (started : os.Started) (H : Type) (enc : TypeId × Value → H) :
    ReturnsInHanded {} Try.checked os 6 .any (Rows.fnExactDayLoadsSpec.pre6 enc Try.prog Try.f6 Rows.fnExactDayLoadsRow.domain false) (Rows.fnExactDayLoadsSpec.post enc Try.prog Try.f6 false true false false) := by
  refine returnsInHanded_of_change (C := Try.checked) own started (by kernel_rfl) Try.func6
    (ChangeSpec.witness6 (enc := enc) (C := Try.checked) false ⟨#[], #[.agg #[.string .empty, .int .i64 0, .int .i64 0, .int .i64 0, .int .i64 0, .slice none 0 0], .slice none 0 0], []⟩ 8 (by kernel_rfl) (by kernel_rfl) (by kernel_rfl) (by kernel_rfl)) ?_
  intro W base args ds gs before hval0 hW hcnd _
  have hval : ∀ (j : Nat) t v, Try.f6.params[j]? = some t → args[j]? = some v → Value.okWide Try.prog W .any base t v := hval0
  have hW' := hW
  obtain ⟨p, q, hA0, hV, rfl, hfz, hnd⟩ := hW
  have hA : DataW.TrodAll enc Try.prog W 0 (fun _ => true) true Try.f6.params.toList args.toList ds p := hA0
  rw [Try.params6] at hA hval
  obtain ⟨v0, vs0, d0, ds0, p0, q0, hargs, rfl, rfl, h0, r0⟩ := trodAll_cons hA
  obtain ⟨v1, vs1, d1, ds1, p1, q1, rfl, rfl, rfl, h1, r1⟩ := trodAll_cons r0
  obtain ⟨rfl, rfl, rfl⟩ := trodAll_nil r1
  obtain rfl : args = #[v0, v1] := by cases args; simp_all
  obtain ⟨rfl, rfl⟩ := trodVars_none hV
  have k0 := h0
  have lt0 : ∀ x ∈ p0, x.block < W.heap.size := by obtain ⟨m, hm⟩ := k0; exact DataW.trod_lt m _ _ _ hm
  obtain ⟨x0, rfl, w0⟩ := open_Bd (hval 0 47 v0 rfl rfl) h0
  obtain ⟨a1, len1, cap1, rfl⟩ := okWide_slice Try.underlying26 (hval 1 26 v1 rfl rfl)
  have k1 := h1
  have lt1 : ∀ x ∈ p1, x.block < W.heap.size := by obtain ⟨m, hm⟩ := k1; exact DataW.trod_lt m _ _ _ hm
  obtain ⟨z1, w1⟩ : ∃ zs, SliceIn .i64 W a1 len1 zs := by
    obtain ⟨fuel, hf⟩ := h1
    rcases open_ints Try.underlying26 Try.underlying2 (by kernel_rfl) hf with ⟨hcs, _⟩ | ⟨x, l, c, zs, hcs, _, hl, hm, hz, _, hcell, hwz⟩
    · simp [Value.cells] at hcs
      obtain ⟨rfl, rfl, rfl⟩ := hcs
      exact ⟨[], SliceIn.nil _ _⟩
    · simp [Value.cells] at hcs
      obtain ⟨rfl, rfl, rfl⟩ := hcs
      exact ⟨_, SliceIn.row hl hm (by simpa using hz) hcell hwz⟩
  clear hA0 hval0
  refine (walk x0 a1 len1 cap1 z1 W w0 w1).mono fun e W' ⟨he, bel⟩ => ?_
  subst he
  exact ⟨_, rfl, _, _, _, [], _, [], hW', trodAll_mk1 (shut_bool Try.underlying4 _), (trodAll_cons_mk (Below.trod laidOut (by kernel_rfl) (of_decide_eq_true (by kernel_rfl)) k0 bel lt0) (trodAll_cons_mk (Below.trod laidOut (by kernel_rfl) (of_decide_eq_true (by kernel_rfl)) k1 bel lt1) trodAll_mk0)), rfl, bel.frame _, fun h => by cases h⟩

theorem over : Rows.fnExactDayLoadsRow.holds Try.pinned (OpenSpec.ofChange Rows.fnExactDayLoadsSpec) :=
  OpenClaim.holds_of_wide 6 Try.f6 rfl rfl rfl rfl rfl rfl rfl ⟨rfl, rfl, rfl, rfl, rfl⟩ rfl rfl rfl rfl rfl (by kernel_rfl) Try.func6 (by kernel_rfl)
    (of_decide_eq_true (by kernel_rfl)) (by unfold Func.isWrapper; first | (rw [if_pos (by decide +kernel)]; kernel_rfl) | (rw [if_neg (by decide +kernel)]; exact ⟨rfl, rfl⟩))
    (fun os started H enc _ => lifted os started H enc)

theorem proved : Rows.FnExactDayLoadsSaid :=
  over
#print axioms proved
end Go.Proofs.Ytnepehdfkaegbaa.fnExactDayLoads
