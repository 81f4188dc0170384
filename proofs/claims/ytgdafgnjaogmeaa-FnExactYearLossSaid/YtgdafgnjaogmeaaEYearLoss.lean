/-
  FnExactYearLoss: for every input the law returns true and its arguments read as before. No condition.
-/
import Derived.Test.YtgdafgnjaogmeaaKa4
import Derived.Test.YtgdafgnjaogmeaaI0
import Derived.Test.YtgdafgnjaogmeaaH1
import Derived.Test.YtgdafgnjaogmeaaM2
import Derived.Deep.RegionHeld3
import Derived.Test.YtgdafgnjaogmeaaG0
import Derived.ShutString
import Derived.ChangeOld
namespace Go.Proofs.Ytgdafgnjaogmeaa.fnExactYearLoss
open Go.ChangeShapes Go.WideShapes Go.ChangeAt Go.RowKit
open Go.ChangeMaps (open_string shut_string)
set_option linter.unusedVariables false

set_option maxRecDepth 100000
set_option maxHeartbeats 1600000

theorem walk (A0 : Option Addr) (n0 c0 : Nat) (z0 : List Int) (B0 : Option Addr) (m0 d0 : Nat) (ps0 : List Pp) (a1 : Option Addr) (len1 cap1 : Nat) (z1 : List Int) (a2 : Option Addr) (len2 cap2 : Nat) (z2 : List Int) (w : World) (w0 : SliceIn .i64 w A0 n0 z0 ∧ PipesIn w B0 m0 ps0) (w1 : SliceIn .i64 w a1 len1 z1) (w2 : SliceIn .i64 w a2 len2 z2) :
    Calls Try.prog 7 #[.agg #[.slice A0 n0 c0, .slice B0 m0 d0], .slice a1 len1 cap1, .slice a2 len2 cap2] w fun e w' => e = .returned (.bool true) ∧ Below w.heap.size w w' := by
  have HI : Hid (NetIn w A0 n0 z0 B0 m0 ps0) := Lib.hid w0
  have M1 := w0.1.2.1
  have M2 := w0.2.2.1
  have HD := Lib.hid w0.2.2.2.2
  obtain rfl : z0.length = n0 := w0.1.1
  obtain rfl : ps0.length = m0 := w0.2.1
  clear w0
  have HZ1 := Lib.hid w1
  have hzl1 := w1.1
  have hzm1 : len1 ≤ 9223372036854775807 := by have := w1.2.1; unfold maxLen at this; omega
  subst hzl1
  clear w1
  have HZ2 := Lib.hid w2
  have hzl2 := w2.1
  have hzm2 : len2 ≤ 9223372036854775807 := by have := w2.2.1; unfold maxLen at this; omega
  subst hzl2
  clear w2
  have hN := NetAt.new w A0 z0.length c0 B0 ps0.length d0 35
  have hb : Below w.heap.size w (w.alloc (.cells #[.slice A0 z0.length c0, .slice B0 ps0.length d0] 35)) := bal (Below.refl _ _) _
  have ⟨x0, x1⟩ := hN
  by_cases hz1 : z1.length ≤ 1048576
  rotate_left
  · have hz1' : 1048576 < z1.length := by omega
    go_enter Try.func7, Try.ntmps7
    go_wp2
    go_ret
    exact ⟨rfl, hb⟩
  by_cases hz2 : z2.length ≤ 1048576
  rotate_left
  · have hz2' : 1048576 < z2.length := by omega
    go_enter Try.func7, Try.ntmps7
    go_wp2
    go_ret
    exact ⟨rfl, hb⟩
  have hzz1 : z1.length ≤ 1048576 := hz1
  have hzz2 : z2.length ≤ 1048576 := hz2
  go_enter Try.func7, Try.ntmps7
  go_wp2_with fail
  refine (HI.out.szN c0 d0 _ hb).mono ?_
  rintro e wk1 ⟨r, rfl, hr, hbs⟩
  have hN := hN.next hbs
  have hb := bnext hb hbs
  clear x0 x1
  clear hbs
  have ⟨x0, x1⟩ := hN
  rcases hr with rfl | ⟨r0, hn, hm⟩
  · go_wp2
    go_ret
    exact ⟨rfl, hb⟩
  obtain ⟨R0, hR0⟩ : ∃ R, yearV z0 ps0 z1 z2 = R := ⟨_, rfl⟩
  have HR0 := Lib.hid hR0
  clear hR0
  have e0 : (R0 != R0) = false := by simp
  obtain ⟨R1, hR1⟩ : ∃ R, yearC z0 ps0 z1 z2 = R := ⟨_, rfl⟩
  have HR1 := Lib.hid hR1
  clear hR1
  have e1 : (R1 != R1) = false := by simp
  go_wp2_with fail
  refine (HI.out.copy c0 d0 _ hb hn hm).mono ?_
  rintro e wk2 ⟨Au, cu, Bu, du, rfl, o1, q1, hbs⟩
  have Cu : NetCells wk2 Au z0 Bu ps0 := ⟨owns_cells o1, pcells_of q1⟩
  clear o1 q1
  have hN := hN.next hbs
  have hb := bnext hb hbs
  clear x0 x1
  clear hbs
  have ⟨x0, x1⟩ := hN
  go_wp2_with fail
  refine (toInts_any a1 cap1 z1.length z1 _ rfl hz1 (HZ1.out.2.2.1.next hb)).mono ?_
  rintro e wk3 hq
  obtain ⟨Au1, cu1, rfl, ho, hbs⟩ := retInts_of hq
  have Zu1 := owns_cells ho
  clear hq ho
  have hN := hN.next hbs
  have Cu := Cu.next hbs
  have hb := bnext hb hbs
  clear x0 x1
  clear hbs
  have ⟨x0, x1⟩ := hN
  go_wp2_with fail
  refine (toInts_any a2 cap2 z2.length z2 _ rfl hz2 (HZ2.out.2.2.1.next hb)).mono ?_
  rintro e wk4 hq
  obtain ⟨Au2, cu2, rfl, ho, hbs⟩ := retInts_of hq
  have Zu2 := owns_cells ho
  clear hq ho
  have hN := hN.next hbs
  have Cu := Cu.next hbs
  have Zu1 := Zu1.next hbs
  have hb := bnext hb hbs
  clear x0 x1
  clear hbs
  have ⟨x0, x1⟩ := hN
  go_wp2_with fail
  have hC := specYearLoss_any Au Bu cu du z0 ps0 Au1 cu1 z1 Au2 cu2 z2 _ Cu hn hm HD.out Zu1 hzz1 Zu2 hzz2
  rw [HR0.out] at hC
  rw [HR1.out] at hC
  refine hC.mono ?_
  rintro e wk5 ⟨rfl, hbs⟩
  clear hC
  have hN := hN.next hbs
  have Cu := Cu.next hbs
  have Zu1 := Zu1.next hbs
  have Zu2 := Zu2.next hbs
  have hb := bnext hb hbs
  clear x0 x1
  clear hbs
  have ⟨x0, x1⟩ := hN
  clear Cu Zu1 Zu2
  go_wp2_with fail
  refine (HI.out.copy c0 d0 _ hb hn hm).mono ?_
  rintro e wk6 ⟨Av, cv, Bv, dv, rfl, o1, q1, hbs⟩
  have Cv : NetCells wk6 Av z0 Bv ps0 := ⟨owns_cells o1, pcells_of q1⟩
  clear o1 q1
  have hN := hN.next hbs
  have hb := bnext hb hbs
  clear x0 x1
  clear hbs
  have ⟨x0, x1⟩ := hN
  have hal : Below wk6.heap.size wk6 (wk6.alloc (.cells #[.slice Av z0.length cv, .slice Bv ps0.length dv] 40)) := bal (Below.refl _ _) _
  have hX := NetAt.new wk6 Av z0.length cv Bv ps0.length dv 40
  have hN := hN.next hal
  have Cv := Cv.next hal
  have hb := bnext hb hal
  clear x0 x1
  clear hal
  have ⟨x0, x1⟩ := hN
  have ⟨y0, y1⟩ := hX
  go_wp2_with fail
  refine (toInts_any a1 cap1 z1.length z1 _ rfl hz1 (HZ1.out.2.2.1.next hb)).mono ?_
  rintro e wk7 hq
  obtain ⟨Av1, cv1, rfl, ho, hbs⟩ := retInts_of hq
  have Zv1 := owns_cells ho
  clear hq ho
  have hN := hN.next hbs
  have hX := hX.next hbs
  have Cv := Cv.next hbs
  have hb := bnext hb hbs
  clear x0 x1 y0 y1
  clear hbs
  have ⟨x0, x1⟩ := hN
  have ⟨y0, y1⟩ := hX
  go_wp2_with fail
  refine (toInts_any a2 cap2 z2.length z2 _ rfl hz2 (HZ2.out.2.2.1.next hb)).mono ?_
  rintro e wk8 hq
  obtain ⟨Av2, cv2, rfl, ho, hbs⟩ := retInts_of hq
  have Zv2 := owns_cells ho
  clear hq ho
  have hN := hN.next hbs
  have hX := hX.next hbs
  have Cv := Cv.next hbs
  have Zv1 := Zv1.next hbs
  have hb := bnext hb hbs
  clear x0 x1 y0 y1
  clear hbs
  have ⟨x0, x1⟩ := hN
  have ⟨y0, y1⟩ := hX
  go_wp2_with fail
  have hC := implYearLoss_any Av Bv cv dv z0 ps0 Av1 cv1 z1 Av2 cv2 z2 _ Cv hn hm HD.out Zv1 hzz1 Zv2 hzz2
  rw [HR0.out] at hC
  rw [HR1.out] at hC
  refine hC.mono ?_
  rintro e wk9 ⟨rfl, hbs⟩
  clear hC
  have hN := hN.next hbs
  have hX := hX.next hbs
  have Cv := Cv.next hbs
  have Zv1 := Zv1.next hbs
  have Zv2 := Zv2.next hbs
  have hb := bnext hb hbs
  clear x0 x1 y0 y1
  clear hbs
  have ⟨x0, x1⟩ := hN
  have ⟨y0, y1⟩ := hX
  go_wp2_with fail
  have hdr : Below wk9.heap.size wk9 wk9.drew := below_drewN (Below.refl _ _) 1
  have hN := hN.next hdr
  have hX := hX.next hdr
  have Cv := Cv.next hdr
  have Zv1 := Zv1.next hdr
  have Zv2 := Zv2.next hdr
  have hb := bnext hb hdr
  clear x0 x1 y0 y1
  clear hdr
  have ⟨x0, x1⟩ := hN
  have ⟨y0, y1⟩ := hX
  go_region_held3 (fun w' => w'.cell? ⟨w.heap.size, 0, none⟩ = some (.slice A0 z0.length c0) ∧ w'.cell? ⟨w.heap.size, 1, none⟩ = some (.slice B0 ps0.length d0) ∧ w'.cell? ⟨wk6.heap.size, 0, none⟩ = some (.slice Av z0.length cv) ∧ w'.cell? ⟨wk6.heap.size, 1, none⟩ = some (.slice Bv ps0.length dv)) (exact ⟨x0, x1, y0, y1⟩) (first | (go_at_call 22; refine (HI.out.copy c0 d0 _ hb hn hm).mono ?_; rintro e wr1 ⟨At, ct, Bt, dt, rfl, o6, q6, hbs⟩; have Ct : NetCells wr1 At z0 Bt ps0 := ⟨owns_cells o6, pcells_of q6⟩; have hN := hN.next hbs; have hX := hX.next hbs; have Cv := Cv.next hbs; have Zv1 := Zv1.next hbs; have Zv2 := Zv2.next hbs; have hb := bnext hb hbs; have ⟨x0, x1⟩ := hN; have ⟨y0, y1⟩ := hX) | (go_at_call 24; refine (eqNet_same Av Bv _ _ cv dv _ _ z0 ps0 _ M1 M2 Cv.1 Cv.2 Ct.1 Ct.2).mono ?_; rintro e wr2 ⟨rfl, hbs⟩; have hN := hN.next hbs; have hX := hX.next hbs; have Cv := Cv.next hbs; have Zv1 := Zv1.next hbs; have Zv2 := Zv2.next hbs; have hb := bnext hb hbs; have ⟨x0, x1⟩ := hN; have ⟨y0, y1⟩ := hX))
  go_wp2_with fail
  refine (toInts_any a1 cap1 z1.length z1 _ rfl hz1 (HZ1.out.2.2.1.next hb)).mono ?_
  rintro e wk10 hq
  obtain ⟨At1, ct1, rfl, ho, hbs⟩ := retInts_of hq
  have Zt1 := owns_cells ho
  clear hq ho
  have hN := hN.next hbs
  have hX := hX.next hbs
  have Cv := Cv.next hbs
  have Zv1 := Zv1.next hbs
  have Zv2 := Zv2.next hbs
  have hb := bnext hb hbs
  clear x0 x1 y0 y1
  clear hbs
  have ⟨x0, x1⟩ := hN
  have ⟨y0, y1⟩ := hX
  go_wp2_with fail
  refine (eqInts_same Av1 At1 cv1 ct1 z1 _ (by unfold maxLen; omega) Zv1 Zt1).mono ?_
  rintro e wk11 ⟨rfl, hd⟩
  have hbs := drawn_below hd
  clear hd
  have hN := hN.next hbs
  have hX := hX.next hbs
  have Cv := Cv.next hbs
  have Zv2 := Zv2.next hbs
  have hb := bnext hb hbs
  clear x0 x1 y0 y1
  clear hbs
  have ⟨x0, x1⟩ := hN
  have ⟨y0, y1⟩ := hX
  go_wp2_with fail
  refine (toInts_any a2 cap2 z2.length z2 _ rfl hz2 (HZ2.out.2.2.1.next hb)).mono ?_
  rintro e wk12 hq
  obtain ⟨At2, ct2, rfl, ho, hbs⟩ := retInts_of hq
  have Zt2 := owns_cells ho
  clear hq ho
  have hN := hN.next hbs
  have hX := hX.next hbs
  have Cv := Cv.next hbs
  have Zv2 := Zv2.next hbs
  have hb := bnext hb hbs
  clear x0 x1 y0 y1
  clear hbs
  have ⟨x0, x1⟩ := hN
  have ⟨y0, y1⟩ := hX
  go_wp2_with fail
  refine (eqInts_same Av2 At2 cv2 ct2 z2 _ (by unfold maxLen; omega) Zv2 Zt2).mono ?_
  rintro e wk13 ⟨rfl, hd⟩
  have hbs := drawn_below hd
  clear hd
  have hN := hN.next hbs
  have hX := hX.next hbs
  have Cv := Cv.next hbs
  have hb := bnext hb hbs
  clear x0 x1 y0 y1
  clear hbs
  have ⟨x0, x1⟩ := hN
  have ⟨y0, y1⟩ := hX
  go_wp2
  go_ret
  exact ⟨rfl, hb⟩

theorem own : ownKnob Try.prog.godebug = none := by kernel_rfl
theorem laidOut : laidOutB Try.prog = true := by kernel_rfl

set_option maxRecDepth 100000 in
theorem lifted (os : Os) (started : os.Started) (H : Type) (enc : TypeId × Value → H) :
    ReturnsInHanded {} Try.checked os 7 .any (Rows.fnExactYearLossSpec.pre6 enc Try.prog Try.f7 Rows.fnExactYearLossRow.domain false) (Rows.fnExactYearLossSpec.post enc Try.prog Try.f7 false true false false) := by
  refine returnsInHanded_of_change (C := Try.checked) own started (by kernel_rfl) Try.func7
    (ChangeSpec.witness6 (enc := enc) (C := Try.checked) false ⟨#[], #[.agg #[.slice none 0 0, .slice none 0 0], .slice none 0 0, .slice none 0 0], []⟩ 8 (by kernel_rfl) (by kernel_rfl) (by kernel_rfl) (by kernel_rfl)) ?_
  intro W base args ds gs before hval0 hW hcnd _
  have hval : ∀ (j : Nat) t v, Try.f7.params[j]? = some t → args[j]? = some v → Value.okWide Try.prog W .any base t v := hval0
  have hW' := hW
  obtain ⟨p, q, hA0, hV, rfl, hfz, hnd⟩ := hW
  have hA : DataW.TrodAll enc Try.prog W 0 (fun _ => true) true Try.f7.params.toList args.toList ds p := hA0
  rw [Try.params7] at hA hval
  obtain ⟨v0, vs0, d0, ds0, p0, q0, hargs, rfl, rfl, h0, r0⟩ := trodAll_cons hA
  obtain ⟨v1, vs1, d1, ds1, p1, q1, rfl, rfl, rfl, h1, r1⟩ := trodAll_cons r0
  obtain ⟨v2, vs2, d2, ds2, p2, q2, rfl, rfl, rfl, h2, r2⟩ := trodAll_cons r1
  obtain ⟨rfl, rfl, rfl⟩ := trodAll_nil r2
  obtain rfl : args = #[v0, v1, v2] := by cases args; simp_all
  obtain ⟨rfl, rfl⟩ := trodVars_none hV
  have k0 := h0
  have lt0 : ∀ x ∈ p0, x.block < W.heap.size := by obtain ⟨m, hm⟩ := k0; exact DataW.trod_lt m _ _ _ hm
  obtain ⟨A0, n0, c0, z0, B0, m0, dd0, ps0, rfl, wz0, wp0⟩ := open_net (hval 0 35 v0 rfl rfl) h0
  have w0 := And.intro wz0 wp0
  obtain ⟨a1, len1, cap1, rfl⟩ := okWide_slice Try.underlying32 (hval 1 32 v1 rfl rfl)
  have k1 := h1
  have lt1 : ∀ x ∈ p1, x.block < W.heap.size := by obtain ⟨m, hm⟩ := k1; exact DataW.trod_lt m _ _ _ hm
  obtain ⟨z1, w1⟩ : ∃ zs, SliceIn .i64 W a1 len1 zs := by
    obtain ⟨fuel, hf⟩ := h1
    rcases open_ints Try.underlying32 Try.underlying2 (by kernel_rfl) hf with ⟨hcs, _⟩ | ⟨x, l, c, zs, hcs, _, hl, hm, hz, _, hcell, hwz⟩
    · simp [Value.cells] at hcs
      obtain ⟨rfl, rfl, rfl⟩ := hcs
      exact ⟨[], SliceIn.nil _ _⟩
    · simp [Value.cells] at hcs
      obtain ⟨rfl, rfl, rfl⟩ := hcs
      exact ⟨_, SliceIn.row hl hm (by simpa using hz) hcell hwz⟩
  obtain ⟨a2, len2, cap2, rfl⟩ := okWide_slice Try.underlying32 (hval 2 32 v2 rfl rfl)
  have k2 := h2
  have lt2 : ∀ x ∈ p2, x.block < W.heap.size := by obtain ⟨m, hm⟩ := k2; exact DataW.trod_lt m _ _ _ hm
  obtain ⟨z2, w2⟩ : ∃ zs, SliceIn .i64 W a2 len2 zs := by
    obtain ⟨fuel, hf⟩ := h2
    rcases open_ints Try.underlying32 Try.underlying2 (by kernel_rfl) hf with ⟨hcs, _⟩ | ⟨x, l, c, zs, hcs, _, hl, hm, hz, _, hcell, hwz⟩
    · simp [Value.cells] at hcs
      obtain ⟨rfl, rfl, rfl⟩ := hcs
      exact ⟨[], SliceIn.nil _ _⟩
    · simp [Value.cells] at hcs
      obtain ⟨rfl, rfl, rfl⟩ := hcs
      exact ⟨_, SliceIn.row hl hm (by simpa using hz) hcell hwz⟩
  clear hA0 hval0
  refine (walk A0 n0 c0 z0 B0 m0 dd0 ps0 a1 len1 cap1 z1 a2 len2 cap2 z2 W w0 w1 w2).mono fun e W' ⟨he, bel⟩ => ?_
  subst he
  exact ⟨_, rfl, _, _, _, [], _, [], hW', trodAll_mk1 (shut_bool Try.underlying4 _), (trodAll_cons_mk (Below.trod laidOut (by kernel_rfl) (of_decide_eq_true (by kernel_rfl)) k0 bel lt0) (trodAll_cons_mk (Below.trod laidOut (by kernel_rfl) (of_decide_eq_true (by kernel_rfl)) k1 bel lt1) (trodAll_cons_mk (Below.trod laidOut (by kernel_rfl) (of_decide_eq_true (by kernel_rfl)) k2 bel lt2) trodAll_mk0))), rfl, bel.frame _, fun h => by cases h⟩

theorem over : Rows.fnExactYearLossRow.holds Try.pinned (OpenSpec.ofChange Rows.fnExactYearLossSpec) :=
  OpenClaim.holds_of_wide 7 Try.f7 rfl rfl rfl rfl rfl rfl rfl ⟨rfl, rfl, rfl, rfl, rfl⟩ rfl rfl rfl rfl rfl (by kernel_rfl) Try.func7 (by kernel_rfl)
    (of_decide_eq_true (by kernel_rfl)) (by unfold Func.isWrapper; first | (rw [if_pos (by decide +kernel)]; kernel_rfl) | (rw [if_neg (by decide +kernel)]; exact ⟨rfl, rfl⟩))
    (fun os started H enc _ => lifted os started H enc)

theorem proved : Rows.FnExactYearLossSaid :=
  over
#print axioms proved
end Go.Proofs.Ytgdafgnjaogmeaa.fnExactYearLoss
