/-
  FnExactWeakSubstations: for every input the law returns true and its arguments read as before. No condition.
-/
import Derived.Test.YtdaedgdglammhabWk1
import Derived.Test.YtdaedgdglammhabSb1
import Derived.Test.YtdaedgdglammhabSb2
import Derived.Test.YtdaedgdglammhabSb5
import Derived.Test.YtdaedgdglammhabM2
import Derived.Test.YtdaedgdglammhabGs
import Derived.Test.YtdaedgdglammhabFl
import Derived.Test.YtdaedgdglammhabG0
import Derived.ShutString
import Derived.ChangeOld
namespace Go.Proofs.Ytdaedgdglammhab.fnExactWeakSubstations
open Go.ChangeShapes Go.WideShapes Go.ChangeAt Go.RowKit
open Go.ChangeMaps (open_string shut_string)
set_option linter.unusedVariables false

set_option maxRecDepth 100000
set_option maxHeartbeats 1600000

theorem walk (A0 : Option Addr) (n0 c0 : Nat) (xs0 : List Sb) (a1 : Int) (a2 : Option Addr) (len2 cap2 : Nat) (z2 : List Int) (w : World) (w0 : SbsIn w A0 n0 xs0) (w1 : (Lit.int .i64 a1).wf = true) (w2 : SliceIn .i64 w a2 len2 z2) :
    Calls Try.prog 11 #[.slice A0 n0 c0, .int .i64 a1, .slice a2 len2 cap2] w fun e w' => e = .returned (.bool true) ∧ Below w.heap.size w w' := by
  have HZ2 := Lib.hid w2
  have hzl2 := w2.1
  have hzm2 : len2 ≤ 9223372036854775807 := by have := w2.2.1; unfold maxLen at this; omega
  subst hzl2
  clear w2
  have HI0 := Lib.hid w0
  clear w0
  have hb : Below w.heap.size w w := Below.refl _ _
  have hcur : w.heap.size ≤ w.heap.size := Nat.le_refl _
  by_cases hz2 : z2.length ≤ 1048576
  rotate_left
  · have hz2' : 1048576 < z2.length := by omega
    go_enter Try.func11, Try.ntmps11
    go_wp2
    go_ret
    exact ⟨rfl, hb⟩
  go_enter Try.func11, Try.ntmps11
  go_wp2_with fail
  refine (szSbs_any A0 n0 c0 xs0 1048576 _ (by omega) (by omega) (HI0.out.go hb)).mono ?_
  rintro e wk1 ⟨r0, rfl, hr, hbs⟩
  have hb := bnext hb hbs
  have hcur := Nat.le_trans hcur hbs.size
  clear hbs
  rcases hr with rfl | ⟨r0_0, r0_1⟩
  · go_wp2
    go_ret
    exact ⟨rfl, hb⟩
  have hn0 : n0 ≤ 1048576 := by omega
  have hzz2 : z2.length ≤ 1048576 := hz2
  have hXs := weakSubstationsX_short xs0 a1 z2
  obtain ⟨X, hX⟩ : ∃ X, weakSubstationsX xs0 a1 z2 = X := ⟨_, rfl⟩
  obtain ⟨C, hC⟩ : ∃ C, weakSubstationsC xs0 a1 z2 = C := ⟨_, rfl⟩
  rw [hX] at hXs
  have HRX := Lib.hid hX
  have HRC := Lib.hid hC
  clear hX hC
  have hCC : (C != C) = false := by simp
  have hXm : X.length ≤ maxLen := by unfold maxLen; omega
  have hXi : X.length ≤ 9223372036854775807 := by omega
  go_wp2_with fail
  refine (copySbs A0 n0 c0 xs0 _ ⟨HI0.out.go hb, hn0⟩).mono ?_
  rintro e wk2 ⟨Au0, cu0, rfl, Ou0, Yu0, hbs⟩
  clear Ou0
  have hb := bnext hb hbs
  have hcur := Nat.le_trans hcur hbs.size
  clear hbs
  go_wp2_with fail
  refine (toInts_any a2 cap2 z2.length z2 _ rfl hz2 (HZ2.out.2.2.1.next hb)).mono ?_
  rintro e wk3 hq
  obtain ⟨Au2, cu2, rfl, ho, hbs⟩ := retInts_of hq
  have Zu2 := owns_cells ho
  clear hq ho
  have Yu0 := Yu0.go hbs
  have hb := bnext hb hbs
  have hcur := Nat.le_trans hcur hbs.size
  clear hbs
  go_wp2_with fail
  have hC := specWeakSubstations_ic Au0 n0 cu0 xs0 a1 Au2 cu2 z2 _ Yu0 Zu2 hzz2
  rw [HRX.out, HRC.out] at hC
  refine hC.mono ?_
  rintro e wk4 ⟨Aw, cw, rfl, ho, hbs⟩
  clear hC
  have S2 := owns_cells ho
  have L2 := owns_lies ho
  clear ho
  clear Yu0 Zu2
  have hb := bnext hb hbs
  have hcur := Nat.le_trans hcur hbs.size
  clear hbs
  have hch1 := hcur
  have hcur : wk4.heap.size ≤ wk4.heap.size := Nat.le_refl _
  go_wp2_with fail
  refine (copySbs A0 n0 c0 xs0 _ ⟨HI0.out.go hb, hn0⟩).mono ?_
  rintro e wk5 ⟨Av0, cv0, rfl, Ov0, Yv0, hbs⟩
  have OwnHi0 := Lib.hid (fun (b : Nat) (e : (Value.slice Av0 n0 cv0).ownBlock = some b) => (Ov0.lt b e).2)
  have S2 := S2.next hbs
  have hb := bnext hb hbs
  have hcur := Nat.le_trans hcur hbs.size
  clear hbs
  have hch2 := hcur
  have hcur : wk5.heap.size ≤ wk5.heap.size := Nat.le_refl _
  go_wp2_with fail
  refine (toInts_any a2 cap2 z2.length z2 _ rfl hz2 (HZ2.out.2.2.1.next hb)).mono ?_
  rintro e wk6 hq
  obtain ⟨Av2, cv2, rfl, ho, hbs⟩ := retInts_of hq
  have Zv2 := owns_cells ho
  have Ov2 := ho
  have OwnHi2 := Lib.hid (fun (b : Nat) (e : (Value.slice Av2 z2.length cv2).ownBlock = some b) => (Ov2.lt b e).2)
  clear hq ho
  have S2 := S2.next hbs
  have Yv0 := Yv0.go hbs
  have Ov0 := rowsF_below Ov0 hbs (Nat.le_refl _)
  have hb := bnext hb hbs
  have hcur := Nat.le_trans hcur hbs.size
  clear hbs
  have hch3 := hcur
  have hcur : wk6.heap.size ≤ wk6.heap.size := Nat.le_refl _
  go_wp2_with fail
  have hC := implWeakSubstations_ic Av0 n0 cv0 xs0 a1 Av2 cv2 z2 _ Yv0 Zv2 hzz2
  rw [HRX.out, HRC.out] at hC
  refine hC.mono ?_
  rintro e wk7 ⟨Ag, cg, rfl, OG, hbs⟩
  clear hC
  have S2 := S2.next hbs
  have Yv0 := Yv0.go hbs
  have Ov0 := rowsF_below Ov0 hbs (Nat.le_refl _)
  have Zv2 := Zv2.next hbs
  have Ov2 := owns_below Ov2 hbs (Nat.le_refl _)
  have hb := bnext hb hbs
  have hcur := Nat.le_trans hcur hbs.size
  clear hbs
  have hch4 := hcur
  have hcur : wk7.heap.size ≤ wk7.heap.size := Nat.le_refl _
  go_wp2_with fail
  refine (eqInts_same Ag Aw cg cw X _ hXm (owns_cells OG) S2).mono ?_
  rintro e wk8 ⟨rfl, hd⟩
  have hbs := drawn_below hd
  clear hd
  have S2 := S2.next hbs
  have Yv0 := Yv0.go hbs
  have Ov0 := rowsF_below Ov0 hbs (Nat.le_refl _)
  have Zv2 := Zv2.next hbs
  have Ov2 := owns_below Ov2 hbs (Nat.le_refl _)
  have OG := owns_below OG hbs (Nat.le_refl _)
  have hb := bnext hb hbs
  have hcur := Nat.le_trans hcur hbs.size
  clear hbs
  go_wp2_with fail
  refine (copySbs A0 n0 c0 xs0 _ ⟨HI0.out.go hb, hn0⟩).mono ?_
  rintro e wk9 ⟨At0, ct0, rfl, Ot0, Yt0, hbs⟩
  clear Ot0
  have S2 := S2.next hbs
  have Yv0 := Yv0.go hbs
  have Ov0 := rowsF_below Ov0 hbs (Nat.le_refl _)
  have Zv2 := Zv2.next hbs
  have Ov2 := owns_below Ov2 hbs (Nat.le_refl _)
  have OG := owns_below OG hbs (Nat.le_refl _)
  have hb := bnext hb hbs
  have hcur := Nat.le_trans hcur hbs.size
  clear hbs
  go_wp2_with fail
  refine (sameSbs Av0 At0 n0 cv0 ct0 xs0 _ Yv0.1.1 Yv0.1.2.1 Yv0.cells Yt0.cells).mono ?_
  rintro e wk10 ⟨rfl, hbs⟩
  clear Yt0
  have S2 := S2.next hbs
  have Yv0 := Yv0.go hbs
  have Ov0 := rowsF_below Ov0 hbs (Nat.le_refl _)
  have Zv2 := Zv2.next hbs
  have Ov2 := owns_below Ov2 hbs (Nat.le_refl _)
  have OG := owns_below OG hbs (Nat.le_refl _)
  have hb := bnext hb hbs
  have hcur := Nat.le_trans hcur hbs.size
  clear hbs
  go_wp2_with fail
  refine (toInts_any a2 cap2 z2.length z2 _ rfl hz2 (HZ2.out.2.2.1.next hb)).mono ?_
  rintro e wk11 hq
  obtain ⟨At2, ct2, rfl, ho, hbs⟩ := retInts_of hq
  have Zt2 := owns_cells ho
  clear hq ho
  have S2 := S2.next hbs
  have Yv0 := Yv0.go hbs
  have Ov0 := rowsF_below Ov0 hbs (Nat.le_refl _)
  have Zv2 := Zv2.next hbs
  have Ov2 := owns_below Ov2 hbs (Nat.le_refl _)
  have OG := owns_below OG hbs (Nat.le_refl _)
  have hb := bnext hb hbs
  have hcur := Nat.le_trans hcur hbs.size
  clear hbs
  go_wp2_with fail
  refine (eqInts_same Av2 At2 cv2 ct2 z2 _ (by unfold maxLen; omega) Zv2 Zt2).mono ?_
  rintro e wk12 ⟨rfl, hd⟩
  have hbs := drawn_below hd
  clear hd
  clear Zt2
  have S2 := S2.next hbs
  have Yv0 := Yv0.go hbs
  have Ov0 := rowsF_below Ov0 hbs (Nat.le_refl _)
  have Zv2 := Zv2.next hbs
  have Ov2 := owns_below Ov2 hbs (Nat.le_refl _)
  have OG := owns_below OG hbs (Nat.le_refl _)
  have hb := bnext hb hbs
  have hcur := Nat.le_trans hcur hbs.size
  clear hbs
  clear Yv0 Zv2
  go_wp2_with fail
  have hlt := fun (b : Nat) (e : (Value.slice Av0 n0 cv0).ownBlock = some b) => Ov0.lt b e
  clear hlt
  refine (markSbs_any Av0 cv0 n0 _ _ 1 _ (by omega) (by omega) Ov0).mono ?_
  rintro e wk13 ⟨rfl, -, hg⟩
  have hB := OwnHi0.out
  have S2 := S2.keep (fun b off e => hg.block b (by have := L2 b off e; omega) (fun e2 => by have := (Ov0.lt b e2.symm).1; have := L2 b off e; omega))
  have Ov2 := Ov2.kept hg (apart_of (fun b e => (Ov2.lt b e).1) hB (by omega))
  have OG := OG.kept hg (apart_of (fun b e => (OG.lt b e).1) hB (by omega))
  have hb := hb.grown hg (by omega) (fun b e => by have := (Ov0.lt b e).1; omega)
  have hcur := Nat.le_trans hcur hg.size
  clear hg hB Ov0
  go_wp2_with fail
  have hlt := fun (b : Nat) (e : (Value.slice Av2 z2.length cv2).ownBlock = some b) => Ov2.lt b e
  clear hlt
  refine (markInts_any Av2 cv2 z2.length _ _ (1 + 5 * (n0 : Int)) _ (by omega) (by omega) Ov2).mono ?_
  rintro e wk14 ⟨rfl, -, hg⟩
  have hB := OwnHi2.out
  have S2 := S2.keep (fun b off e => hg.block b (by have := L2 b off e; omega) (fun e2 => by have := (Ov2.lt b e2.symm).1; have := L2 b off e; omega))
  have OG := OG.kept hg (apart_of (fun b e => (OG.lt b e).1) hB (by omega))
  have hb := hb.grown hg (by omega) (fun b e => by have := (Ov2.lt b e).1; omega)
  have hcur := Nat.le_trans hcur hg.size
  clear hg hB Ov2
  have hkn : ¬ ((1 + 5 * (n0 : Int)) + (z2.length : Int)) < 0 := by omega
  go_wp2_with fail
  refine (eqInts_same Ag Aw cg cw X _ hXm (owns_cells OG) S2).mono ?_
  rintro e wk15 ⟨rfl, hd⟩
  have hbs := drawn_below hd
  clear hd
  have S2 := S2.next hbs
  have OG := owns_below OG hbs (Nat.le_refl _)
  have hb := bnext hb hbs
  have hcur := Nat.le_trans hcur hbs.size
  clear hbs
  go_wp2_with fail
  refine (markInts_any Ag cg X.length _ _ 1 _ (by omega) (by omega) OG).mono ?_
  rintro e wk16 ⟨rfl, OM, hg⟩
  have S2 := S2.keep (fun b off e => hg.block b (by have := L2 b off e; omega) (fun e2 => by have := (OG.lt b e2.symm).1; have := L2 b off e; omega))
  have hb := hb.grown hg (by omega) (fun b e => by have := (OG.lt b e).1; omega)
  have hcur := Nat.le_trans hcur hg.size
  have hneg : ¬ ((1 + (X.length : Int)) < 0) := by omega
  clear hg OG
  go_wp2_with fail
  refine (heldInts_any Ag cg X.length 1 _ (by omega) (by omega) hXm (owns_cells OM)).mono ?_
  rintro e wk17 ⟨rfl, hd⟩
  have hbs := drawn_below hd
  clear hd
  have S2 := S2.next hbs
  have OM := owns_below OM hbs (Nat.le_refl _)
  have hb := bnext hb hbs
  have hcur := Nat.le_trans hcur hbs.size
  clear hbs
  go_wp2_with fail
  refine (copySbs A0 n0 c0 xs0 _ ⟨HI0.out.go hb, hn0⟩).mono ?_
  rintro e wk18 ⟨Ar0, cr0, rfl, Or0, Yr0, hbs⟩
  clear Or0
  have S2 := S2.next hbs
  have OM := owns_below OM hbs (Nat.le_refl _)
  have hb := bnext hb hbs
  have hcur := Nat.le_trans hcur hbs.size
  clear hbs
  go_wp2_with fail
  refine (toInts_any a2 cap2 z2.length z2 _ rfl hz2 (HZ2.out.2.2.1.next hb)).mono ?_
  rintro e wk19 hq
  obtain ⟨Ar2, cr2, rfl, ho, hbs⟩ := retInts_of hq
  have Zr2 := owns_cells ho
  clear hq ho
  have S2 := S2.next hbs
  have OM := owns_below OM hbs (Nat.le_refl _)
  have Yr0 := Yr0.go hbs
  have hb := bnext hb hbs
  have hcur := Nat.le_trans hcur hbs.size
  clear hbs
  go_wp2_with fail
  have hC := implWeakSubstations_ic Ar0 n0 cr0 xs0 a1 Ar2 cr2 z2 _ Yr0 Zr2 hzz2
  rw [HRX.out, HRC.out] at hC
  refine hC.mono ?_
  rintro e wk20 ⟨Ah, ch, rfl, oh, hbs⟩
  clear hC
  have S3 := owns_cells oh
  clear oh
  clear Yr0 Zr2
  have S2 := S2.next hbs
  have OM := owns_below OM hbs (Nat.le_refl _)
  have hb := bnext hb hbs
  have hcur := Nat.le_trans hcur hbs.size
  clear hbs
  go_wp2_with fail
  refine (eqInts_same Ah Aw ch cw X _ hXm S3 S2).mono ?_
  rintro e wk21 ⟨rfl, hd⟩
  have hbs := drawn_below hd
  clear hd
  have S2 := S2.next hbs
  have OM := owns_below OM hbs (Nat.le_refl _)
  have S3 := S3.next hbs
  have hb := bnext hb hbs
  have hcur := Nat.le_trans hcur hbs.size
  clear hbs
  clear S3
  go_wp2_with fail
  refine (heldInts_any Ag cg X.length 1 _ (by omega) (by omega) hXm (owns_cells OM)).mono ?_
  rintro e wk22 ⟨rfl, hd⟩
  have hbs := drawn_below hd
  clear hd
  have S2 := S2.next hbs
  have OM := owns_below OM hbs (Nat.le_refl _)
  have hb := bnext hb hbs
  have hcur := Nat.le_trans hcur hbs.size
  clear hbs
  go_wp2
  go_ret
  exact ⟨rfl, hb⟩

theorem own : ownKnob Try.prog.godebug = none := by kernel_rfl
theorem laidOut : laidOutB Try.prog = true := by kernel_rfl

set_option maxRecDepth 100000 in
theorem lifted (os : Os) (started : os.Started) (H : Type) (enc : TypeId × Value → H) :
    ReturnsInHanded {} Try.checked os 11 .any (Rows.fnExactWeakSubstationsSpec.pre6 enc Try.prog Try.f11 Rows.fnExactWeakSubstationsRow.domain false) (Rows.fnExactWeakSubstationsSpec.post enc Try.prog Try.f11 false true false false) := by
  refine returnsInHanded_of_change (C := Try.checked) own started (by kernel_rfl) Try.func11
    (ChangeSpec.witness6 (enc := enc) (C := Try.checked) false ⟨#[], #[.slice none 0 0, .int .i64 0, .slice none 0 0], []⟩ 8 (by kernel_rfl) (by kernel_rfl) (by kernel_rfl) (by kernel_rfl)) ?_
  intro W base args ds gs before hval0 hW hcnd _
  have hval : ∀ (j : Nat) t v, Try.f11.params[j]? = some t → args[j]? = some v → Value.okWide Try.prog W .any base t v := hval0
  have hW' := hW
  obtain ⟨p, q, hA0, hV, rfl, hfz, hnd⟩ := hW
  have hA : DataW.TrodAll enc Try.prog W 0 (fun _ => true) true Try.f11.params.toList args.toList ds p := hA0
  rw [Try.params11] at hA hval
  obtain ⟨v0, vs0, d0, ds0, p0, q0, hargs, rfl, rfl, h0, r0⟩ := trodAll_cons hA
  obtain ⟨v1, vs1, d1, ds1, p1, q1, rfl, rfl, rfl, h1, r1⟩ := trodAll_cons r0
  obtain ⟨v2, vs2, d2, ds2, p2, q2, rfl, rfl, rfl, h2, r2⟩ := trodAll_cons r1
  obtain ⟨rfl, rfl, rfl⟩ := trodAll_nil r2
  obtain rfl : args = #[v0, v1, v2] := by cases args; simp_all
  obtain ⟨rfl, rfl⟩ := trodVars_none hV
  have k0 := h0
  have lt0 : ∀ x ∈ p0, x.block < W.heap.size := by obtain ⟨m, hm⟩ := k0; exact DataW.trod_lt m _ _ _ hm
  obtain ⟨A0, n0, c0, xs0, rfl, w0⟩ := open_Sbs (hval 0 22 v0 rfl rfl) h0
  obtain ⟨a1, rfl, rfl, rfl, w1⟩ := open_int Try.underlying2 (hval 1 2 v1 rfl rfl) h1
  obtain ⟨a2, len2, cap2, rfl⟩ := okWide_slice Try.underlying37 (hval 2 37 v2 rfl rfl)
  have k2 := h2
  have lt2 : ∀ x ∈ p2, x.block < W.heap.size := by obtain ⟨m, hm⟩ := k2; exact DataW.trod_lt m _ _ _ hm
  obtain ⟨z2, w2⟩ : ∃ zs, SliceIn .i64 W a2 len2 zs := by
    obtain ⟨fuel, hf⟩ := h2
    rcases open_ints Try.underlying37 Try.underlying2 (by kernel_rfl) hf with ⟨hcs, _⟩ | ⟨x, l, c, zs, hcs, _, hl, hm, hz, _, hcell, hwz⟩
    · simp [Value.cells] at hcs
      obtain ⟨rfl, rfl, rfl⟩ := hcs
      exact ⟨[], SliceIn.nil _ _⟩
    · simp [Value.cells] at hcs
      obtain ⟨rfl, rfl, rfl⟩ := hcs
      exact ⟨_, SliceIn.row hl hm (by simpa using hz) hcell hwz⟩
  clear hA0 hval0
  refine (walk A0 n0 c0 xs0 a1 a2 len2 cap2 z2 W w0 w1 w2).mono fun e W' ⟨he, bel⟩ => ?_
  subst he
  exact ⟨_, rfl, _, _, _, [], _, [], hW', trodAll_mk1 (shut_bool Try.underlying4 _), (trodAll_cons_mk (Below.trod laidOut (by kernel_rfl) (of_decide_eq_true (by kernel_rfl)) k0 bel lt0) (trodAll_cons_mk (shut_int Try.underlying2 w1) (trodAll_cons_mk (Below.trod laidOut (by kernel_rfl) (of_decide_eq_true (by kernel_rfl)) k2 bel lt2) trodAll_mk0))), rfl, bel.frame _, fun h => by cases h⟩

theorem over : Rows.fnExactWeakSubstationsRow.holds Try.pinned (OpenSpec.ofChange Rows.fnExactWeakSubstationsSpec) :=
  OpenClaim.holds_of_wide 11 Try.f11 rfl rfl rfl rfl rfl rfl rfl ⟨rfl, rfl, rfl, rfl, rfl⟩ rfl rfl rfl rfl rfl (by kernel_rfl) Try.func11 (by kernel_rfl)
    (of_decide_eq_true (by kernel_rfl)) (by unfold Func.isWrapper; first | (rw [if_pos (by decide +kernel)]; kernel_rfl) | (rw [if_neg (by decide +kernel)]; exact ⟨rfl, rfl⟩))
    (fun os started H enc _ => lifted os started H enc)

theorem proved : Rows.FnExactWeakSubstationsSaid :=
  over
#print axioms proved
end Go.Proofs.Ytdaedgdglammhab.fnExactWeakSubstations
