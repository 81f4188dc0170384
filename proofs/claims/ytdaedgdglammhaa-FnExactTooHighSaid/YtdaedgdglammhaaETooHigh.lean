/-
  FnExactTooHigh: for every input the law returns true and its arguments read as before. No condition.
-/
import Derived.Test.YtdaedgdglammhaaBo9
import Derived.Test.YtdaedgdglammhaaM2
import Derived.Test.YtdaedgdglammhaaGs
import Derived.Test.YtdaedgdglammhaaFl
import Derived.Test.YtdaedgdglammhaaG0
import Derived.ShutString
import Derived.ChangeOld
namespace Go.Proofs.Ytdaedgdglammhaa.fnExactTooHigh
open Go.ChangeShapes Go.WideShapes Go.ChangeAt Go.RowKit
open Go.ChangeMaps (open_string shut_string)
set_option linter.unusedVariables false

set_option maxRecDepth 100000
set_option maxHeartbeats 1600000

theorem walk (a0 : Option Addr) (len0 cap0 : Nat) (z0 : List Int) (a1 : Int) (w : World) (w0 : SliceIn .i64 w a0 len0 z0) (w1 : (Lit.int .i64 a1).wf = true) :
    Calls Try.prog 9 #[.slice a0 len0 cap0, .int .i64 a1] w fun e w' => e = .returned (.bool true) ∧ Below w.heap.size w w' := by
  have HZ0 := Lib.hid w0
  have hzl0 := w0.1
  have hzm0 : len0 ≤ 9223372036854775807 := by have := w0.2.1; unfold maxLen at this; omega
  subst hzl0
  clear w0
  have hb : Below w.heap.size w w := Below.refl _ _
  have hcur : w.heap.size ≤ w.heap.size := Nat.le_refl _
  by_cases hz0 : z0.length ≤ 1048576
  rotate_left
  · have hz0' : 1048576 < z0.length := by omega
    go_enter Try.func9, Try.ntmps9
    go_wp2
    go_ret
    exact ⟨rfl, hb⟩
  have hzz0 : z0.length ≤ 1048576 := hz0
  go_enter Try.func9, Try.ntmps9
  have hXs := tooHighX_short z0 a1
  obtain ⟨X, hX⟩ : ∃ X, tooHighX z0 a1 = X := ⟨_, rfl⟩
  obtain ⟨C, hC⟩ : ∃ C, tooHighC z0 a1 = C := ⟨_, rfl⟩
  rw [hX] at hXs
  have HRX := Lib.hid hX
  have HRC := Lib.hid hC
  clear hX hC
  have hCC : (C != C) = false := by simp
  have hXm : X.length ≤ maxLen := by unfold maxLen; omega
  have hXi : X.length ≤ 9223372036854775807 := by omega
  go_wp2_with fail
  refine (toInts_any a0 cap0 z0.length z0 _ rfl hz0 (HZ0.out.2.2.1.next hb)).mono ?_
  rintro e wk1 hq
  obtain ⟨Au0, cu0, rfl, ho, hbs⟩ := retInts_of hq
  have Zu0 := owns_cells ho
  clear hq ho
  have hb := bnext hb hbs
  have hcur := Nat.le_trans hcur hbs.size
  clear hbs
  go_wp2_with fail
  have hC := specTooHigh_ic Au0 cu0 z0 a1 _ Zu0 hzz0
  rw [HRX.out, HRC.out] at hC
  refine hC.mono ?_
  rintro e wk2 ⟨Aw, cw, rfl, ho, hbs⟩
  clear hC
  have S2 := owns_cells ho
  have L2 := owns_lies ho
  clear ho
  clear Zu0
  have hb := bnext hb hbs
  have hcur := Nat.le_trans hcur hbs.size
  clear hbs
  have hch1 := hcur
  have hcur : wk2.heap.size ≤ wk2.heap.size := Nat.le_refl _
  go_wp2_with fail
  refine (toInts_any a0 cap0 z0.length z0 _ rfl hz0 (HZ0.out.2.2.1.next hb)).mono ?_
  rintro e wk3 hq
  obtain ⟨Av0, cv0, rfl, ho, hbs⟩ := retInts_of hq
  have Zv0 := owns_cells ho
  have Ov0 := ho
  have OwnHi0 := Lib.hid (fun (b : Nat) (e : (Value.slice Av0 z0.length cv0).ownBlock = some b) => (Ov0.lt b e).2)
  clear hq ho
  have S2 := S2.next hbs
  have hb := bnext hb hbs
  have hcur := Nat.le_trans hcur hbs.size
  clear hbs
  have hch2 := hcur
  have hcur : wk3.heap.size ≤ wk3.heap.size := Nat.le_refl _
  go_wp2_with fail
  have hC := implTooHigh_ic Av0 cv0 z0 a1 _ Zv0 hzz0
  rw [HRX.out, HRC.out] at hC
  refine hC.mono ?_
  rintro e wk4 ⟨Ag, cg, rfl, OG, hbs⟩
  clear hC
  have S2 := S2.next hbs
  have Zv0 := Zv0.next hbs
  have Ov0 := owns_below Ov0 hbs (Nat.le_refl _)
  have hb := bnext hb hbs
  have hcur := Nat.le_trans hcur hbs.size
  clear hbs
  have hch3 := hcur
  have hcur : wk4.heap.size ≤ wk4.heap.size := Nat.le_refl _
  go_wp2_with fail
  refine (eqInts_same Ag Aw cg cw X _ hXm (owns_cells OG) S2).mono ?_
  rintro e wk5 ⟨rfl, hd⟩
  have hbs := drawn_below hd
  clear hd
  have S2 := S2.next hbs
  have Zv0 := Zv0.next hbs
  have Ov0 := owns_below Ov0 hbs (Nat.le_refl _)
  have OG := owns_below OG hbs (Nat.le_refl _)
  have hb := bnext hb hbs
  have hcur := Nat.le_trans hcur hbs.size
  clear hbs
  go_wp2_with fail
  refine (toInts_any a0 cap0 z0.length z0 _ rfl hz0 (HZ0.out.2.2.1.next hb)).mono ?_
  rintro e wk6 hq
  obtain ⟨At0, ct0, rfl, ho, hbs⟩ := retInts_of hq
  have Zt0 := owns_cells ho
  clear hq ho
  have S2 := S2.next hbs
  have Zv0 := Zv0.next hbs
  have Ov0 := owns_below Ov0 hbs (Nat.le_refl _)
  have OG := owns_below OG hbs (Nat.le_refl _)
  have hb := bnext hb hbs
  have hcur := Nat.le_trans hcur hbs.size
  clear hbs
  go_wp2_with fail
  refine (eqInts_same Av0 At0 cv0 ct0 z0 _ (by unfold maxLen; omega) Zv0 Zt0).mono ?_
  rintro e wk7 ⟨rfl, hd⟩
  have hbs := drawn_below hd
  clear hd
  clear Zt0
  have S2 := S2.next hbs
  have Zv0 := Zv0.next hbs
  have Ov0 := owns_below Ov0 hbs (Nat.le_refl _)
  have OG := owns_below OG hbs (Nat.le_refl _)
  have hb := bnext hb hbs
  have hcur := Nat.le_trans hcur hbs.size
  clear hbs
  clear Zv0
  go_wp2_with fail
  have hlt := fun (b : Nat) (e : (Value.slice Av0 z0.length cv0).ownBlock = some b) => Ov0.lt b e
  clear hlt
  refine (markInts_any Av0 cv0 z0.length _ _ 1 _ (by omega) (by omega) Ov0).mono ?_
  rintro e wk8 ⟨rfl, -, hg⟩
  have hB := OwnHi0.out
  have S2 := S2.keep (fun b off e => hg.block b (by have := L2 b off e; omega) (fun e2 => by have := (Ov0.lt b e2.symm).1; have := L2 b off e; omega))
  have OG := OG.kept hg (apart_of (fun b e => (OG.lt b e).1) hB (by omega))
  have hb := hb.grown hg (by omega) (fun b e => by have := (Ov0.lt b e).1; omega)
  have hcur := Nat.le_trans hcur hg.size
  clear hg hB Ov0
  have hkn : ¬ (1 + (z0.length : Int)) < 0 := by omega
  go_wp2_with fail
  refine (eqInts_same Ag Aw cg cw X _ hXm (owns_cells OG) S2).mono ?_
  rintro e wk9 ⟨rfl, hd⟩
  have hbs := drawn_below hd
  clear hd
  have S2 := S2.next hbs
  have OG := owns_below OG hbs (Nat.le_refl _)
  have hb := bnext hb hbs
  have hcur := Nat.le_trans hcur hbs.size
  clear hbs
  go_wp2_with fail
  refine (markInts_any Ag cg X.length _ _ 1 _ (by omega) (by omega) OG).mono ?_
  rintro e wk10 ⟨rfl, OM, hg⟩
  have S2 := S2.keep (fun b off e => hg.block b (by have := L2 b off e; omega) (fun e2 => by have := (OG.lt b e2.symm).1; have := L2 b off e; omega))
  have hb := hb.grown hg (by omega) (fun b e => by have := (OG.lt b e).1; omega)
  have hcur := Nat.le_trans hcur hg.size
  have hneg : ¬ ((1 + (X.length : Int)) < 0) := by omega
  clear hg OG
  go_wp2_with fail
  refine (heldInts_any Ag cg X.length 1 _ (by omega) (by omega) hXm (owns_cells OM)).mono ?_
  rintro e wk11 ⟨rfl, hd⟩
  have hbs := drawn_below hd
  clear hd
  have S2 := S2.next hbs
  have OM := owns_below OM hbs (Nat.le_refl _)
  have hb := bnext hb hbs
  have hcur := Nat.le_trans hcur hbs.size
  clear hbs
  go_wp2_with fail
  refine (toInts_any a0 cap0 z0.length z0 _ rfl hz0 (HZ0.out.2.2.1.next hb)).mono ?_
  rintro e wk12 hq
  obtain ⟨Ar0, cr0, rfl, ho, hbs⟩ := retInts_of hq
  have Zr0 := owns_cells ho
  clear hq ho
  have S2 := S2.next hbs
  have OM := owns_below OM hbs (Nat.le_refl _)
  have hb := bnext hb hbs
  have hcur := Nat.le_trans hcur hbs.size
  clear hbs
  go_wp2_with fail
  have hC := implTooHigh_ic Ar0 cr0 z0 a1 _ Zr0 hzz0
  rw [HRX.out, HRC.out] at hC
  refine hC.mono ?_
  rintro e wk13 ⟨Ah, ch, rfl, oh, hbs⟩
  clear hC
  have S3 := owns_cells oh
  clear oh
  clear Zr0
  have S2 := S2.next hbs
  have OM := owns_below OM hbs (Nat.le_refl _)
  have hb := bnext hb hbs
  have hcur := Nat.le_trans hcur hbs.size
  clear hbs
  go_wp2_with fail
  refine (eqInts_same Ah Aw ch cw X _ hXm S3 S2).mono ?_
  rintro e wk14 ⟨rfl, hd⟩
  have hbs := drawn_below hd
  clear hd
  have S2 := S2.next hbs
  have OM := owns_below OM hbs (Nat.le_refl _)
  have S3 := S3.next hbs
  have hb := bnext hb hbs
  have hcur := Nat.le_trans hcur hbs.size
  clear hbs
  clear S3
  go_wp2_with fail
  refine (heldInts_any Ag cg X.length 1 _ (by omega) (by omega) hXm (owns_cells OM)).mono ?_
  rintro e wk15 ⟨rfl, hd⟩
  have hbs := drawn_below hd
  clear hd
  have S2 := S2.next hbs
  have OM := owns_below OM hbs (Nat.le_refl _)
  have hb := bnext hb hbs
  have hcur := Nat.le_trans hcur hbs.size
  clear hbs
  go_wp2
  go_ret
  exact ⟨rfl, hb⟩

theorem own : ownKnob Try.prog.godebug = none := by kernel_rfl
theorem laidOut : laidOutB Try.prog = true := by kernel_rfl

set_option maxRecDepth 100000 in
theorem lifted (os : Os) (started : os.Started) (H : Type) (enc : TypeId × Value → H) :
    ReturnsInHanded {} Try.checked os 9 .any (Rows.fnExactTooHighSpec.pre6 enc Try.prog Try.f9 Rows.fnExactTooHighRow.domain false) (Rows.fnExactTooHighSpec.post enc Try.prog Try.f9 false true false false) := by
  refine returnsInHanded_of_change (C := Try.checked) own started (by kernel_rfl) Try.func9
    (ChangeSpec.witness6 (enc := enc) (C := Try.checked) false ⟨#[], #[.slice none 0 0, .int .i64 0], []⟩ 8 (by kernel_rfl) (by kernel_rfl) (by kernel_rfl) (by kernel_rfl)) ?_
  intro W base args ds gs before hval0 hW hcnd _
  have hval : ∀ (j : Nat) t v, Try.f9.params[j]? = some t → args[j]? = some v → Value.okWide Try.prog W .any base t v := hval0
  have hW' := hW
  obtain ⟨p, q, hA0, hV, rfl, hfz, hnd⟩ := hW
  have hA : DataW.TrodAll enc Try.prog W 0 (fun _ => true) true Try.f9.params.toList args.toList ds p := hA0
  rw [Try.params9] at hA hval
  obtain ⟨v0, vs0, d0, ds0, p0, q0, hargs, rfl, rfl, h0, r0⟩ := trodAll_cons hA
  obtain ⟨v1, vs1, d1, ds1, p1, q1, rfl, rfl, rfl, h1, r1⟩ := trodAll_cons r0
  obtain ⟨rfl, rfl, rfl⟩ := trodAll_nil r1
  obtain rfl : args = #[v0, v1] := by cases args; simp_all
  obtain ⟨rfl, rfl⟩ := trodVars_none hV
  obtain ⟨a0, len0, cap0, rfl⟩ := okWide_slice Try.underlying31 (hval 0 31 v0 rfl rfl)
  have k0 := h0
  have lt0 : ∀ x ∈ p0, x.block < W.heap.size := by obtain ⟨m, hm⟩ := k0; exact DataW.trod_lt m _ _ _ hm
  obtain ⟨z0, w0⟩ : ∃ zs, SliceIn .i64 W a0 len0 zs := by
    obtain ⟨fuel, hf⟩ := h0
    rcases open_ints Try.underlying31 Try.underlying2 (by kernel_rfl) hf with ⟨hcs, _⟩ | ⟨x, l, c, zs, hcs, _, hl, hm, hz, _, hcell, hwz⟩
    · simp [Value.cells] at hcs
      obtain ⟨rfl, rfl, rfl⟩ := hcs
      exact ⟨[], SliceIn.nil _ _⟩
    · simp [Value.cells] at hcs
      obtain ⟨rfl, rfl, rfl⟩ := hcs
      exact ⟨_, SliceIn.row hl hm (by simpa using hz) hcell hwz⟩
  obtain ⟨a1, rfl, rfl, rfl, w1⟩ := open_int Try.underlying2 (hval 1 2 v1 rfl rfl) h1
  clear hA0 hval0
  refine (walk a0 len0 cap0 z0 a1 W w0 w1).mono fun e W' ⟨he, bel⟩ => ?_
  subst he
  exact ⟨_, rfl, _, _, _, [], _, [], hW', trodAll_mk1 (shut_bool Try.underlying4 _), (trodAll_cons_mk (Below.trod laidOut (by kernel_rfl) (of_decide_eq_true (by kernel_rfl)) k0 bel lt0) (trodAll_cons_mk (shut_int Try.underlying2 w1) trodAll_mk0)), rfl, bel.frame _, fun h => by cases h⟩

theorem over : Rows.fnExactTooHighRow.holds Try.pinned (OpenSpec.ofChange Rows.fnExactTooHighSpec) :=
  OpenClaim.holds_of_wide 9 Try.f9 rfl rfl rfl rfl rfl rfl rfl ⟨rfl, rfl, rfl, rfl, rfl⟩ rfl rfl rfl rfl rfl (by kernel_rfl) Try.func9 (by kernel_rfl)
    (of_decide_eq_true (by kernel_rfl)) (by unfold Func.isWrapper; first | (rw [if_pos (by decide +kernel)]; kernel_rfl) | (rw [if_neg (by decide +kernel)]; exact ⟨rfl, rfl⟩))
    (fun os started H enc _ => lifted os started H enc)

theorem proved : Rows.FnExactTooHighSaid :=
  over
#print axioms proved
end Go.Proofs.Ytdaedgdglammhaa.fnExactTooHigh
