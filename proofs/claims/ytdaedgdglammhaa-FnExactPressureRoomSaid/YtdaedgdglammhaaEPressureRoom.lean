/-
  FnExactPressureRoom: for every input the law returns true and its arguments read as before. No condition.
-/
import Derived.Test.YtdaedgdglammhaaBo6
import Derived.Test.YtdaedgdglammhaaM2
import Derived.Test.YtdaedgdglammhaaGs
import Derived.Test.YtdaedgdglammhaaFl
import Derived.Test.YtdaedgdglammhaaG0
import Derived.ShutString
import Derived.ChangeOld
namespace Go.Proofs.Ytdaedgdglammhaa.fnExactPressureRoom
open Go.ChangeShapes Go.WideShapes Go.ChangeAt Go.RowKit
open Go.ChangeMaps (open_string shut_string)
set_option linter.unusedVariables false

set_option maxRecDepth 100000
set_option maxHeartbeats 1600000

theorem walk (a0 : Option Addr) (len0 cap0 : Nat) (z0 : List Int) (a1 : Option Addr) (len1 cap1 : Nat) (z1 : List Int) (a2 : Int) (a3 : Int) (w : World) (w0 : SliceIn .i64 w a0 len0 z0) (w1 : SliceIn .i64 w a1 len1 z1) (w2 : (Lit.int .i64 a2).wf = true) (w3 : (Lit.int .i64 a3).wf = true) :
    Calls Try.prog 10 #[.slice a0 len0 cap0, .slice a1 len1 cap1, .int .i64 a2, .int .i64 a3] w fun e w' => e = .returned (.bool true) ∧ Below w.heap.size w w' := by
  have HZ0 := Lib.hid w0
  have hzl0 := w0.1
  have hzm0 : len0 ≤ 9223372036854775807 := by have := w0.2.1; unfold maxLen at this; omega
  subst hzl0
  clear w0
  have HZ1 := Lib.hid w1
  have hzl1 := w1.1
  have hzm1 : len1 ≤ 9223372036854775807 := by have := w1.2.1; unfold maxLen at this; omega
  subst hzl1
  clear w1
  have hb : Below w.heap.size w w := Below.refl _ _
  by_cases hz0 : z0.length ≤ 1048576
  rotate_left
  · have hz0' : 1048576 < z0.length := by omega
    go_enter Try.func10, Try.ntmps10
    go_wp2
    go_ret
    exact ⟨rfl, hb⟩
  by_cases hz1 : z1.length ≤ 1048576
  rotate_left
  · have hz1' : 1048576 < z1.length := by omega
    go_enter Try.func10, Try.ntmps10
    go_wp2
    go_ret
    exact ⟨rfl, hb⟩
  have hzz0 : z0.length ≤ 1048576 := hz0
  have hzz1 : z1.length ≤ 1048576 := hz1
  go_enter Try.func10, Try.ntmps10
  obtain ⟨R0, hR0⟩ : ∃ R, pressureRoomR0 z0 z1 a2 a3 = R := ⟨_, rfl⟩
  have HR0 := Lib.hid hR0
  clear hR0
  have e0 : (R0 != R0) = false := by simp
  obtain ⟨R1, hR1⟩ : ∃ R, pressureRoomR1 z0 z1 a2 a3 = R := ⟨_, rfl⟩
  have HR1 := Lib.hid hR1
  clear hR1
  have e1 : (R1 != R1) = false := by simp
  obtain ⟨R2, hR2⟩ : ∃ R, pressureRoomR2 z0 z1 a2 a3 = R := ⟨_, rfl⟩
  have HR2 := Lib.hid hR2
  clear hR2
  have e2 : (R2 != R2) = false := by simp
  go_wp2_with fail
  refine (toInts_any a0 cap0 z0.length z0 _ rfl hz0 (HZ0.out.2.2.1.next hb)).mono ?_
  rintro e wk1 hq
  obtain ⟨Au0, cu0, rfl, ho, hbs⟩ := retInts_of hq
  have Zu0 := owns_cells ho
  clear hq ho
  have hb := bnext hb hbs
  clear hbs
  go_wp2_with fail
  refine (toInts_any a1 cap1 z1.length z1 _ rfl hz1 (HZ1.out.2.2.1.next hb)).mono ?_
  rintro e wk2 hq
  obtain ⟨Au1, cu1, rfl, ho, hbs⟩ := retInts_of hq
  have Zu1 := owns_cells ho
  clear hq ho
  have Zu0 := Zu0.next hbs
  have hb := bnext hb hbs
  clear hbs
  go_wp2_with fail
  have hC := specPressureRoom_ds Au0 cu0 z0 Au1 cu1 z1 a2 a3 _ Zu0 hzz0 Zu1 hzz1
  rw [HR0.out] at hC
  rw [HR1.out] at hC
  rw [HR2.out] at hC
  refine hC.mono ?_
  rintro e wk3 ⟨rfl, hbs⟩
  clear hC
  clear Zu0 Zu1
  have hb := bnext hb hbs
  clear hbs
  go_wp2_with fail
  refine (toInts_any a0 cap0 z0.length z0 _ rfl hz0 (HZ0.out.2.2.1.next hb)).mono ?_
  rintro e wk4 hq
  obtain ⟨Av0, cv0, rfl, ho, hbs⟩ := retInts_of hq
  have Zv0 := owns_cells ho
  clear hq ho
  have hb := bnext hb hbs
  clear hbs
  go_wp2_with fail
  refine (toInts_any a1 cap1 z1.length z1 _ rfl hz1 (HZ1.out.2.2.1.next hb)).mono ?_
  rintro e wk5 hq
  obtain ⟨Av1, cv1, rfl, ho, hbs⟩ := retInts_of hq
  have Zv1 := owns_cells ho
  clear hq ho
  have Zv0 := Zv0.next hbs
  have hb := bnext hb hbs
  clear hbs
  go_wp2_with fail
  have hC := implPressureRoom_ds Av0 cv0 z0 Av1 cv1 z1 a2 a3 _ Zv0 hzz0 Zv1 hzz1
  rw [HR0.out] at hC
  rw [HR1.out] at hC
  rw [HR2.out] at hC
  refine hC.mono ?_
  rintro e wk6 ⟨rfl, hbs⟩
  clear hC
  have Zv0 := Zv0.next hbs
  have Zv1 := Zv1.next hbs
  have hb := bnext hb hbs
  clear hbs
  go_wp2_with fail
  refine (toInts_any a0 cap0 z0.length z0 _ rfl hz0 (HZ0.out.2.2.1.next hb)).mono ?_
  rintro e wk7 hq
  obtain ⟨At0, ct0, rfl, ho, hbs⟩ := retInts_of hq
  have Zt0 := owns_cells ho
  clear hq ho
  have Zv0 := Zv0.next hbs
  have Zv1 := Zv1.next hbs
  have hb := bnext hb hbs
  clear hbs
  go_wp2_with fail
  refine (eqInts_same Av0 At0 cv0 ct0 z0 _ (by unfold maxLen; omega) Zv0 Zt0).mono ?_
  rintro e wk8 ⟨rfl, hd⟩
  have hbs := drawn_below hd
  clear hd
  clear Zt0
  have Zv0 := Zv0.next hbs
  have Zv1 := Zv1.next hbs
  have hb := bnext hb hbs
  clear hbs
  go_wp2_with fail
  refine (toInts_any a1 cap1 z1.length z1 _ rfl hz1 (HZ1.out.2.2.1.next hb)).mono ?_
  rintro e wk9 hq
  obtain ⟨At1, ct1, rfl, ho, hbs⟩ := retInts_of hq
  have Zt1 := owns_cells ho
  clear hq ho
  have Zv0 := Zv0.next hbs
  have Zv1 := Zv1.next hbs
  have hb := bnext hb hbs
  clear hbs
  go_wp2_with fail
  refine (eqInts_same Av1 At1 cv1 ct1 z1 _ (by unfold maxLen; omega) Zv1 Zt1).mono ?_
  rintro e wk10 ⟨rfl, hd⟩
  have hbs := drawn_below hd
  clear hd
  clear Zt1
  have Zv0 := Zv0.next hbs
  have Zv1 := Zv1.next hbs
  have hb := bnext hb hbs
  clear hbs
  go_wp2
  go_ret
  exact ⟨rfl, hb⟩

theorem own : ownKnob Try.prog.godebug = none := by kernel_rfl
theorem laidOut : laidOutB Try.prog = true := by kernel_rfl

set_option maxRecDepth 100000 in
theorem lifted (os : Os) (started : os.Started) (H : Type) (enc : TypeId × Value → H) :
    ReturnsInHanded {} Try.checked os 10 .any (Rows.fnExactPressureRoomSpec.pre6 enc Try.prog Try.f10 Rows.fnExactPressureRoomRow.domain false) (Rows.fnExactPressureRoomSpec.post enc Try.prog Try.f10 false true false false) := by
  refine returnsInHanded_of_change (C := Try.checked) own started (by kernel_rfl) Try.func10
    (ChangeSpec.witness6 (enc := enc) (C := Try.checked) false ⟨#[], #[.slice none 0 0, .slice none 0 0, .int .i64 0, .int .i64 0], []⟩ 8 (by kernel_rfl) (by kernel_rfl) (by kernel_rfl) (by kernel_rfl)) ?_
  intro W base args ds gs before hval0 hW hcnd _
  have hval : ∀ (j : Nat) t v, Try.f10.params[j]? = some t → args[j]? = some v → Value.okWide Try.prog W .any base t v := hval0
  have hW' := hW
  obtain ⟨p, q, hA0, hV, rfl, hfz, hnd⟩ := hW
  have hA : DataW.TrodAll enc Try.prog W 0 (fun _ => true) true Try.f10.params.toList args.toList ds p := hA0
  rw [Try.params10] at hA hval
  obtain ⟨v0, vs0, d0, ds0, p0, q0, hargs, rfl, rfl, h0, r0⟩ := trodAll_cons hA
  obtain ⟨v1, vs1, d1, ds1, p1, q1, rfl, rfl, rfl, h1, r1⟩ := trodAll_cons r0
  obtain ⟨v2, vs2, d2, ds2, p2, q2, rfl, rfl, rfl, h2, r2⟩ := trodAll_cons r1
  obtain ⟨v3, vs3, d3, ds3, p3, q3, rfl, rfl, rfl, h3, r3⟩ := trodAll_cons r2
  obtain ⟨rfl, rfl, rfl⟩ := trodAll_nil r3
  obtain rfl : args = #[v0, v1, v2, v3] := by cases args; simp_all
  obtain ⟨rfl, rfl⟩ := trodVars_none hV
  obtain ⟨a0, len0, cap0, rfl⟩ := okWide_slice Try.underlying31 (hval 0 31 v0 rfl rfl)
  have k0 := h0
  have lt0 : ∀ x ∈ p0, x.block < W.heap.size := by obtain ⟨m, hm⟩ := k0; exact DataW.trod_lt m _ _ _ hm
  obtain ⟨z0, w0⟩ : ∃ zs, SliceIn .i64 W a0 len0 zs := by
    obtain ⟨fuel, hf⟩ := h0
    rcases open_ints Try.underlying31 Try.underlying2 (by kernel_rfl) hf with ⟨hcs, _⟩ | ⟨x, l, c, zs, hcs, _, hl, hm, hz, _, hcell, hwz⟩
    · simp [Value.cells] at hcs
      obtain ⟨rfl, rfl, rfl⟩ := hcs
      exact ⟨[], SliceIn.nil _ _⟩
    · simp [Value.cells] at hcs
      obtain ⟨rfl, rfl, rfl⟩ := hcs
      exact ⟨_, SliceIn.row hl hm (by simpa using hz) hcell hwz⟩
  obtain ⟨a1, len1, cap1, rfl⟩ := okWide_slice Try.underlying31 (hval 1 31 v1 rfl rfl)
  have k1 := h1
  have lt1 : ∀ x ∈ p1, x.block < W.heap.size := by obtain ⟨m, hm⟩ := k1; exact DataW.trod_lt m _ _ _ hm
  obtain ⟨z1, w1⟩ : ∃ zs, SliceIn .i64 W a1 len1 zs := by
    obtain ⟨fuel, hf⟩ := h1
    rcases open_ints Try.underlying31 Try.underlying2 (by kernel_rfl) hf with ⟨hcs, _⟩ | ⟨x, l, c, zs, hcs, _, hl, hm, hz, _, hcell, hwz⟩
    · simp [Value.cells] at hcs
      obtain ⟨rfl, rfl, rfl⟩ := hcs
      exact ⟨[], SliceIn.nil _ _⟩
    · simp [Value.cells] at hcs
      obtain ⟨rfl, rfl, rfl⟩ := hcs
      exact ⟨_, SliceIn.row hl hm (by simpa using hz) hcell hwz⟩
  obtain ⟨a2, rfl, rfl, rfl, w2⟩ := open_int Try.underlying2 (hval 2 2 v2 rfl rfl) h2
  obtain ⟨a3, rfl, rfl, rfl, w3⟩ := open_int Try.underlying2 (hval 3 2 v3 rfl rfl) h3
  clear hA0 hval0
  refine (walk a0 len0 cap0 z0 a1 len1 cap1 z1 a2 a3 W w0 w1 w2 w3).mono fun e W' ⟨he, bel⟩ => ?_
  subst he
  exact ⟨_, rfl, _, _, _, [], _, [], hW', trodAll_mk1 (shut_bool Try.underlying4 _), (trodAll_cons_mk (Below.trod laidOut (by kernel_rfl) (of_decide_eq_true (by kernel_rfl)) k0 bel lt0) (trodAll_cons_mk (Below.trod laidOut (by kernel_rfl) (of_decide_eq_true (by kernel_rfl)) k1 bel lt1) (trodAll_cons_mk (shut_int Try.underlying2 w2) (trodAll_cons_mk (shut_int Try.underlying2 w3) trodAll_mk0)))), rfl, bel.frame _, fun h => by cases h⟩

theorem over : Rows.fnExactPressureRoomRow.holds Try.pinned (OpenSpec.ofChange Rows.fnExactPressureRoomSpec) :=
  OpenClaim.holds_of_wide 10 Try.f10 rfl rfl rfl rfl rfl rfl rfl ⟨rfl, rfl, rfl, rfl, rfl⟩ rfl rfl rfl rfl rfl (by kernel_rfl) Try.func10 (by kernel_rfl)
    (of_decide_eq_true (by kernel_rfl)) (by unfold Func.isWrapper; first | (rw [if_pos (by decide +kernel)]; kernel_rfl) | (rw [if_neg (by decide +kernel)]; exact ⟨rfl, rfl⟩))
    (fun os started H enc _ => lifted os started H enc)

theorem proved : Rows.FnExactPressureRoomSaid :=
  over
#print axioms proved
end Go.Proofs.Ytdaedgdglammhaa.fnExactPressureRoom
