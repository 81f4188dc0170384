/-
  FnExactValidSubstations: for every input the law returns true and its arguments read as before. No condition.
-/
import Derived.Test.YtdaedgdglammhabSv0
import Derived.Test.YtdaedgdglammhabSb1
import Derived.Test.YtdaedgdglammhabSb2
import Derived.Test.YtdaedgdglammhabM2
import Derived.Test.YtdaedgdglammhabGs
import Derived.Test.YtdaedgdglammhabFl
import Derived.Test.YtdaedgdglammhabG0
import Derived.ShutString
import Derived.ChangeOld
namespace Go.Proofs.Ytdaedgdglammhab.fnExactValidSubstations
open Go.ChangeShapes Go.WideShapes Go.ChangeAt Go.RowKit
open Go.ChangeMaps (open_string shut_string)
set_option linter.unusedVariables false

set_option maxRecDepth 100000
set_option maxHeartbeats 1600000

theorem walk (A0 : Option Addr) (n0 c0 : Nat) (xs0 : List Sb) (w : World) (w0 : SbsIn w A0 n0 xs0) :
    Calls Try.prog 3 #[.slice A0 n0 c0] w fun e w' => e = .returned (.bool true) ∧ Below w.heap.size w w' := by
  have HI0 := Lib.hid w0
  clear w0
  have hb : Below w.heap.size w w := Below.refl _ _
  go_enter Try.func3, Try.ntmps3
  go_wp2_with fail
  refine (szSbs_any A0 n0 c0 xs0 1048576 _ (by omega) (by omega) (HI0.out.go hb)).mono ?_
  rintro e wk1 ⟨r0, rfl, hr, hbs⟩
  have hb := bnext hb hbs
  clear hbs
  rcases hr with rfl | ⟨r0_0, r0_1⟩
  · go_wp2
    go_ret
    exact ⟨rfl, hb⟩
  have hn0 : n0 ≤ 1048576 := by omega
  obtain ⟨R0, hR0⟩ : ∃ R, validSubstationsR0 xs0 = R := ⟨_, rfl⟩
  have HR0 := Lib.hid hR0
  clear hR0
  have e0 : (R0 != R0) = false := by simp
  go_wp2_with fail
  refine (copySbs A0 n0 c0 xs0 _ ⟨HI0.out.go hb, hn0⟩).mono ?_
  rintro e wk2 ⟨Au0, cu0, rfl, Ou0, Yu0, hbs⟩
  clear Ou0
  have hb := bnext hb hbs
  clear hbs
  go_wp2_with fail
  have hC := specValidSubstations_ds Au0 n0 cu0 xs0 _ Yu0
  rw [HR0.out] at hC
  refine hC.mono ?_
  rintro e wk3 ⟨rfl, hbs⟩
  clear hC
  clear Yu0
  have hb := bnext hb hbs
  clear hbs
  go_wp2_with fail
  refine (copySbs A0 n0 c0 xs0 _ ⟨HI0.out.go hb, hn0⟩).mono ?_
  rintro e wk4 ⟨Av0, cv0, rfl, Ov0, Yv0, hbs⟩
  clear Ov0
  have hb := bnext hb hbs
  clear hbs
  go_wp2_with fail
  have hC := implValidSubstations_ds Av0 n0 cv0 xs0 _ Yv0
  rw [HR0.out] at hC
  refine hC.mono ?_
  rintro e wk5 ⟨rfl, hbs⟩
  clear hC
  have Yv0 := Yv0.go hbs
  have hb := bnext hb hbs
  clear hbs
  go_wp2_with fail
  refine (copySbs A0 n0 c0 xs0 _ ⟨HI0.out.go hb, hn0⟩).mono ?_
  rintro e wk6 ⟨At0, ct0, rfl, Ot0, Yt0, hbs⟩
  clear Ot0
  have Yv0 := Yv0.go hbs
  have hb := bnext hb hbs
  clear hbs
  go_wp2_with fail
  refine (sameSbs Av0 At0 n0 cv0 ct0 xs0 _ Yv0.1.1 Yv0.1.2.1 Yv0.cells Yt0.cells).mono ?_
  rintro e wk7 ⟨rfl, hbs⟩
  clear Yt0
  have Yv0 := Yv0.go hbs
  have hb := bnext hb hbs
  clear hbs
  go_wp2
  go_ret
  exact ⟨rfl, hb⟩

theorem own : ownKnob Try.prog.godebug = none := by kernel_rfl
theorem laidOut : laidOutB Try.prog = true := by kernel_rfl

set_option maxRecDepth 100000 in
theorem lifted (os : Os) (started : os.Started) (H : Type) (enc : TypeId × Value → H) :
    ReturnsInHanded {} Try.checked os 3 .any (Rows.fnExactValidSubstationsSpec.pre6 enc Try.prog Try.f3 Rows.fnExactValidSubstationsRow.domain false) (Rows.fnExactValidSubstationsSpec.post enc Try.prog Try.f3 false true false false) := by
  refine returnsInHanded_of_change (C := Try.checked) own started (by kernel_rfl) Try.func3
    (ChangeSpec.witness6 (enc := enc) (C := Try.checked) false ⟨#[], #[.slice none 0 0], []⟩ 8 (by kernel_rfl) (by kernel_rfl) (by kernel_rfl) (by kernel_rfl)) ?_
  intro W base args ds gs before hval0 hW hcnd _
  have hval : ∀ (j : Nat) t v, Try.f3.params[j]? = some t → args[j]? = some v → Value.okWide Try.prog W .any base t v := hval0
  have hW' := hW
  obtain ⟨p, q, hA0, hV, rfl, hfz, hnd⟩ := hW
  have hA : DataW.TrodAll enc Try.prog W 0 (fun _ => true) true Try.f3.params.toList args.toList ds p := hA0
  rw [Try.params3] at hA hval
  obtain ⟨v0, vs0, d0, ds0, p0, q0, hargs, rfl, rfl, h0, r0⟩ := trodAll_cons hA
  obtain ⟨rfl, rfl, rfl⟩ := trodAll_nil r0
  obtain rfl : args = #[v0] := by cases args; simp_all
  obtain ⟨rfl, rfl⟩ := trodVars_none hV
  have k0 := h0
  have lt0 : ∀ x ∈ p0, x.block < W.heap.size := by obtain ⟨m, hm⟩ := k0; exact DataW.trod_lt m _ _ _ hm
  obtain ⟨A0, n0, c0, xs0, rfl, w0⟩ := open_Sbs (hval 0 22 v0 rfl rfl) h0
  clear hA0 hval0
  refine (walk A0 n0 c0 xs0 W w0).mono fun e W' ⟨he, bel⟩ => ?_
  subst he
  exact ⟨_, rfl, _, _, _, [], _, [], hW', trodAll_mk1 (shut_bool Try.underlying4 _), (trodAll_cons_mk (Below.trod laidOut (by kernel_rfl) (of_decide_eq_true (by kernel_rfl)) k0 bel lt0) trodAll_mk0), rfl, bel.frame _, fun h => by cases h⟩

theorem over : Rows.fnExactValidSubstationsRow.holds Try.pinned (OpenSpec.ofChange Rows.fnExactValidSubstationsSpec) :=
  OpenClaim.holds_of_wide 3 Try.f3 rfl rfl rfl rfl rfl rfl rfl ⟨rfl, rfl, rfl, rfl, rfl⟩ rfl rfl rfl rfl rfl (by kernel_rfl) Try.func3 (by kernel_rfl)
    (of_decide_eq_true (by kernel_rfl)) (by unfold Func.isWrapper; first | (rw [if_pos (by decide +kernel)]; kernel_rfl) | (rw [if_neg (by decide +kernel)]; exact ⟨rfl, rfl⟩))
    (fun os started H enc _ => lifted os started H enc)

theorem proved : Rows.FnExactValidSubstationsSaid :=
  over
#print axioms proved
end Go.Proofs.Ytdaedgdglammhab.fnExactValidSubstations
