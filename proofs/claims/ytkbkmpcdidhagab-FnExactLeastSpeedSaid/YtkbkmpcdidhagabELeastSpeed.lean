/-
  FnExactLeastSpeed: for every input the law returns true and its arguments read as before. No condition.
-/
import Derived.Test.YtkbkmpcdidhagabPv3
import Derived.Test.YtkbkmpcdidhagabPm1
import Derived.Test.YtkbkmpcdidhagabPm4
import Derived.Deep.RegionHeld3
import Derived.Test.YtkbkmpcdidhagabG0
import Derived.ShutString
import Derived.ChangeOld
namespace Go.Proofs.Ytkbkmpcdidhagab.fnExactLeastSpeed
open Go.ChangeShapes Go.WideShapes Go.ChangeAt Go.RowKit
open Go.ChangeMaps (open_string shut_string)
set_option linter.unusedVariables false

set_option maxRecDepth 100000
set_option maxHeartbeats 1600000

theorem walk (x0 : Pm) (a1 : Int) (a2 : Int) (a3 : Int) (w : World) (w0 : x0.fine w) (w1 : (Lit.int .i64 a1).wf = true) (w2 : (Lit.int .i64 a2).wf = true) (w3 : (Lit.int .i64 a3).wf = true) :
    Calls Try.prog 11 #[.agg #[.string x0.d.id, .slice x0.cvA x0.d.cv.length x0.cvc], .int .i64 a1, .int .i64 a2, .int .i64 a3] w fun e w' => e = .returned (.bool true) ∧ Below w.heap.size w w' := by
  have HI0 := Lib.hid w0
  clear w0
  have hb : Below w.heap.size w w := Below.refl _ _
  have hN0 : PmO (w.alloc (.cells #[.string x0.d.id, .slice x0.cvA x0.d.cv.length x0.cvc] 24)) (w.heap.size) 0 x0 := PmO.new w x0 24
  have hb : Below w.heap.size w (w.alloc (.cells #[.string x0.d.id, .slice x0.cvA x0.d.cv.length x0.cvc] 24)) := bal hb _
  have ⟨n0_0, n0_1⟩ := hN0
  go_enter Try.func11, Try.ntmps11
  go_wp2_with fail
  refine (szPm_any x0 1048576 _ (by omega) (by omega) (HI0.out.go hb)).mono ?_
  rintro e wk1 ⟨r0, rfl, hr, hbs⟩
  have hN0 := hN0.next hbs
  have hb := bnext hb hbs
  clear n0_0 n0_1
  clear hbs
  have ⟨n0_0, n0_1⟩ := hN0
  rcases hr with rfl | ⟨r0_0, r0_1, hs0⟩
  · go_wp2
    go_ret
    exact ⟨rfl, hb⟩
  have HS0 := Lib.hid hs0
  clear hs0
  go_wp2_with fail
  refine (copyPm x0 _ ⟨HI0.out.go hb, HS0.out⟩).mono ?_
  rintro e wk2 ⟨yu0, hdu0, rfl, Yu0, hbs⟩
  have HDu0 := Lib.hid hdu0
  clear hdu0
  have hN0 := hN0.next hbs
  have hb := bnext hb hbs
  clear n0_0 n0_1
  clear hbs
  have ⟨n0_0, n0_1⟩ := hN0
  obtain ⟨R0, hR0⟩ : ∃ R, leastSpeedR0 x0.d a1 a2 a3 = R := ⟨_, rfl⟩
  have HR0 := Lib.hid hR0
  clear hR0
  obtain ⟨R1, hR1⟩ : ∃ R, leastSpeedR1 x0.d a1 a2 a3 = R := ⟨_, rfl⟩
  have HR1 := Lib.hid hR1
  clear hR1
  go_wp2_with fail
  have hC := specLeastSpeed_ds yu0 a1 a2 a3 _ Yu0
  have hE : leastSpeedR0 yu0.d a1 a2 a3 = R0 := (by rw [HDu0.out, HR0.out])
  rw [hE] at hC
  clear hE
  have hE : leastSpeedR1 yu0.d a1 a2 a3 = R1 := (by rw [HDu0.out, HR1.out])
  rw [hE] at hC
  clear hE
  refine hC.mono ?_
  rintro e wk3 ⟨rfl, hbs⟩
  clear hC
  clear Yu0 HDu0
  have hN0 := hN0.next hbs
  have hb := bnext hb hbs
  clear n0_0 n0_1
  clear hbs
  have ⟨n0_0, n0_1⟩ := hN0
  have e0 : (R0 != R0) = false := by simp
  have e1 : (R1 != R1) = false := by simp
  go_wp2_with fail
  refine (copyPm x0 _ ⟨HI0.out.go hb, HS0.out⟩).mono ?_
  rintro e wk4 ⟨yv0, hdv0, rfl, Yv0, hbs⟩
  have HDv0 := Lib.hid hdv0
  clear hdv0
  have hN0 := hN0.next hbs
  have hb := bnext hb hbs
  clear n0_0 n0_1
  clear hbs
  have ⟨n0_0, n0_1⟩ := hN0
  have hal : Below wk4.heap.size wk4 (wk4.alloc (.cells #[.string yv0.d.id, .slice yv0.cvA yv0.d.cv.length yv0.cvc] 27)) := bal (Below.refl _ _) _
  have hX0 := PmO.new wk4 yv0 27
  have hN0 := hN0.next hal
  have Yv0 := Yv0.go hal
  have hb := bnext hb hal
  clear n0_0 n0_1
  clear hal
  have ⟨n0_0, n0_1⟩ := hN0
  have ⟨x0_0, x0_1⟩ := hX0
  go_wp2_with fail
  have hC := implLeastSpeed_ds yv0 a1 a2 a3 _ Yv0
  have hE : leastSpeedR0 yv0.d a1 a2 a3 = R0 := (by rw [HDv0.out, HR0.out])
  rw [hE] at hC
  clear hE
  have hE : leastSpeedR1 yv0.d a1 a2 a3 = R1 := (by rw [HDv0.out, HR1.out])
  rw [hE] at hC
  clear hE
  refine hC.mono ?_
  rintro e wk5 ⟨rfl, hbs⟩
  clear hC
  have hN0 := hN0.next hbs
  have Yv0 := Yv0.go hbs
  have hX0 := hX0.next hbs
  clear x0_0 x0_1
  have hb := bnext hb hbs
  clear n0_0 n0_1
  clear hbs
  have ⟨n0_0, n0_1⟩ := hN0
  have ⟨x0_0, x0_1⟩ := hX0
  go_wp2_with fail
  have hdr : Below wk5.heap.size wk5 wk5.drew := below_drewN (Below.refl _ _) 1
  have hN0 := hN0.next hdr
  have Yv0 := Yv0.go hdr
  have hX0 := hX0.next hdr
  clear x0_0 x0_1
  have hb := bnext hb hdr
  clear n0_0 n0_1
  clear hdr
  have ⟨n0_0, n0_1⟩ := hN0
  have ⟨x0_0, x0_1⟩ := hX0
  go_region_held3 (fun w' => w'.cell? ⟨w.heap.size, 0, none⟩ = some (.string x0.d.id) ∧ w'.cell? ⟨w.heap.size, 1, none⟩ = some (.slice x0.cvA x0.d.cv.length x0.cvc) ∧ w'.cell? ⟨wk4.heap.size, 0, none⟩ = some (.string yv0.d.id) ∧ w'.cell? ⟨wk4.heap.size, 1, none⟩ = some (.slice yv0.cvA yv0.d.cv.length yv0.cvc)) (exact ⟨n0_0, n0_1, x0_0, x0_1⟩) (first | (go_at_call 15; refine (copyPm x0 _ ⟨HI0.out.go hb, HS0.out⟩).mono ?_; rintro e wr1 ⟨yt0, hdt0, rfl, Yt0, hbs⟩; have HDt0 := Lib.hid hdt0; clear hdt0; have hN0 := hN0.next hbs; have Yv0 := Yv0.go hbs; have hX0 := hX0.next hbs; have hb := bnext hb hbs; have ⟨n0_0, n0_1⟩ := hN0; have ⟨x0_0, x0_1⟩ := hX0) | (go_at_call 17; refine (eqPm_same yv0 yt0 _ (by rw [HDv0.out, HDt0.out]) Yv0.1 Yt0.1).mono ?_; rintro e wk6 ⟨rfl, hbs⟩; have hN0 := hN0.next hbs; have Yv0 := Yv0.go hbs; have hX0 := hX0.next hbs; have hb := bnext hb hbs; have ⟨n0_0, n0_1⟩ := hN0; have ⟨x0_0, x0_1⟩ := hX0))
  go_wp2
  go_ret
  exact ⟨rfl, hb⟩

theorem own : ownKnob Try.prog.godebug = none := by kernel_rfl
theorem laidOut : laidOutB Try.prog = true := by kernel_rfl

set_option maxRecDepth 100000 in
theorem lifted (os : Os) (started : os.Started) (H : Type) (enc : TypeId × Value → H) :
    ReturnsInHanded {} Try.checked os 11 .any (Rows.fnExactLeastSpeedSpec.pre6 enc Try.prog Try.f11 Rows.fnExactLeastSpeedRow.domain false) (Rows.fnExactLeastSpeedSpec.post enc Try.prog Try.f11 false true false false) := by
  refine returnsInHanded_of_change (C := Try.checked) own started (by kernel_rfl) Try.func11
    (ChangeSpec.witness6 (enc := enc) (C := Try.checked) false ⟨#[], #[.agg #[.string .empty, .slice none 0 0], .int .i64 0, .int .i64 0, .int .i64 0], []⟩ 8 (by kernel_rfl) (by kernel_rfl) (by kernel_rfl) (by kernel_rfl)) ?_
  intro W base args ds gs before hval0 hW hcnd _
  have hval : ∀ (j : Nat) t v, Try.f11.params[j]? = some t → args[j]? = some v → Value.okWide Try.prog W .any base t v := hval0
  have hW' := hW
  obtain ⟨p, q, hA0, hV, rfl, hfz, hnd⟩ := hW
  have hA : DataW.TrodAll enc Try.prog W 0 (fun _ => true) true Try.f11.params.toList args.toList ds p := hA0
  rw [Try.params11] at hA hval
  obtain ⟨v0, vs0, d0, ds0, p0, q0, hargs, rfl, rfl, h0, r0⟩ := trodAll_cons hA
  obtain ⟨v1, vs1, d1, ds1, p1, q1, rfl, rfl, rfl, h1, r1⟩ := trodAll_cons r0
  obtain ⟨v2, vs2, d2, ds2, p2, q2, rfl, rfl, rfl, h2, r2⟩ := trodAll_cons r1
  obtain ⟨v3, vs3, d3, ds3, p3, q3, rfl, rfl, rfl, h3, r3⟩ := trodAll_cons r2
  obtain ⟨rfl, rfl, rfl⟩ := trodAll_nil r3
  obtain rfl : args = #[v0, v1, v2, v3] := by cases args; simp_all
  obtain ⟨rfl, rfl⟩ := trodVars_none hV
  have k0 := h0
  have lt0 : ∀ x ∈ p0, x.block < W.heap.size := by obtain ⟨m, hm⟩ := k0; exact DataW.trod_lt m _ _ _ hm
  obtain ⟨x0, rfl, w0⟩ := open_Pm (hval 0 24 v0 rfl rfl) h0
  obtain ⟨a1, rfl, rfl, rfl, w1⟩ := open_int Try.underlying2 (hval 1 2 v1 rfl rfl) h1
  obtain ⟨a2, rfl, rfl, rfl, w2⟩ := open_int Try.underlying2 (hval 2 2 v2 rfl rfl) h2
  obtain ⟨a3, rfl, rfl, rfl, w3⟩ := open_int Try.underlying2 (hval 3 2 v3 rfl rfl) h3
  clear hA0 hval0
  refine (walk x0 a1 a2 a3 W w0 w1 w2 w3).mono fun e W' ⟨he, bel⟩ => ?_
  subst he
  exact ⟨_, rfl, _, _, _, [], _, [], hW', trodAll_mk1 (shut_bool Try.underlying4 _), (trodAll_cons_mk (Below.trod laidOut (by kernel_rfl) (of_decide_eq_true (by kernel_rfl)) k0 bel lt0) (trodAll_cons_mk (shut_int Try.underlying2 w1) (trodAll_cons_mk (shut_int Try.underlying2 w2) (trodAll_cons_mk (shut_int Try.underlying2 w3) trodAll_mk0)))), rfl, bel.frame _, fun h => by cases h⟩

theorem over : Rows.fnExactLeastSpeedRow.holds Try.pinned (OpenSpec.ofChange Rows.fnExactLeastSpeedSpec) :=
  OpenClaim.holds_of_wide 11 Try.f11 rfl rfl rfl rfl rfl rfl rfl ⟨rfl, rfl, rfl, rfl, rfl⟩ rfl rfl rfl rfl rfl (by kernel_rfl) Try.func11 (by kernel_rfl)
    (of_decide_eq_true (by kernel_rfl)) (by unfold Func.isWrapper; first | (rw [if_pos (by decide +kernel)]; kernel_rfl) | (rw [if_neg (by decide +kernel)]; exact ⟨rfl, rfl⟩))
    (fun os started H enc _ => lifted os started H enc)

theorem proved : Rows.FnExactLeastSpeedSaid :=
  over
#print axioms proved
end Go.Proofs.Ytkbkmpcdidhagab.fnExactLeastSpeed
