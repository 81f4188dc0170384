/-
  FnExactSamePump: for every input the law returns true and its arguments read as before. No condition.
-/
import Derived.Test.YtkbkmpcdidhagabPu7
import Derived.Test.YtkbkmpcdidhagabPm1
import Derived.Test.YtkbkmpcdidhagabPm4
import Derived.Deep.RegionHeld3
import Derived.Test.YtkbkmpcdidhagabG0
import Derived.ShutString
import Derived.ChangeOld
namespace Go.Proofs.Ytkbkmpcdidhagab.fnExactSamePump
open Go.ChangeShapes Go.WideShapes Go.ChangeAt Go.RowKit
open Go.ChangeMaps (open_string shut_string)
set_option linter.unusedVariables false

set_option maxRecDepth 100000
set_option maxHeartbeats 1600000

theorem walk (x0 : Pm) (x1 : Pm) (w : World) (w0 : x0.fine w) (w1 : x1.fine w) :
    Calls Try.prog 4 #[.agg #[.string x0.d.id, .slice x0.cvA x0.d.cv.length x0.cvc], .agg #[.string x1.d.id, .slice x1.cvA x1.d.cv.length x1.cvc]] w fun e w' => e = .returned (.bool true) ∧ Below w.heap.size w w' := by
  have HI0 := Lib.hid w0
  clear w0
  have HI1 := Lib.hid w1
  clear w1
  have hb : Below w.heap.size w w := Below.refl _ _
  have hN0 : PmO (w.alloc (.cells #[.string x0.d.id, .slice x0.cvA x0.d.cv.length x0.cvc] 24)) (w.heap.size) 0 x0 := PmO.new w x0 24
  have hb : Below w.heap.size w (w.alloc (.cells #[.string x0.d.id, .slice x0.cvA x0.d.cv.length x0.cvc] 24)) := bal hb _
  have hN0 := hN0.alloc (.cells #[.string x1.d.id, .slice x1.cvA x1.d.cv.length x1.cvc] 24)
  have hN1 : PmO ((w.alloc (.cells #[.string x0.d.id, .slice x0.cvA x0.d.cv.length x0.cvc] 24)).alloc (.cells #[.string x1.d.id, .slice x1.cvA x1.d.cv.length x1.cvc] 24)) (w.heap.size + 1) 0 x1 := by have := PmO.new (w.alloc (.cells #[.string x0.d.id, .slice x0.cvA x0.d.cv.length x0.cvc] 24)) x1 24; simpa using this
  have hb : Below w.heap.size w ((w.alloc (.cells #[.string x0.d.id, .slice x0.cvA x0.d.cv.length x0.cvc] 24)).alloc (.cells #[.string x1.d.id, .slice x1.cvA x1.d.cv.length x1.cvc] 24)) := bal hb _
  have ⟨n0_0, n0_1⟩ := hN0
  have ⟨n1_0, n1_1⟩ := hN1
  go_enter Try.func4, Try.ntmps4
  go_wp2_with fail
  refine (szPm_any x0 1048576 _ (by omega) (by omega) (HI0.out.go hb)).mono ?_
  rintro e wk1 ⟨r0, rfl, hr, hbs⟩
  have hN0 := hN0.next hbs
  have hN1 := hN1.next hbs
  have hb := bnext hb hbs
  clear n0_0 n0_1 n1_0 n1_1
  clear hbs
  have ⟨n0_0, n0_1⟩ := hN0
  have ⟨n1_0, n1_1⟩ := hN1
  rcases hr with rfl | ⟨r0_0, r0_1, hs0⟩
  · go_wp2
    go_ret
    exact ⟨rfl, hb⟩
  have HS0 := Lib.hid hs0
  clear hs0
  go_wp2_with fail
  refine (szPm_any x1 r0 _ (by omega) (by omega) (HI1.out.go hb)).mono ?_
  rintro e wk2 ⟨r1, rfl, hr, hbs⟩
  have hN0 := hN0.next hbs
  have hN1 := hN1.next hbs
  have hb := bnext hb hbs
  clear n0_0 n0_1 n1_0 n1_1
  clear hbs
  have ⟨n0_0, n0_1⟩ := hN0
  have ⟨n1_0, n1_1⟩ := hN1
  rcases hr with rfl | ⟨r1_0, r1_1, hs1⟩
  · go_wp2
    go_ret
    exact ⟨rfl, hb⟩
  have HS1 := Lib.hid hs1
  clear hs1
  obtain ⟨R0, hR0⟩ : ∃ R, samePumpR0 x0.d x1.d = R := ⟨_, rfl⟩
  have HR0 := Lib.hid hR0
  clear hR0
  go_wp2_with fail
  have hdr : Below wk2.heap.size wk2 wk2.drew := below_drewN (Below.refl _ _) 1
  have hN0 := hN0.next hdr
  have hN1 := hN1.next hdr
  have hb := bnext hb hdr
  clear n0_0 n0_1 n1_0 n1_1
  clear hdr
  have ⟨n0_0, n0_1⟩ := hN0
  have ⟨n1_0, n1_1⟩ := hN1
  go_region_held3 (fun w' => w'.cell? ⟨w.heap.size, 0, none⟩ = some (.string x0.d.id) ∧ w'.cell? ⟨w.heap.size, 1, none⟩ = some (.slice x0.cvA x0.d.cv.length x0.cvc) ∧ w'.cell? ⟨w.heap.size + 1, 0, none⟩ = some (.string x1.d.id) ∧ w'.cell? ⟨w.heap.size + 1, 1, none⟩ = some (.slice x1.cvA x1.d.cv.length x1.cvc)) (exact ⟨n0_0, n0_1, n1_0, n1_1⟩) (first | (go_at_call 15; (have ok0 : Pm.okay _ x0 := ⟨HI0.out.go hb, HS0.out⟩; (with_reducible refine (copyPm x0 _ ok0).mono ?_); rintro e wk3 ⟨yu0, hdu0, rfl, Yu0, hbs⟩; have HDu0 := Lib.hid hdu0; clear hdu0; have hN0 := hN0.next hbs; have hN1 := hN1.next hbs; have hb := bnext hb hbs; have ⟨n0_0, n0_1⟩ := hN0; have ⟨n1_0, n1_1⟩ := hN1)) | (go_at_call 15; (have ok1 : Pm.okay _ x1 := ⟨HI1.out.go hb, HS1.out⟩; (with_reducible refine (copyPm x1 _ ok1).mono ?_); rintro e wk4 ⟨yu1, hdu1, rfl, Yu1, hbs⟩; have HDu1 := Lib.hid hdu1; clear hdu1; have hN0 := hN0.next hbs; have hN1 := hN1.next hbs; have Yu0 := Yu0.go hbs; have hb := bnext hb hbs; have ⟨n0_0, n0_1⟩ := hN0; have ⟨n1_0, n1_1⟩ := hN1)) | (go_at_call 18; have hC := specSamePump_ds yu0 yu1 _ Yu0 Yu1; have hE : samePumpR0 yu0.d yu1.d = R0 := (by rw [HDu0.out, HDu1.out, HR0.out]); rw [hE] at hC; clear hE; refine hC.mono ?_; rintro e wk5 ⟨rfl, hbs⟩; clear hC; have hN0 := hN0.next hbs; have hN1 := hN1.next hbs; have Yu0 := Yu0.go hbs; have Yu1 := Yu1.go hbs; have hb := bnext hb hbs; have ⟨n0_0, n0_1⟩ := hN0; have ⟨n1_0, n1_1⟩ := hN1))
  clear Yu0 HDu0
  clear Yu1 HDu1
  have e0 : (R0 != R0) = false := by simp
  go_wp2_with fail
  refine (copyPm x0 _ ⟨HI0.out.go hb, HS0.out⟩).mono ?_
  rintro e wk6 ⟨yv0, hdv0, rfl, Yv0, hbs⟩
  have HDv0 := Lib.hid hdv0
  clear hdv0
  have hN0 := hN0.next hbs
  have hN1 := hN1.next hbs
  have hb := bnext hb hbs
  clear n0_0 n0_1 n1_0 n1_1
  clear hbs
  have ⟨n0_0, n0_1⟩ := hN0
  have ⟨n1_0, n1_1⟩ := hN1
  have hal : Below wk6.heap.size wk6 (wk6.alloc (.cells #[.string yv0.d.id, .slice yv0.cvA yv0.d.cv.length yv0.cvc] 27)) := bal (Below.refl _ _) _
  have hX0 := PmO.new wk6 yv0 27
  have hN0 := hN0.next hal
  have hN1 := hN1.next hal
  have Yv0 := Yv0.go hal
  have hb := bnext hb hal
  clear n0_0 n0_1 n1_0 n1_1
  clear hal
  have ⟨n0_0, n0_1⟩ := hN0
  have ⟨n1_0, n1_1⟩ := hN1
  have ⟨x0_0, x0_1⟩ := hX0
  go_wp2_with fail
  refine (copyPm x1 _ ⟨HI1.out.go hb, HS1.out⟩).mono ?_
  rintro e wk7 ⟨yv1, hdv1, rfl, Yv1, hbs⟩
  have HDv1 := Lib.hid hdv1
  clear hdv1
  have hN0 := hN0.next hbs
  have hN1 := hN1.next hbs
  have Yv0 := Yv0.go hbs
  have hX0 := hX0.next hbs
  clear x0_0 x0_1
  have hb := bnext hb hbs
  clear n0_0 n0_1 n1_0 n1_1
  clear hbs
  have ⟨n0_0, n0_1⟩ := hN0
  have ⟨n1_0, n1_1⟩ := hN1
  have ⟨x0_0, x0_1⟩ := hX0
  have hal : Below wk7.heap.size wk7 (wk7.alloc (.cells #[.string yv1.d.id, .slice yv1.cvA yv1.d.cv.length yv1.cvc] 27)) := bal (Below.refl _ _) _
  have hX1 := PmO.new wk7 yv1 27
  have hN0 := hN0.next hal
  have hN1 := hN1.next hal
  have Yv0 := Yv0.go hal
  have hX0 := hX0.next hal
  have Yv1 := Yv1.go hal
  clear x0_0 x0_1
  have hb := bnext hb hal
  clear n0_0 n0_1 n1_0 n1_1
  clear hal
  have ⟨n0_0, n0_1⟩ := hN0
  have ⟨n1_0, n1_1⟩ := hN1
  have ⟨x0_0, x0_1⟩ := hX0
  have ⟨x1_0, x1_1⟩ := hX1
  go_wp2_with fail
  have hC := implSamePump_ds yv0 yv1 _ Yv0 Yv1
  have hE : samePumpR0 yv0.d yv1.d = R0 := (by rw [HDv0.out, HDv1.out, HR0.out])
  rw [hE] at hC
  clear hE
  refine hC.mono ?_
  rintro e wk8 ⟨rfl, hbs⟩
  clear hC
  have hN0 := hN0.next hbs
  have hN1 := hN1.next hbs
  have Yv0 := Yv0.go hbs
  have hX0 := hX0.next hbs
  have Yv1 := Yv1.go hbs
  have hX1 := hX1.next hbs
  clear x0_0 x0_1
  clear x1_0 x1_1
  have hb := bnext hb hbs
  clear n0_0 n0_1 n1_0 n1_1
  clear hbs
  have ⟨n0_0, n0_1⟩ := hN0
  have ⟨n1_0, n1_1⟩ := hN1
  have ⟨x0_0, x0_1⟩ := hX0
  have ⟨x1_0, x1_1⟩ := hX1
  go_wp2_with fail
  have hdr : Below wk8.heap.size wk8 wk8.drew := below_drewN (Below.refl _ _) 1
  have hN0 := hN0.next hdr
  have hN1 := hN1.next hdr
  have Yv0 := Yv0.go hdr
  have hX0 := hX0.next hdr
  have Yv1 := Yv1.go hdr
  have hX1 := hX1.next hdr
  clear x0_0 x0_1
  clear x1_0 x1_1
  have hb := bnext hb hdr
  clear n0_0 n0_1 n1_0 n1_1
  clear hdr
  have ⟨n0_0, n0_1⟩ := hN0
  have ⟨n1_0, n1_1⟩ := hN1
  have ⟨x0_0, x0_1⟩ := hX0
  have ⟨x1_0, x1_1⟩ := hX1
  go_region_held3 (fun w' => w'.cell? ⟨w.heap.size, 0, none⟩ = some (.string x0.d.id) ∧ w'.cell? ⟨w.heap.size, 1, none⟩ = some (.slice x0.cvA x0.d.cv.length x0.cvc) ∧ w'.cell? ⟨w.heap.size + 1, 0, none⟩ = some (.string x1.d.id) ∧ w'.cell? ⟨w.heap.size + 1, 1, none⟩ = some (.slice x1.cvA x1.d.cv.length x1.cvc) ∧ w'.cell? ⟨wk6.heap.size, 0, none⟩ = some (.string yv0.d.id) ∧ w'.cell? ⟨wk6.heap.size, 1, none⟩ = some (.slice yv0.cvA yv0.d.cv.length yv0.cvc) ∧ w'.cell? ⟨wk7.heap.size, 0, none⟩ = some (.string yv1.d.id) ∧ w'.cell? ⟨wk7.heap.size, 1, none⟩ = some (.slice yv1.cvA yv1.d.cv.length yv1.cvc)) (exact ⟨n0_0, n0_1, n1_0, n1_1, x0_0, x0_1, x1_0, x1_1⟩) (first | (go_at_call 15; refine (copyPm x0 _ ⟨HI0.out.go hb, HS0.out⟩).mono ?_; rintro e wr1 ⟨yt0, hdt0, rfl, Yt0, hbs⟩; have HDt0 := Lib.hid hdt0; clear hdt0; have hN0 := hN0.next hbs; have hN1 := hN1.next hbs; have Yv0 := Yv0.go hbs; have hX0 := hX0.next hbs; have Yv1 := Yv1.go hbs; have hX1 := hX1.next hbs; have hb := bnext hb hbs; have ⟨n0_0, n0_1⟩ := hN0; have ⟨n1_0, n1_1⟩ := hN1; have ⟨x0_0, x0_1⟩ := hX0; have ⟨x1_0, x1_1⟩ := hX1) | (go_at_call 17; refine (eqPm_same yv0 yt0 _ (by rw [HDv0.out, HDt0.out]) Yv0.1 Yt0.1).mono ?_; rintro e wk9 ⟨rfl, hbs⟩; have hN0 := hN0.next hbs; have hN1 := hN1.next hbs; have Yv0 := Yv0.go hbs; have hX0 := hX0.next hbs; have Yv1 := Yv1.go hbs; have hX1 := hX1.next hbs; have hb := bnext hb hbs; have ⟨n0_0, n0_1⟩ := hN0; have ⟨n1_0, n1_1⟩ := hN1; have ⟨x0_0, x0_1⟩ := hX0; have ⟨x1_0, x1_1⟩ := hX1))
  go_wp2_with fail
  have hdr : Below wk9.heap.size wk9 wk9.drew := below_drewN (Below.refl _ _) 1
  have hN0 := hN0.next hdr
  have hN1 := hN1.next hdr
  have Yv0 := Yv0.go hdr
  have hX0 := hX0.next hdr
  have Yv1 := Yv1.go hdr
  have hX1 := hX1.next hdr
  clear x0_0 x0_1
  clear x1_0 x1_1
  have hb := bnext hb hdr
  clear n0_0 n0_1 n1_0 n1_1
  clear hdr
  have ⟨n0_0, n0_1⟩ := hN0
  have ⟨n1_0, n1_1⟩ := hN1
  have ⟨x0_0, x0_1⟩ := hX0
  have ⟨x1_0, x1_1⟩ := hX1
  go_region_held3 (fun w' => w'.cell? ⟨w.heap.size, 0, none⟩ = some (.string x0.d.id) ∧ w'.cell? ⟨w.heap.size, 1, none⟩ = some (.slice x0.cvA x0.d.cv.length x0.cvc) ∧ w'.cell? ⟨w.heap.size + 1, 0, none⟩ = some (.string x1.d.id) ∧ w'.cell? ⟨w.heap.size + 1, 1, none⟩ = some (.slice x1.cvA x1.d.cv.length x1.cvc) ∧ w'.cell? ⟨wk6.heap.size, 0, none⟩ = some (.string yv0.d.id) ∧ w'.cell? ⟨wk6.heap.size, 1, none⟩ = some (.slice yv0.cvA yv0.d.cv.length yv0.cvc) ∧ w'.cell? ⟨wk7.heap.size, 0, none⟩ = some (.string yv1.d.id) ∧ w'.cell? ⟨wk7.heap.size, 1, none⟩ = some (.slice yv1.cvA yv1.d.cv.length yv1.cvc)) (exact ⟨n0_0, n0_1, n1_0, n1_1, x0_0, x0_1, x1_0, x1_1⟩) (first | (go_at_call 15; refine (copyPm x1 _ ⟨HI1.out.go hb, HS1.out⟩).mono ?_; rintro e wr1 ⟨yt1, hdt1, rfl, Yt1, hbs⟩; have HDt1 := Lib.hid hdt1; clear hdt1; have hN0 := hN0.next hbs; have hN1 := hN1.next hbs; have Yv0 := Yv0.go hbs; have hX0 := hX0.next hbs; have Yv1 := Yv1.go hbs; have hX1 := hX1.next hbs; have hb := bnext hb hbs; have ⟨n0_0, n0_1⟩ := hN0; have ⟨n1_0, n1_1⟩ := hN1; have ⟨x0_0, x0_1⟩ := hX0; have ⟨x1_0, x1_1⟩ := hX1) | (go_at_call 17; refine (eqPm_same yv1 yt1 _ (by rw [HDv1.out, HDt1.out]) Yv1.1 Yt1.1).mono ?_; rintro e wk10 ⟨rfl, hbs⟩; have hN0 := hN0.next hbs; have hN1 := hN1.next hbs; have Yv0 := Yv0.go hbs; have hX0 := hX0.next hbs; have Yv1 := Yv1.go hbs; have hX1 := hX1.next hbs; have hb := bnext hb hbs; have ⟨n0_0, n0_1⟩ := hN0; have ⟨n1_0, n1_1⟩ := hN1; have ⟨x0_0, x0_1⟩ := hX0; have ⟨x1_0, x1_1⟩ := hX1))
  go_wp2
  go_ret
  exact ⟨rfl, hb⟩

theorem own : ownKnob Try.prog.godebug = none := by kernel_rfl
theorem laidOut : laidOutB Try.prog = true := by kernel_rfl

set_option maxRecDepth 100000 in
theorem lifted (os : Os) (started : os.Started) (H : Type) (enc : TypeId × Value → H) :
    ReturnsInHanded {} Try.checked os 4 .any (Rows.fnExactSamePumpSpec.pre6 enc Try.prog Try.f4 Rows.fnExactSamePumpRow.domain false) (Rows.fnExactSamePumpSpec.post enc Try.prog Try.f4 false true false false) := by
  refine returnsInHanded_of_change (C := Try.checked) own started (by kernel_rfl) Try.func4
    (ChangeSpec.witness6 (enc := enc) (C := Try.checked) false ⟨#[], #[.agg #[.string .empty, .slice none 0 0], .agg #[.string .empty, .slice none 0 0]], []⟩ 8 (by kernel_rfl) (by kernel_rfl) (by kernel_rfl) (by kernel_rfl)) ?_
  intro W base args ds gs before hval0 hW hcnd _
  have hval : ∀ (j : Nat) t v, Try.f4.params[j]? = some t → args[j]? = some v → Value.okWide Try.prog W .any base t v := hval0
  have hW' := hW
  obtain ⟨p, q, hA0, hV, rfl, hfz, hnd⟩ := hW
  have hA : DataW.TrodAll enc Try.prog W 0 (fun _ => true) true Try.f4.params.toList args.toList ds p := hA0
  rw [Try.params4] at hA hval
  obtain ⟨v0, vs0, d0, ds0, p0, q0, hargs, rfl, rfl, h0, r0⟩ := trodAll_cons hA
  obtain ⟨v1, vs1, d1, ds1, p1, q1, rfl, rfl, rfl, h1, r1⟩ := trodAll_cons r0
  obtain ⟨rfl, rfl, rfl⟩ := trodAll_nil r1
  obtain rfl : args = #[v0, v1] := by cases args; simp_all
  obtain ⟨rfl, rfl⟩ := trodVars_none hV
  have k0 := h0
  have lt0 : ∀ x ∈ p0, x.block < W.heap.size := by obtain ⟨m, hm⟩ := k0; exact DataW.trod_lt m _ _ _ hm
  obtain ⟨x0, rfl, w0⟩ := open_Pm (hval 0 24 v0 rfl rfl) h0
  have k1 := h1
  have lt1 : ∀ x ∈ p1, x.block < W.heap.size := by obtain ⟨m, hm⟩ := k1; exact DataW.trod_lt m _ _ _ hm
  obtain ⟨x1, rfl, w1⟩ := open_Pm (hval 1 24 v1 rfl rfl) h1
  clear hA0 hval0
  refine (walk x0 x1 W w0 w1).mono fun e W' ⟨he, bel⟩ => ?_
  subst he
  exact ⟨_, rfl, _, _, _, [], _, [], hW', trodAll_mk1 (shut_bool Try.underlying4 _), (trodAll_cons_mk (Below.trod laidOut (by kernel_rfl) (of_decide_eq_true (by kernel_rfl)) k0 bel lt0) (trodAll_cons_mk (Below.trod laidOut (by kernel_rfl) (of_decide_eq_true (by kernel_rfl)) k1 bel lt1) trodAll_mk0)), rfl, bel.frame _, fun h => by cases h⟩

theorem over : Rows.fnExactSamePumpRow.holds Try.pinned (OpenSpec.ofChange Rows.fnExactSamePumpSpec) :=
  OpenClaim.holds_of_wide 4 Try.f4 rfl rfl rfl rfl rfl rfl rfl ⟨rfl, rfl, rfl, rfl, rfl⟩ rfl rfl rfl rfl rfl (by kernel_rfl) Try.func4 (by kernel_rfl)
    (of_decide_eq_true (by kernel_rfl)) (by unfold Func.isWrapper; first | (rw [if_pos (by decide +kernel)]; kernel_rfl) | (rw [if_neg (by decide +kernel)]; exact ⟨rfl, rfl⟩))
    (fun os started H enc _ => lifted os started H enc)

theorem proved : Rows.FnExactSamePumpSaid :=
  over
#print axioms proved
end Go.Proofs.Ytkbkmpcdidhagab.fnExactSamePump
