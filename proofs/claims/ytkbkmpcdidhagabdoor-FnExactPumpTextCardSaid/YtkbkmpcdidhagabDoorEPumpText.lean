/-
  FnExactPumpText: for every input the law returns true and its arguments read as before. No condition.
-/
import Derived.Test.YtkbkmpcdidhagabDoorPx0
import Derived.Test.YtkbkmpcdidhagabDoorPm1
import Derived.Test.YtkbkmpcdidhagabDoorPm4
import Derived.Deep.RegionHeld3
import Derived.Test.YtkbkmpcdidhagabDoorL1
import Derived.Test.YtkbkmpcdidhagabDoorCards
import Derived.Test.YtkbkmpcdidhagabDoorTie
import Derived.Test.YtkbkmpcdidhagabDoorG0
import Derived.Deep.DeepHandedRow
import Derived.Deep.DeepWitnessRowRef
import Derived.LaidMore
import Derived.Lay
import Derived.Lib.LaidTab
import Derived.ShutString
import Derived.ChangeOld
namespace Go.Proofs.YtkbkmpcdidhagabDoor.fnExactPumpText
open Go.ChangeShapes Go.WideShapes Go.ChangeAt Go.RowKit
open Go.ChangeMaps (open_string shut_string)
set_option linter.unusedVariables false

set_option maxRecDepth 100000
set_option maxHeartbeats 1600000
theorem laid_facts {W : World} (h : laidMetH Tryd.prog Rows.fnExactPumpTextRow.laid W) : PowTab W := by
  rw [MakeChecks.laidMetH_plain _ _ _ (by kernel_rfl)] at h
  exact powTab_laid h.tail.tail


theorem walk (x0 : Pm) (w : World) (w0 : x0.fine w) (hL : PowTab w) :
    Calls Tryd.prog 3 #[.agg #[.string x0.d.id, .slice x0.cvA x0.d.cv.length x0.cvc]] w fun e w' => e = .returned (.bool true) ∧ Below w.heap.size w w' := by
  have HA9 := Lib.hid hL
  clear hL
  have HI0 := Lib.hid w0
  clear w0
  have hb : Below w.heap.size w w := Below.refl _ _
  have hN0 : PmO (w.alloc (.cells #[.string x0.d.id, .slice x0.cvA x0.d.cv.length x0.cvc] 24)) (w.heap.size) 0 x0 := PmO.new w x0 24
  have hb : Below w.heap.size w (w.alloc (.cells #[.string x0.d.id, .slice x0.cvA x0.d.cv.length x0.cvc] 24)) := bal hb _
  have ⟨n0_0, n0_1⟩ := hN0
  go_enter Tryd.func3, Tryd.ntmps3
  go_wp2_with fail
  refine (szPm_any x0 1048576 _ (by omega) (by omega) (HI0.out.go hb)).mono ?_
  rintro e wk1 ⟨r0, rfl, hr, hbs⟩
  have hN0 := hN0.next hbs
  have hb := bnext hb hbs
  clear n0_0 n0_1
  clear hbs
  have ⟨n0_0, n0_1⟩ := hN0
  rcases hr with rfl | ⟨r0_0, r0_1, hs0⟩
  · go_wp2
    go_ret
    exact ⟨rfl, hb⟩
  have HS0 := Lib.hid hs0
  clear hs0
  go_wp2_with fail
  refine (copyPm x0 _ ⟨HI0.out.go hb, HS0.out⟩).mono ?_
  rintro e wk2 ⟨yu0, hdu0, rfl, Yu0, hbs⟩
  have HDu0 := Lib.hid hdu0
  clear hdu0
  have hN0 := hN0.next hbs
  have hb := bnext hb hbs
  clear n0_0 n0_1
  clear hbs
  have ⟨n0_0, n0_1⟩ := hN0
  obtain ⟨R0, hR0⟩ : ∃ R, pumpTextR0 x0.d = R := ⟨_, rfl⟩
  have HR0 := Lib.hid hR0
  clear hR0
  go_wp2_with fail
  have hC := specPumpText_ds yu0 _ Yu0
  have hE : pumpTextR0 yu0.d = R0 := (by rw [HDu0.out, HR0.out])
  rw [hE] at hC
  clear hE
  refine hC.mono ?_
  rintro e wk3 ⟨rfl, hbs⟩
  clear hC
  clear Yu0 HDu0
  have hN0 := hN0.next hbs
  have hb := bnext hb hbs
  clear n0_0 n0_1
  clear hbs
  have ⟨n0_0, n0_1⟩ := hN0
  go_wp2_with fail
  refine (copyPm x0 _ ⟨HI0.out.go hb, HS0.out⟩).mono ?_
  rintro e wk4 ⟨yv0, hdv0, rfl, Yv0, hbs⟩
  have HDv0 := Lib.hid hdv0
  clear hdv0
  have hN0 := hN0.next hbs
  have hb := bnext hb hbs
  clear n0_0 n0_1
  clear hbs
  have ⟨n0_0, n0_1⟩ := hN0
  have hal : Below wk4.heap.size wk4 (wk4.alloc (.cells #[.string yv0.d.id, .slice yv0.cvA yv0.d.cv.length yv0.cvc] 27)) := bal (Below.refl _ _) _
  have hX0 := PmO.new wk4 yv0 27
  have hN0 := hN0.next hal
  have Yv0 := Yv0.go hal
  have hb := bnext hb hal
  clear n0_0 n0_1
  clear hal
  have ⟨n0_0, n0_1⟩ := hN0
  have ⟨x0_0, x0_1⟩ := hX0
  go_wp2_with fail
  have hC := implPumpText_ds yv0 _ Yv0 (HA9.out.next hb)
  have hE : pumpTextR0 yv0.d = R0 := (by rw [HDv0.out, HR0.out])
  rw [hE] at hC
  clear hE
  refine hC.mono ?_
  rintro e wk5 ⟨rfl, hbs⟩
  clear hC
  have hN0 := hN0.next hbs
  have Yv0 := Yv0.go hbs
  have hX0 := hX0.next hbs
  clear x0_0 x0_1
  have hb := bnext hb hbs
  clear n0_0 n0_1
  clear hbs
  have ⟨n0_0, n0_1⟩ := hN0
  have ⟨x0_0, x0_1⟩ := hX0
  go_wp2_with fail
  have hdr : Below wk5.heap.size wk5 wk5.drew := below_drewN (Below.refl _ _) 1
  have hN0 := hN0.next hdr
  have Yv0 := Yv0.go hdr
  have hX0 := hX0.next hdr
  clear x0_0 x0_1
  have hb := bnext hb hdr
  clear n0_0 n0_1
  clear hdr
  have ⟨n0_0, n0_1⟩ := hN0
  have ⟨x0_0, x0_1⟩ := hX0
  go_region_held3 (fun w' => w'.cell? ⟨w.heap.size, 0, none⟩ = some (.string x0.d.id) ∧ w'.cell? ⟨w.heap.size, 1, none⟩ = some (.slice x0.cvA x0.d.cv.length x0.cvc) ∧ w'.cell? ⟨wk4.heap.size, 0, none⟩ = some (.string yv0.d.id) ∧ w'.cell? ⟨wk4.heap.size, 1, none⟩ = some (.slice yv0.cvA yv0.d.cv.length yv0.cvc)) (exact ⟨n0_0, n0_1, x0_0, x0_1⟩) (first | (go_at_call 7; refine (copyPm x0 _ ⟨HI0.out.go hb, HS0.out⟩).mono ?_; rintro e wr1 ⟨yt0, hdt0, rfl, Yt0, hbs⟩; have HDt0 := Lib.hid hdt0; clear hdt0; have hN0 := hN0.next hbs; have Yv0 := Yv0.go hbs; have hX0 := hX0.next hbs; have hb := bnext hb hbs; have ⟨n0_0, n0_1⟩ := hN0; have ⟨x0_0, x0_1⟩ := hX0) | (go_at_call 9; refine (eqPm_same yv0 yt0 _ (by rw [HDv0.out, HDt0.out]) Yv0.1 Yt0.1).mono ?_; rintro e wk6 ⟨rfl, hbs⟩; have hN0 := hN0.next hbs; have Yv0 := Yv0.go hbs; have hX0 := hX0.next hbs; have hb := bnext hb hbs; have ⟨n0_0, n0_1⟩ := hN0; have ⟨x0_0, x0_1⟩ := hX0))
  go_wp2
  go_ret
  exact ⟨rfl, hb⟩

theorem own : ownKnob Tryd.prog.godebug = none := by kernel_rfl
theorem laidOut : laidOutB Tryd.prog = true := by kernel_rfl

/-- A WORLD FOR THE WITNESS: the heap that the start-up code's own run leaves. -/
theorem laid_met (os : Os) : laidMet Tryd.prog Rows.fnExactPumpTextRow.laid ((World.doorLaid Tryd.prog 72 os).forCall (fun _ _ => 0) ⟨#[], #[.agg #[.string .empty, .slice none 0 0]], []⟩).memory :=
  laidMet_of_run' 8 (by kernel_rfl) (by kernel_rfl)
theorem reads (os : Os) {H : Type} (enc : TypeId × Value → H) : ∃ x places, DataW.whole enc Tryd.prog ((World.doorLaid Tryd.prog 72 os).forCall (fun _ _ => 0) ⟨#[], #[.agg #[.string .empty, .slice none 0 0]], []⟩).memory Tryd.f3.params.toList Rows.fnExactPumpTextSpec.vars false (#[.agg #[.string .empty, .slice none 0 0]] : Array Value).toList 8 = some (x, [], places) :=
  ⟨[.agg [.lit (.string []), .nil]], [], by kernel_rfl⟩

set_option maxRecDepth 100000 in
theorem lifted (os : Os) (started : os.Started) (H : Type) (enc : TypeId × Value → H) (F : Stop.Interp) :
    ReturnsInHanded {} Tryd.checked os 3 .any ((OpenSpec.ofChange Rows.fnExactPumpTextSpec).preRow enc Tryd.prog Tryd.f3 Rows.fnExactPumpTextRow.domain false Rows.fnExactPumpTextRow.laid) (((OpenSpec.ofChange Rows.fnExactPumpTextSpec).at F).post enc Tryd.prog Tryd.f3 false true false false) := by
  obtain ⟨x, places, hx⟩ := reads os enc
  refine returnsInHanded_of_row (C := Tryd.checked) (s := OpenSpec.ofChange Rows.fnExactPumpTextSpec) own started (by kernel_rfl) Tryd.func3
    (witness_row_atRef (enc := enc) (C := Tryd.checked) false (World.doorLaid Tryd.prog 72 os) #[.agg #[.string .empty, .slice none 0 0]] (rfl) (by kernel_rfl) (by kernel_rfl) (by kernel_rfl)
      (OpenSpec.preRow_of_cond 8 hx (by kernel_rfl) (fun k hk => by cases hk) (by kernel_rfl) (laid_met os))) ?_
  intro W base args ds gs before hval0 hW hcnd _ _ hLaid hShaped _
  have hL := laid_facts hLaid
  have hval : ∀ (j : Nat) t v, Tryd.f3.params[j]? = some t → args[j]? = some v → Value.okWide Tryd.prog W .any base t v := hval0
  have hW' := hW
  obtain ⟨p, q, hA0, hV, rfl, hfz, hnd⟩ := hW
  have hA : DataW.TrodAll enc Tryd.prog W 0 (fun _ => true) true Tryd.f3.params.toList args.toList ds p := hA0
  rw [Tryd.params3] at hA hval
  obtain ⟨v0, vs0, d0, ds0, p0, q0, hargs, rfl, rfl, h0, r0⟩ := trodAll_cons hA
  obtain ⟨rfl, rfl, rfl⟩ := trodAll_nil r0
  obtain rfl : args = #[v0] := by cases args; simp_all
  obtain ⟨rfl, rfl⟩ := trodVars_none hV
  have k0 := h0
  have lt0 : ∀ x ∈ p0, x.block < W.heap.size := by obtain ⟨m, hm⟩ := k0; exact DataW.trod_lt m _ _ _ hm
  obtain ⟨x0, rfl, w0⟩ := open_Pm (hval 0 24 v0 rfl rfl) h0
  clear hA0 hval0
  refine (walk x0 W w0 hL).mono fun e W' ⟨he, bel⟩ => ?_
  subst he
  exact ⟨_, rfl, _, _, _, [], _, [], hW', trodAll_mk1 (shut_bool Tryd.underlying4 _), (trodAll_cons_mk (Below.trod laidOut (by kernel_rfl) (of_decide_eq_true (by kernel_rfl)) k0 bel lt0) trodAll_mk0), rfl, bel.frame _, fun h => by cases h⟩

theorem said : Rows.FnExactPumpTextSaid :=
  OpenClaim.holds_of_cond 3 Tryd.f3 rfl rfl rfl rfl rfl rfl rfl ⟨rfl, rfl, rfl, rfl, rfl⟩ rfl rfl rfl rfl rfl (by kernel_rfl) Tryd.func3 (by kernel_rfl)
    (of_decide_eq_true (by kernel_rfl)) (by unfold Func.isWrapper; first | (rw [if_pos (by decide +kernel)]; kernel_rfl) | (rw [if_neg (by decide +kernel)]; exact ⟨rfl, rfl⟩))
    (fun os started H enc _ F => by rw [OpenClaim.pre_eq_preRow]; exact lifted os started H enc F)

theorem plain (f : FuncId) (fn : Func) (hf : Tryd.pinned.checked.prog.funcNamed "loop.example/g01011/laws.FnExactPumpText" = some f) (hfn : Tryd.pinned.checked.prog.funcs[f]? = some fn) :
    true = Tryd.pinned.checked.prog.looks [] ∧ ∀ (j : Nat) t, fn.params[j]? = some t → Tryd.pinned.checked.prog.wantsStandIn t = false := by
  obtain rfl : f = 3 := Option.some.inj ((show Tryd.prog.funcNamed "loop.example/g01011/laws.FnExactPumpText" = some 3 by kernel_rfl).symm.trans hf) |>.symm
  obtain rfl : fn = Tryd.f3 := (Option.some.inj (Tryd.func3.symm.trans hfn)).symm
  refine ⟨by kernel_rfl, fun j t ht => ?_⟩
  rw [Tryd.params3] at ht
  have hm : t ∈ [24] := by simpa using Array.mem_of_getElem? ht
  have hall : ([24].all fun u => !Tryd.prog.wantsStandIn u) = true := by kernel_rfl
  exact (show Tryd.prog.wantsStandIn t = false by simpa using List.all_eq_true.1 hall t hm)

theorem proved : Rows.FnExactPumpTextCardSaid :=
  Claim7.holds_tied_plain_at .later [] _ _ _ _ said (fun _ h => by cases h) (by kernel_rfl) (fun _ h => by cases h) fnExactPumpText_row_tie rfl ⟨rfl, rfl⟩ (by kernel_rfl) rfl plain (by kernel_rfl)
#print axioms proved
end Go.Proofs.YtkbkmpcdidhagabDoor.fnExactPumpText

