/-
  FnExactWaveText: for every input the law returns true and its arguments read as before. No condition.
-/
import Derived.Test.YtkbkmpcdidhagacDoorWt2
import Derived.Test.YtkbkmpcdidhagacDoorSp1
import Derived.Test.YtkbkmpcdidhagacDoorSp2
import Derived.Test.YtkbkmpcdidhagacDoorM2
import Derived.Test.YtkbkmpcdidhagacDoorGs
import Derived.Test.YtkbkmpcdidhagacDoorFl
import Derived.Test.YtkbkmpcdidhagacDoorL1
import Derived.Test.YtkbkmpcdidhagacDoorCards
import Derived.Test.YtkbkmpcdidhagacDoorTie
import Derived.Test.YtkbkmpcdidhagacDoorG0
import Derived.Deep.DeepHandedRow
import Derived.Deep.DeepWitnessRowRef
import Derived.LaidMore
import Derived.Lay
import Derived.Lib.LaidTab
import Derived.ShutString
import Derived.ChangeOld
namespace Go.Proofs.YtkbkmpcdidhagacDoor.fnExactWaveText
open Go.ChangeShapes Go.WideShapes Go.ChangeAt Go.RowKit
open Go.ChangeMaps (open_string shut_string)
set_option linter.unusedVariables false

set_option maxRecDepth 100000
set_option maxHeartbeats 1600000
theorem laid_facts {W : World} (h : laidMetH Tryd.prog Rows.fnExactWaveTextRow.laid W) : PowTab W := by
  rw [MakeChecks.laidMetH_plain _ _ _ (by kernel_rfl)] at h
  exact powTab_laid h.tail.tail


theorem walk (A0 : Option Addr) (n0 c0 : Nat) (xs0 : List Sp) (w : World) (w0 : SpsIn w A0 n0 xs0) (hL : PowTab w) :
    Calls Tryd.prog 3 #[.slice A0 n0 c0] w fun e w' => e = .returned (.bool true) ∧ Below w.heap.size w w' := by
  have HA9 := Lib.hid hL
  clear hL
  have HI0 := Lib.hid w0
  clear w0
  have hb : Below w.heap.size w w := Below.refl _ _
  go_enter Tryd.func3, Tryd.ntmps3
  go_wp2_with fail
  refine (szSps_any A0 n0 c0 xs0 1048576 _ (by omega) (by omega) (HI0.out.go hb)).mono ?_
  rintro e wk1 ⟨r0, rfl, hr, hbs⟩
  have hb := bnext hb hbs
  clear hbs
  rcases hr with rfl | ⟨r0_0, r0_1⟩
  · go_wp2
    go_ret
    exact ⟨rfl, hb⟩
  have hn0 : n0 ≤ 1048576 := by omega
  obtain ⟨R0, hR0⟩ : ∃ R, waveTextR0 xs0 = R := ⟨_, rfl⟩
  have HR0 := Lib.hid hR0
  clear hR0
  go_wp2_with fail
  refine (copySps A0 n0 c0 xs0 _ ⟨HI0.out.go hb, hn0⟩).mono ?_
  rintro e wk2 ⟨Au0, cu0, rfl, Ou0, Yu0, hbs⟩
  clear Ou0
  have hb := bnext hb hbs
  clear hbs
  go_wp2_with fail
  have hC := specWaveText_ds Au0 n0 cu0 xs0 _ Yu0
  rw [HR0.out] at hC
  refine hC.mono ?_
  rintro e wk3 ⟨rfl, hbs⟩
  clear hC
  clear Yu0
  have hb := bnext hb hbs
  clear hbs
  go_wp2_with fail
  refine (copySps A0 n0 c0 xs0 _ ⟨HI0.out.go hb, hn0⟩).mono ?_
  rintro e wk4 ⟨Av0, cv0, rfl, Ov0, Yv0, hbs⟩
  clear Ov0
  have hb := bnext hb hbs
  clear hbs
  go_wp2_with fail
  have hC := implWaveText_ds Av0 n0 cv0 xs0 _ Yv0 (HA9.out.next hb)
  rw [HR0.out] at hC
  refine hC.mono ?_
  rintro e wk5 ⟨rfl, hbs⟩
  clear hC
  have Yv0 := Yv0.go hbs
  have hb := bnext hb hbs
  clear hbs
  go_wp2_with fail
  refine (copySps A0 n0 c0 xs0 _ ⟨HI0.out.go hb, hn0⟩).mono ?_
  rintro e wk6 ⟨At0, ct0, rfl, Ot0, Yt0, hbs⟩
  clear Ot0
  have Yv0 := Yv0.go hbs
  have hb := bnext hb hbs
  clear hbs
  go_wp2_with fail
  refine (sameSps Av0 At0 n0 cv0 ct0 xs0 _ Yv0.1.1 Yv0.1.2.1 Yv0.cells Yt0.cells).mono ?_
  rintro e wk7 ⟨rfl, hbs⟩
  clear Yt0
  have Yv0 := Yv0.go hbs
  have hb := bnext hb hbs
  clear hbs
  go_wp2
  go_ret
  exact ⟨rfl, hb⟩

theorem own : ownKnob Tryd.prog.godebug = none := by kernel_rfl
theorem laidOut : laidOutB Tryd.prog = true := by kernel_rfl

/-- A WORLD FOR THE WITNESS: the heap that the start-up code's own run leaves. -/
theorem laid_met (os : Os) : laidMet Tryd.prog Rows.fnExactWaveTextRow.laid ((World.doorLaid Tryd.prog 72 os).forCall (fun _ _ => 0) ⟨#[], #[.slice none 0 0], []⟩).memory :=
  laidMet_of_run' 8 (by kernel_rfl) (by kernel_rfl)
theorem reads (os : Os) {H : Type} (enc : TypeId × Value → H) : ∃ x places, DataW.whole enc Tryd.prog ((World.doorLaid Tryd.prog 72 os).forCall (fun _ _ => 0) ⟨#[], #[.slice none 0 0], []⟩).memory Tryd.f3.params.toList Rows.fnExactWaveTextSpec.vars false (#[.slice none 0 0] : Array Value).toList 8 = some (x, [], places) :=
  ⟨[.nil], [], by kernel_rfl⟩

set_option maxRecDepth 100000 in
theorem lifted (os : Os) (started : os.Started) (H : Type) (enc : TypeId × Value → H) (F : Stop.Interp) :
    ReturnsInHanded {} Tryd.checked os 3 .any ((OpenSpec.ofChange Rows.fnExactWaveTextSpec).preRow enc Tryd.prog Tryd.f3 Rows.fnExactWaveTextRow.domain false Rows.fnExactWaveTextRow.laid) (((OpenSpec.ofChange Rows.fnExactWaveTextSpec).at F).post enc Tryd.prog Tryd.f3 false true false false) := by
  obtain ⟨x, places, hx⟩ := reads os enc
  refine returnsInHanded_of_row (C := Tryd.checked) (s := OpenSpec.ofChange Rows.fnExactWaveTextSpec) own started (by kernel_rfl) Tryd.func3
    (witness_row_atRef (enc := enc) (C := Tryd.checked) false (World.doorLaid Tryd.prog 72 os) #[.slice none 0 0] (rfl) (by kernel_rfl) (by kernel_rfl) (by kernel_rfl)
      (OpenSpec.preRow_of_cond 8 hx (by kernel_rfl) (fun k hk => by cases hk) (by kernel_rfl) (laid_met os))) ?_
  intro W base args ds gs before hval0 hW hcnd _ _ hLaid hShaped _
  have hL := laid_facts hLaid
  have hval : ∀ (j : Nat) t v, Tryd.f3.params[j]? = some t → args[j]? = some v → Value.okWide Tryd.prog W .any base t v := hval0
  have hW' := hW
  obtain ⟨p, q, hA0, hV, rfl, hfz, hnd⟩ := hW
  have hA : DataW.TrodAll enc Tryd.prog W 0 (fun _ => true) true Tryd.f3.params.toList args.toList ds p := hA0
  rw [Tryd.params3] at hA hval
  obtain ⟨v0, vs0, d0, ds0, p0, q0, hargs, rfl, rfl, h0, r0⟩ := trodAll_cons hA
  obtain ⟨rfl, rfl, rfl⟩ := trodAll_nil r0
  obtain rfl : args = #[v0] := by cases args; simp_all
  obtain ⟨rfl, rfl⟩ := trodVars_none hV
  have k0 := h0
  have lt0 : ∀ x ∈ p0, x.block < W.heap.size := by obtain ⟨m, hm⟩ := k0; exact DataW.trod_lt m _ _ _ hm
  obtain ⟨A0, n0, c0, xs0, rfl, w0⟩ := open_Sps (hval 0 22 v0 rfl rfl) h0
  clear hA0 hval0
  refine (walk A0 n0 c0 xs0 W w0 hL).mono fun e W' ⟨he, bel⟩ => ?_
  subst he
  exact ⟨_, rfl, _, _, _, [], _, [], hW', trodAll_mk1 (shut_bool Tryd.underlying4 _), (trodAll_cons_mk (Below.trod laidOut (by kernel_rfl) (of_decide_eq_true (by kernel_rfl)) k0 bel lt0) trodAll_mk0), rfl, bel.frame _, fun h => by cases h⟩

theorem said : Rows.FnExactWaveTextSaid :=
  OpenClaim.holds_of_cond 3 Tryd.f3 rfl rfl rfl rfl rfl rfl rfl ⟨rfl, rfl, rfl, rfl, rfl⟩ rfl rfl rfl rfl rfl (by kernel_rfl) Tryd.func3 (by kernel_rfl)
    (of_decide_eq_true (by kernel_rfl)) (by unfold Func.isWrapper; first | (rw [if_pos (by decide +kernel)]; kernel_rfl) | (rw [if_neg (by decide +kernel)]; exact ⟨rfl, rfl⟩))
    (fun os started H enc _ F => by rw [OpenClaim.pre_eq_preRow]; exact lifted os started H enc F)

theorem plain (f : FuncId) (fn : Func) (hf : Tryd.pinned.checked.prog.funcNamed "loop.example/g01011/laws.FnExactWaveText" = some f) (hfn : Tryd.pinned.checked.prog.funcs[f]? = some fn) :
    true = Tryd.pinned.checked.prog.looks [] ∧ ∀ (j : Nat) t, fn.params[j]? = some t → Tryd.pinned.checked.prog.wantsStandIn t = false := by
  obtain rfl : f = 3 := Option.some.inj ((show Tryd.prog.funcNamed "loop.example/g01011/laws.FnExactWaveText" = some 3 by kernel_rfl).symm.trans hf) |>.symm
  obtain rfl : fn = Tryd.f3 := (Option.some.inj (Tryd.func3.symm.trans hfn)).symm
  refine ⟨by kernel_rfl, fun j t ht => ?_⟩
  rw [Tryd.params3] at ht
  have hm : t ∈ [22] := by simpa using Array.mem_of_getElem? ht
  have hall : ([22].all fun u => !Tryd.prog.wantsStandIn u) = true := by kernel_rfl
  exact (show Tryd.prog.wantsStandIn t = false by simpa using List.all_eq_true.1 hall t hm)

theorem proved : Rows.FnExactWaveTextCardSaid :=
  Claim7.holds_tied_plain_at .later [] _ _ _ _ said (fun _ h => by cases h) (by kernel_rfl) (fun _ h => by cases h) fnExactWaveText_row_tie rfl ⟨rfl, rfl⟩ (by kernel_rfl) rfl plain (by kernel_rfl)
#print axioms proved
end Go.Proofs.YtkbkmpcdidhagacDoor.fnExactWaveText

