/-
  FnExactReadWave: for every input the law returns true and its arguments read as before. No condition.
-/
import Derived.Test.YtkbkmpcdidhagacDoorRp3
import Derived.Test.YtkbkmpcdidhagacDoorSp2
import Derived.Test.YtkbkmpcdidhagacDoorSp5
import Derived.Test.YtkbkmpcdidhagacDoorM2
import Derived.Test.YtkbkmpcdidhagacDoorGs
import Derived.Test.YtkbkmpcdidhagacDoorFl
import Derived.Test.YtkbkmpcdidhagacDoorL1
import Derived.Test.YtkbkmpcdidhagacDoorL0
import Derived.Test.YtkbkmpcdidhagacDoorCards
import Derived.Test.YtkbkmpcdidhagacDoorTie
import Derived.Test.YtkbkmpcdidhagacDoorG0
import Derived.Deep.DeepHandedRow
import Derived.Deep.DeepWitnessRowRef
import Derived.LaidMore
import Derived.Lay
import Derived.Lib.LaidTab
import Derived.ShutString
import Derived.ChangeOld
namespace Go.Proofs.YtkbkmpcdidhagacDoor.fnExactReadWave
open Go.ChangeShapes Go.WideShapes Go.ChangeAt Go.RowKit
open Go.ChangeMaps (open_string shut_string)
set_option linter.unusedVariables false

def Facts (w : World) : Prop := MaxVar w ∧ ErrVars w ∧ PowTab w
theorem laid_facts {W : World} (h : laidMetH Tryd.prog Rows.fnExactReadWaveRow.laid W) (hS : W.ShapedOpen Tryd.prog) : Facts W := by
  rw [MakeChecks.laidMetH_plain _ _ _ (by kernel_rfl)] at h
  exact ⟨maxVar_shaped hS, errVars_laid h.tail.tail.tail.tail, powTab_laid h.tail.tail⟩
set_option maxRecDepth 100000
set_option maxHeartbeats 1600000

theorem walk (a0 : ByteArray) (w : World) (w0 : a0.size ≤ maxLen) (hL : Facts w) :
    Calls Tryd.prog 4 #[.string a0] w fun e w' => e = .returned (.bool true) ∧ Below w.heap.size w w' := by
  have HA9 := Lib.hid hL
  clear hL
  have hsz0 : (a0.size : Int) ≤ 9223372036854775807 := by unfold maxLen at w0; omega
  have hb : Below w.heap.size w w := Below.refl _ _
  have hcur : w.heap.size ≤ w.heap.size := Nat.le_refl _
  by_cases hz0 : a0.size ≤ 1048576
  rotate_left
  · have hz0' : 1048576 < a0.size := by omega
    go_enter Tryd.func4, Tryd.ntmps4
    go_wp2
    go_ret
    exact ⟨rfl, hb⟩
  go_enter Tryd.func4, Tryd.ntmps4
  have hXs := readWaveX_short a0
  obtain ⟨X, hX⟩ : ∃ X, readWaveX a0 = X := ⟨_, rfl⟩
  obtain ⟨C, hC⟩ : ∃ C, readWaveC a0 = C := ⟨_, rfl⟩
  rw [hX] at hXs
  have HRX := Lib.hid hX
  have HRC := Lib.hid hC
  clear hX hC
  have hCC : (C != C) = false := by simp
  have hXm : X.length ≤ maxLen := by unfold maxLen; omega
  have hXi : X.length ≤ 9223372036854775807 := by omega
  go_wp2_with fail
  have hC := specReadWave_ic a0 w hz0
  rw [HRX.out, HRC.out] at hC
  refine hC.mono ?_
  rintro e wk1 ⟨Aw, cw, rfl, ho, hbs⟩
  clear hC
  have S2 := rowsF_owned ho
  have L2 := rowsF_lies ho
  clear ho
  have hb := bnext hb hbs
  have hcur := Nat.le_trans hcur hbs.size
  clear hbs
  have hch1 := hcur
  have hcur : wk1.heap.size ≤ wk1.heap.size := Nat.le_refl _
  go_wp2_with fail
  have hC := implReadWave_ic a0 _ hz0 (HA9.out.1.next hb) (HA9.out.2.1.next hb) (HA9.out.2.2.next hb)
  rw [HRX.out, HRC.out] at hC
  refine hC.mono ?_
  rintro e wk2 ⟨Ag, cg, rfl, OG, hbs⟩
  clear hC
  have S2 := S2.next hbs
  have hb := bnext hb hbs
  have hcur := Nat.le_trans hcur hbs.size
  clear hbs
  have hch2 := hcur
  have hcur : wk2.heap.size ≤ wk2.heap.size := Nat.le_refl _
  go_wp2_with fail
  refine (sameSps Ag Aw X.length cg cw X _ rfl hXm (rowsF_owned OG) S2).mono ?_
  rintro e wk3 ⟨rfl, hbs⟩
  have S2 := S2.next hbs
  have OG := rowsF_below OG hbs (Nat.le_refl _)
  have hb := bnext hb hbs
  have hcur := Nat.le_trans hcur hbs.size
  clear hbs
  go_wp2_with fail
  refine (markSps_any Ag cg X.length _ _ 1 _ (by omega) (by omega) OG).mono ?_
  rintro e wk4 ⟨rfl, OM, hg⟩
  have S2 := S2.keep (fun b off e => hg.block b (by have := L2 b off e; omega) (fun e2 => by have := (OG.lt b e2.symm).1; have := L2 b off e; omega))
  have hb := hb.grown hg (by omega) (fun b e => by have := (OG.lt b e).1; omega)
  have hcur := Nat.le_trans hcur hg.size
  have hneg : ¬ ((1 + 2 * (X.length : Int)) < 0) := by omega
  clear hg OG
  go_wp2_with fail
  refine (heldSps_any Ag cg X.length 1 _ (by omega) (by omega) (rowsF_owned OM)).mono ?_
  rintro e wk5 ⟨rfl, hbs⟩
  have S2 := S2.next hbs
  have OM := rowsF_below OM hbs (Nat.le_refl _)
  have hb := bnext hb hbs
  have hcur := Nat.le_trans hcur hbs.size
  clear hbs
  go_wp2_with fail
  have hC := implReadWave_ic a0 _ hz0 (HA9.out.1.next hb) (HA9.out.2.1.next hb) (HA9.out.2.2.next hb)
  rw [HRX.out, HRC.out] at hC
  refine hC.mono ?_
  rintro e wk6 ⟨Ah, ch, rfl, oh, hbs⟩
  clear hC
  have S3 := rowsF_owned oh
  clear oh
  have S2 := S2.next hbs
  have OM := rowsF_below OM hbs (Nat.le_refl _)
  have hb := bnext hb hbs
  have hcur := Nat.le_trans hcur hbs.size
  clear hbs
  go_wp2_with fail
  refine (sameSps Ah Aw X.length ch cw X _ rfl hXm S3 S2).mono ?_
  rintro e wk7 ⟨rfl, hbs⟩
  have S2 := S2.next hbs
  have OM := rowsF_below OM hbs (Nat.le_refl _)
  have S3 := S3.next hbs
  have hb := bnext hb hbs
  have hcur := Nat.le_trans hcur hbs.size
  clear hbs
  clear S3
  go_wp2_with fail
  refine (heldSps_any Ag cg X.length 1 _ (by omega) (by omega) (rowsF_owned OM)).mono ?_
  rintro e wk8 ⟨rfl, hbs⟩
  have S2 := S2.next hbs
  have OM := rowsF_below OM hbs (Nat.le_refl _)
  have hb := bnext hb hbs
  have hcur := Nat.le_trans hcur hbs.size
  clear hbs
  go_wp2
  go_ret
  exact ⟨rfl, hb⟩

theorem own : ownKnob Tryd.prog.godebug = none := by kernel_rfl
theorem laidOut : laidOutB Tryd.prog = true := by kernel_rfl

/-- A WORLD FOR THE WITNESS: the heap that the start-up code's own run leaves. -/
theorem laid_met (os : Os) : laidMet Tryd.prog Rows.fnExactReadWaveRow.laid ((World.laidAll Tryd.prog os Rows.fnExactReadWaveRow.laid).forCall (fun _ _ => 0) ⟨#[], #[.string .empty], []⟩).memory :=
  laidMet_laidAll _ (by kernel_rfl) (by kernel_rfl)
theorem reads (os : Os) {H : Type} (enc : TypeId × Value → H) : ∃ x places, DataW.whole enc Tryd.prog ((World.laidAll Tryd.prog os Rows.fnExactReadWaveRow.laid).forCall (fun _ _ => 0) ⟨#[], #[.string .empty], []⟩).memory Tryd.f4.params.toList Rows.fnExactReadWaveSpec.vars false (#[.string .empty] : Array Value).toList 8 = some (x, [], places) :=
  ⟨[.lit (.string [])], [], by kernel_rfl⟩

set_option maxRecDepth 100000 in
theorem lifted (os : Os) (started : os.Started) (H : Type) (enc : TypeId × Value → H) (F : Stop.Interp) :
    ReturnsInHanded {} Tryd.checked os 4 .any ((OpenSpec.ofChange Rows.fnExactReadWaveSpec).preRow enc Tryd.prog Tryd.f4 Rows.fnExactReadWaveRow.domain false Rows.fnExactReadWaveRow.laid) (((OpenSpec.ofChange Rows.fnExactReadWaveSpec).at F).post enc Tryd.prog Tryd.f4 false true false false) := by
  obtain ⟨x, places, hx⟩ := reads os enc
  refine returnsInHanded_of_row (C := Tryd.checked) (s := OpenSpec.ofChange Rows.fnExactReadWaveSpec) own started (by kernel_rfl) Tryd.func4
    (witness_row_atRef (enc := enc) (C := Tryd.checked) false (World.laidAll Tryd.prog os Rows.fnExactReadWaveRow.laid) #[.string .empty] (World.laidAll_os _ _ _) (by kernel_rfl) (by kernel_rfl) (by kernel_rfl)
      (OpenSpec.preRow_of_cond 8 hx (by kernel_rfl) (fun k hk => by cases hk) (by kernel_rfl) (laid_met os))) ?_
  intro W base args ds gs before hval0 hW hcnd _ _ hLaid hShaped _
  have hL := laid_facts hLaid hShaped
  have hval : ∀ (j : Nat) t v, Tryd.f4.params[j]? = some t → args[j]? = some v → Value.okWide Tryd.prog W .any base t v := hval0
  have hW' := hW
  obtain ⟨p, q, hA0, hV, rfl, hfz, hnd⟩ := hW
  have hA : DataW.TrodAll enc Tryd.prog W 0 (fun _ => true) true Tryd.f4.params.toList args.toList ds p := hA0
  rw [Tryd.params4] at hA hval
  obtain ⟨v0, vs0, d0, ds0, p0, q0, hargs, rfl, rfl, h0, r0⟩ := trodAll_cons hA
  obtain ⟨rfl, rfl, rfl⟩ := trodAll_nil r0
  obtain rfl : args = #[v0] := by cases args; simp_all
  obtain ⟨rfl, rfl⟩ := trodVars_none hV
  obtain ⟨a0, rfl, rfl, rfl, w0⟩ := open_string Tryd.underlying9 (hval 0 9 v0 rfl rfl) h0
  clear hA0 hval0
  refine (walk a0 W w0 hL).mono fun e W' ⟨he, bel⟩ => ?_
  subst he
  exact ⟨_, rfl, _, _, _, [], _, [], hW', trodAll_mk1 (shut_bool Tryd.underlying4 _), (trodAll_cons_mk (shut_string Tryd.underlying9 w0) trodAll_mk0), rfl, bel.frame _, fun h => by cases h⟩

theorem said : Rows.FnExactReadWaveSaid :=
  OpenClaim.holds_of_cond 4 Tryd.f4 rfl rfl rfl rfl rfl rfl rfl ⟨rfl, rfl, rfl, rfl, rfl⟩ rfl rfl rfl rfl rfl (by kernel_rfl) Tryd.func4 (by kernel_rfl)
    (of_decide_eq_true (by kernel_rfl)) (by unfold Func.isWrapper; first | (rw [if_pos (by decide +kernel)]; kernel_rfl) | (rw [if_neg (by decide +kernel)]; exact ⟨rfl, rfl⟩))
    (fun os started H enc _ F => by rw [OpenClaim.pre_eq_preRow]; exact lifted os started H enc F)

theorem plain (f : FuncId) (fn : Func) (hf : Tryd.pinned.checked.prog.funcNamed "loop.example/g01011/laws.FnExactReadWave" = some f) (hfn : Tryd.pinned.checked.prog.funcs[f]? = some fn) :
    true = Tryd.pinned.checked.prog.looks [] ∧ ∀ (j : Nat) t, fn.params[j]? = some t → Tryd.pinned.checked.prog.wantsStandIn t = false := by
  obtain rfl : f = 4 := Option.some.inj ((show Tryd.prog.funcNamed "loop.example/g01011/laws.FnExactReadWave" = some 4 by kernel_rfl).symm.trans hf) |>.symm
  obtain rfl : fn = Tryd.f4 := (Option.some.inj (Tryd.func4.symm.trans hfn)).symm
  refine ⟨by kernel_rfl, fun j t ht => ?_⟩
  rw [Tryd.params4] at ht
  have hm : t ∈ [9] := by simpa using Array.mem_of_getElem? ht
  have hall : ([9].all fun u => !Tryd.prog.wantsStandIn u) = true := by kernel_rfl
  exact (show Tryd.prog.wantsStandIn t = false by simpa using List.all_eq_true.1 hall t hm)

theorem proved : Rows.FnExactReadWaveCardSaid :=
  Claim7.holds_tied_plain_at .later [] _ _ _ _ said (fun _ h => by cases h) (by kernel_rfl) (fun _ h => by cases h) fnExactReadWave_row_tie rfl ⟨rfl, rfl⟩ (by kernel_rfl) rfl plain (by kernel_rfl)
#print axioms proved
end Go.Proofs.YtkbkmpcdidhagacDoor.fnExactReadWave

