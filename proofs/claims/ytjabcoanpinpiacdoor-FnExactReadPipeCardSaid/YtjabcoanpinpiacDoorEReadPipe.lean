/-
  FnExactReadPipe: for every input the law returns true and its arguments read as before. No condition.
-/
import Derived.Test.YtjabcoanpinpiacDoorT4
import Derived.Test.YtjabcoanpinpiacDoorEQ
import Derived.Test.YtjabcoanpinpiacDoorL1
import Derived.Test.YtjabcoanpinpiacDoorCards
import Derived.Test.YtjabcoanpinpiacDoorTie
import Derived.Test.YtjabcoanpinpiacDoorG0
import Derived.Deep.DeepHandedRow
import Derived.Deep.DeepWitnessRowRef
import Derived.LaidMore
import Derived.Lay
import Derived.Lib.LaidTab
import Derived.ShutString
import Derived.ChangeOld
namespace Go.Proofs.YtjabcoanpinpiacDoor.fnExactReadPipe
open Go.ChangeShapes Go.WideShapes Go.ChangeAt Go.RowKit
open Go.ChangeMaps (open_string shut_string)
set_option linter.unusedVariables false

def Facts (w : World) : Prop := MaxVar w ∧ ErrVars w ∧ PowTab w
theorem laid_facts {W : World} (h : laidMetH Tryd.prog Rows.fnExactReadPipeRow.laid W) (hS : W.ShapedOpen Tryd.prog) : Facts W := by
  rw [MakeChecks.laidMetH_plain _ _ _ (by kernel_rfl)] at h
  exact ⟨maxVar_shaped hS, errVars_laid h.tail.tail.tail.tail, powTab_laid h.tail.tail⟩
set_option maxRecDepth 100000

theorem walk (a0 : ByteArray) (w : World) (w0 : a0.size ≤ maxLen) (hL : Facts w) :
    Calls Tryd.prog 4 #[.string a0] w fun e w' => e = .returned (.bool true) ∧ Below w.heap.size w w' := by
  have hm : a0.size ≤ 9223372036854775807 := by unfold maxLen at w0; omega
  by_cases hz : a0.size ≤ 1048576
  · skip
    have hC1 := fun wx => specReadPipe_any a0 wx (by omega)
    have hC2 := fun wx hm hv ht => implReadPipe_any a0 wx (by omega) hm hv ht
    obtain ⟨i, f, t, L, d, s, hv⟩ := pipeV_form (cutId a0.data.toList) (readP a0.data.toList)
    rw [hv] at hC1 hC2
    clear hv
    generalize (readP a0.data.toList).isSome = q at *
    have HC1 := Lib.hid hC1
    have HC2 := Lib.hid hC2
    have hqq : (q != q) = false := by cases q <;> rfl
    clear hC1 hC2
    go_enter Tryd.func4, Tryd.ntmps4
    go_wp2_with fail
    refine (HC1.out _).mono ?_
    rintro e w1 ⟨rfl, hb1⟩
    have hq := PipeAt.new w1 i f t L d s 26
    have hc := bal hb1 (.cells #[.string i, .int .i64 f, .int .i64 t, .int .i64 L, .int .i64 d, .int .i64 s] 26)
    go_wp2_with fail
    refine (HC2.out _ (hL.1.next hc) (hL.2.1.next hc) (hL.2.2.next hc)).mono ?_
    rintro e w3 ⟨rfl, hb3⟩
    have hq3 := (hq.next hb3).alloc (.cells #[.string i, .int .i64 f, .int .i64 t, .int .i64 L, .int .i64 d, .int .i64 s] 26)
    have hr3 := PipeAt.new w3 i f t L d s 26
    have hb := bal (bnext hc hb3) (.cells #[.string i, .int .i64 f, .int .i64 t, .int .i64 L, .int .i64 d, .int .i64 s] 26)
    have ⟨p0, p1, p2, p3, p4, p5⟩ := hq3
    have ⟨r0, r1, r2, r3, r4, r5⟩ := hr3
    clear hq3 hr3 hb3 hq hc
    go_wp2_with ((go_at_call 11; refine (eqPipe_same _ _ _ _ _ _ _).mono ?_; rintro e w' ⟨rfl, hb'⟩; first | have hb := bnext hb hb' | have hb := bnext (bal hb _) hb' | have hb := bnext (bal (bal hb _) _) hb' | have hb := bnext (bal (bal (bal hb _) _) _) hb' | have hb := bnext (bal (bal (bal (bal hb _) _) _) _) hb' | have hb := bnext (bal (bal (bal (bal (bal hb _) _) _) _) _) hb'))
    go_ret
    first | exact ⟨rfl, hb⟩ | exact ⟨rfl, (bal hb _)⟩ | exact ⟨rfl, (bal (bal hb _) _)⟩ | exact ⟨rfl, (bal (bal (bal hb _) _) _)⟩ | exact ⟨rfl, (bal (bal (bal (bal hb _) _) _) _)⟩ | exact ⟨rfl, (bal (bal (bal (bal (bal hb _) _) _) _) _)⟩
  · have hz' : (1048576 : Int) < (a0.size : Int) := by omega
    go_enter Tryd.func4, Tryd.ntmps4
    go_wp2
    go_ret
    exact ⟨rfl, Below.refl _ _⟩

theorem own : ownKnob Tryd.prog.godebug = none := by kernel_rfl
theorem laidOut : laidOutB Tryd.prog = true := by kernel_rfl

/-- A WORLD FOR THE WITNESS: the heap that the start-up code's own run leaves. -/
theorem laid_met (os : Os) : laidMet Tryd.prog Rows.fnExactReadPipeRow.laid ((World.laidAll Tryd.prog os Rows.fnExactReadPipeRow.laid).forCall (fun _ _ => 0) ⟨#[], #[.string .empty], []⟩).memory :=
  laidMet_laidAll _ (by kernel_rfl) (by kernel_rfl)
theorem reads (os : Os) {H : Type} (enc : TypeId × Value → H) : ∃ x places, DataW.whole enc Tryd.prog ((World.laidAll Tryd.prog os Rows.fnExactReadPipeRow.laid).forCall (fun _ _ => 0) ⟨#[], #[.string .empty], []⟩).memory Tryd.f4.params.toList Rows.fnExactReadPipeSpec.vars false (#[.string .empty] : Array Value).toList 8 = some (x, [], places) :=
  ⟨[.lit (.string [])], [], by kernel_rfl⟩

set_option maxRecDepth 100000 in
theorem lifted (os : Os) (started : os.Started) (H : Type) (enc : TypeId × Value → H) (F : Stop.Interp) :
    ReturnsInHanded {} Tryd.checked os 4 .any ((OpenSpec.ofChange Rows.fnExactReadPipeSpec).preRow enc Tryd.prog Tryd.f4 Rows.fnExactReadPipeRow.domain false Rows.fnExactReadPipeRow.laid) (((OpenSpec.ofChange Rows.fnExactReadPipeSpec).at F).post enc Tryd.prog Tryd.f4 false true false false) := by
  obtain ⟨x, places, hx⟩ := reads os enc
  refine returnsInHanded_of_row (C := Tryd.checked) (s := OpenSpec.ofChange Rows.fnExactReadPipeSpec) own started (by kernel_rfl) Tryd.func4
    (witness_row_atRef (enc := enc) (C := Tryd.checked) false (World.laidAll Tryd.prog os Rows.fnExactReadPipeRow.laid) #[.string .empty] (World.laidAll_os _ _ _) (by kernel_rfl) (by kernel_rfl) (by kernel_rfl)
      (OpenSpec.preRow_of_cond 8 hx (by kernel_rfl) (fun k hk => by cases hk) (by kernel_rfl) (laid_met os))) ?_
  intro W base args ds gs before hval0 hW hcnd _ _ hLaid hShaped _
  have hL := laid_facts hLaid hShaped
  have hval : ∀ (j : Nat) t v, Tryd.f4.params[j]? = some t → args[j]? = some v → Value.okWide Tryd.prog W .any base t v := hval0
  have hW' := hW
  obtain ⟨p, q, hA0, hV, rfl, hfz, hnd⟩ := hW
  have hA : DataW.TrodAll enc Tryd.prog W 0 (fun _ => true) true Tryd.f4.params.toList args.toList ds p := hA0
  rw [Tryd.params4] at hA hval
  obtain ⟨v0, vs0, d0, ds0, p0, q0, hargs, rfl, rfl, h0, r0⟩ := trodAll_cons hA
  obtain ⟨rfl, rfl, rfl⟩ := trodAll_nil r0
  obtain rfl : args = #[v0] := by cases args; simp_all
  obtain ⟨rfl, rfl⟩ := trodVars_none hV
  obtain ⟨a0, rfl, rfl, rfl, w0⟩ := open_string Tryd.underlying9 (hval 0 9 v0 rfl rfl) h0
  clear hA0 hval0
  refine (walk a0 W w0 hL).mono fun e W' ⟨he, bel⟩ => ?_
  subst he
  exact ⟨_, rfl, _, _, _, [], _, [], hW', trodAll_mk1 (shut_bool Tryd.underlying4 _), (trodAll_cons_mk (shut_string Tryd.underlying9 w0) trodAll_mk0), rfl, bel.frame _, fun h => by cases h⟩

theorem said : Rows.FnExactReadPipeSaid :=
  OpenClaim.holds_of_cond 4 Tryd.f4 rfl rfl rfl rfl rfl rfl rfl ⟨rfl, rfl, rfl, rfl, rfl⟩ rfl rfl rfl rfl rfl (by kernel_rfl) Tryd.func4 (by kernel_rfl)
    (of_decide_eq_true (by kernel_rfl)) (by unfold Func.isWrapper; first | (rw [if_pos (by decide +kernel)]; kernel_rfl) | (rw [if_neg (by decide +kernel)]; exact ⟨rfl, rfl⟩))
    (fun os started H enc _ F => by rw [OpenClaim.pre_eq_preRow]; exact lifted os started H enc F)

theorem plain (f : FuncId) (fn : Func) (hf : Tryd.pinned.checked.prog.funcNamed "loop.example/g01011/laws.FnExactReadPipe" = some f) (hfn : Tryd.pinned.checked.prog.funcs[f]? = some fn) :
    true = Tryd.pinned.checked.prog.looks [] ∧ ∀ (j : Nat) t, fn.params[j]? = some t → Tryd.pinned.checked.prog.wantsStandIn t = false := by
  obtain rfl : f = 4 := Option.some.inj ((show Tryd.prog.funcNamed "loop.example/g01011/laws.FnExactReadPipe" = some 4 by kernel_rfl).symm.trans hf) |>.symm
  obtain rfl : fn = Tryd.f4 := (Option.some.inj (Tryd.func4.symm.trans hfn)).symm
  refine ⟨by kernel_rfl, fun j t ht => ?_⟩
  rw [Tryd.params4] at ht
  have hm : t ∈ [9] := by simpa using Array.mem_of_getElem? ht
  have hall : ([9].all fun u => !Tryd.prog.wantsStandIn u) = true := by kernel_rfl
  exact (show Tryd.prog.wantsStandIn t = false by simpa using List.all_eq_true.1 hall t hm)

theorem proved : Rows.FnExactReadPipeCardSaid :=
  Claim7.holds_tied_plain_at .later [] _ _ _ _ said (fun _ h => by cases h) (by kernel_rfl) (fun _ h => by cases h) fnExactReadPipe_row_tie rfl ⟨rfl, rfl⟩ (by kernel_rfl) rfl plain (by kernel_rfl)
#print axioms proved
end Go.Proofs.YtjabcoanpinpiacDoor.fnExactReadPipe

