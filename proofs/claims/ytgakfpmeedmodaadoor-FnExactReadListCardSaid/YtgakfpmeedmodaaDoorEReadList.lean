/-
  FnExactReadList: for every input the law returns true and its arguments read as before. No condition.
-/
import Derived.Test.YtgakfpmeedmodaaDoorR3
import Derived.Test.YtgakfpmeedmodaaDoorL1
import Derived.Test.YtgakfpmeedmodaaDoorCards
import Derived.Test.YtgakfpmeedmodaaDoorTie
import Derived.Test.YtgakfpmeedmodaaDoorG0
import Derived.Deep.DeepHandedRow
import Derived.Deep.DeepWitnessRowRef
import Derived.LaidMore
import Derived.Lay
import Derived.Lib.LaidTab
import Derived.ShutString
import Derived.ChangeOld
namespace Go.Proofs.YtgakfpmeedmodaaDoor.fnExactReadList
open Go.ChangeShapes Go.WideShapes Go.ChangeAt Go.RowKit
open Go.ChangeMaps (open_string shut_string)
set_option linter.unusedVariables false

def Facts (w : World) : Prop := MaxVar w ∧ ErrVars w ∧ PowTab w
theorem laid_facts {W : World} (h : laidMetH Tryd.prog Rows.fnExactReadListRow.laid W) (hS : W.ShapedOpen Tryd.prog) : Facts W := by
  rw [MakeChecks.laidMetH_plain _ _ _ (by kernel_rfl)] at h
  exact ⟨maxVar_shaped hS, errVars_laid h.tail.tail.tail.tail, powTab_laid h.tail.tail⟩
theorem Facts.next {w w' : World} (h : Facts w) (hb : Below w.heap.size w w') : Facts w' := ⟨h.1.next hb, h.2.1.next hb, h.2.2.next hb⟩
theorem readL_bd (l : List UInt8) : ((readL l).getD []).length ≤ 64 := by
  unfold readL
  split
  · exact Nat.zero_le _
  · split
    · rename_i h
      simpa using h.1
    · exact Nat.zero_le _

theorem walk (a0 : ByteArray) (w : World) (w0 : a0.size ≤ maxLen) (hL : Facts w) :
    Calls Tryd.prog 7 #[.string a0] w fun e w' => e = .returned (.bool true) ∧ Below w.heap.size w w' := by
  have hm : a0.size ≤ 9223372036854775807 := by unfold maxLen at w0; omega
  by_cases hz : a0.size ≤ 1048576
  · have hI := fun wx (h : Facts wx) => implReadList_any a0 wx hz h.1 h.2.1 h.2.2
    have hS := fun wx => specReadList_any a0 wx hz
    unfold RetList at hI hS
    have hX := readL_bd a0.data.toList
    generalize (readL a0.data.toList).getD [] = X at *
    generalize (readL a0.data.toList).isSome = bb at *
    have HI := Lib.hid hI
    have HS := Lib.hid hS
    clear hI hS
    go_enter Tryd.func7, Tryd.ntmps7
    go_wp2_with fail
    refine (HS.out _).mono ?_
    rintro e w1 ⟨A, c, rfl, ho1, hb1⟩
    have hx := owns_max ho1
    go_wp2_with fail
    refine (HI.out _ (hL.next hb1)).mono ?_
    rintro e w2 ⟨B, d, rfl, ho2, hb2⟩
    have hb02 := bnext hb1 hb2
    have ho1' := owns_below ho1 hb2 (Nat.le_refl _)
    go_wp2_with fail
    refine (eqInts_same B A d c X _ hx (owns_cells ho2) (owns_cells ho1')).mono ?_
    rintro e w3 ⟨rfl, ⟨k1, rfl⟩⟩
    go_wp2_with fail
    have hc2 : (w2.drewN k1).ownsRow w1.heap.size 2 1 (.slice B X.length d) X.length (intsV X) := ho2
    refine (markInts_any B d X.length w1.heap.size (intsV X) 1 _ (by omega) (by omega) hc2).mono ?_
    rintro e w4 ⟨rfl, ho4, hg4⟩
    have hb24 := grown_old (below_drewN hb02 k1) hg4 hc2 hb1.size
    have ho1c : (w2.drewN k1).ownsRow w.heap.size 2 1 (.slice A X.length c) X.length (intsV X) := ho1'
    have ho14 := owns_kept ho1c hg4 (owns_lies ho1) hc2
    clear hc2 ho1c
    go_wp2_with fail
    refine (heldInts_any B d X.length 1 _ (by omega) (by omega) hx (owns_cells ho4)).mono ?_
    rintro e w5 ⟨rfl, ⟨k2, rfl⟩⟩
    have hneg : ¬ (1 + (X.length : Int) < 0) := by omega
    have hb25 : Below w.heap.size w (w4.drewN k2) := below_drewN hb24 k2
    go_wp2_with fail
    refine (HI.out _ (hL.next hb25)).mono ?_
    rintro e w6 ⟨C, f, rfl, ho6, hb6⟩
    have ho15 : (w4.drewN k2).ownsRow w.heap.size 2 1 (.slice A X.length c) X.length (intsV X) := ho14
    have ho45 : (w4.drewN k2).ownsRow w1.heap.size 2 1 (.slice B X.length d) X.length (marksI 1 X.length) := ho4
    have ho46 := owns_below ho45 hb6 (Nat.le_refl _)
    have ho16 := owns_below ho15 hb6 (Nat.le_refl _)
    go_wp2_with fail
    refine (eqInts_same C A f c X _ hx (owns_cells ho6) (owns_cells ho16)).mono ?_
    rintro e w7 ⟨rfl, ⟨k3, rfl⟩⟩
    go_wp2_with fail
    have ho47 : (w6.drewN k3).ownsRow w1.heap.size 2 1 (.slice B X.length d) X.length (marksI 1 X.length) := ho46
    refine (heldInts_any B d X.length 1 _ (by omega) (by omega) hx (owns_cells ho47)).mono ?_
    rintro e w8 ⟨rfl, ⟨k4, rfl⟩⟩
    go_wp2
    go_ret
    exact ⟨rfl, below_drewN (bnext hb25 hb6) _⟩
  · go_enter Tryd.func7, Tryd.ntmps7
    go_wp2
    go_ret
    exact ⟨rfl, Below.refl _ _⟩

theorem own : ownKnob Tryd.prog.godebug = none := by kernel_rfl
theorem laidOut : laidOutB Tryd.prog = true := by kernel_rfl

/-- A WORLD FOR THE WITNESS: the heap that the start-up code's own run leaves. -/
theorem laid_met (os : Os) : laidMet Tryd.prog Rows.fnExactReadListRow.laid ((World.laidAll Tryd.prog os Rows.fnExactReadListRow.laid).forCall (fun _ _ => 0) ⟨#[], #[.string .empty], []⟩).memory :=
  laidMet_laidAll _ (by kernel_rfl) (by kernel_rfl)
theorem reads (os : Os) {H : Type} (enc : TypeId × Value → H) : ∃ x places, DataW.whole enc Tryd.prog ((World.laidAll Tryd.prog os Rows.fnExactReadListRow.laid).forCall (fun _ _ => 0) ⟨#[], #[.string .empty], []⟩).memory Tryd.f7.params.toList Rows.fnExactReadListSpec.vars false (#[.string .empty] : Array Value).toList 8 = some (x, [], places) :=
  ⟨[.lit (.string [])], [], by kernel_rfl⟩

set_option maxRecDepth 100000 in
theorem lifted (os : Os) (started : os.Started) (H : Type) (enc : TypeId × Value → H) (F : Stop.Interp) :
    ReturnsInHanded {} Tryd.checked os 7 .any ((OpenSpec.ofChange Rows.fnExactReadListSpec).preRow enc Tryd.prog Tryd.f7 Rows.fnExactReadListRow.domain false Rows.fnExactReadListRow.laid) (((OpenSpec.ofChange Rows.fnExactReadListSpec).at F).post enc Tryd.prog Tryd.f7 false true false false) := by
  obtain ⟨x, places, hx⟩ := reads os enc
  refine returnsInHanded_of_row (C := Tryd.checked) (s := OpenSpec.ofChange Rows.fnExactReadListSpec) own started (by kernel_rfl) Tryd.func7
    (witness_row_atRef (enc := enc) (C := Tryd.checked) false (World.laidAll Tryd.prog os Rows.fnExactReadListRow.laid) #[.string .empty] (World.laidAll_os _ _ _) (by kernel_rfl) (by kernel_rfl) (by kernel_rfl)
      (OpenSpec.preRow_of_cond 8 hx (by kernel_rfl) (fun k hk => by cases hk) (by kernel_rfl) (laid_met os))) ?_
  intro W base args ds gs before hval0 hW hcnd _ _ hLaid hShaped _
  have hL := laid_facts hLaid hShaped
  have hval : ∀ (j : Nat) t v, Tryd.f7.params[j]? = some t → args[j]? = some v → Value.okWide Tryd.prog W .any base t v := hval0
  have hW' := hW
  obtain ⟨p, q, hA0, hV, rfl, hfz, hnd⟩ := hW
  have hA : DataW.TrodAll enc Tryd.prog W 0 (fun _ => true) true Tryd.f7.params.toList args.toList ds p := hA0
  rw [Tryd.params7] at hA hval
  obtain ⟨v0, vs0, d0, ds0, p0, q0, hargs, rfl, rfl, h0, r0⟩ := trodAll_cons hA
  obtain ⟨rfl, rfl, rfl⟩ := trodAll_nil r0
  obtain rfl : args = #[v0] := by cases args; simp_all
  obtain ⟨rfl, rfl⟩ := trodVars_none hV
  obtain ⟨a0, rfl, rfl, rfl, w0⟩ := open_string Tryd.underlying9 (hval 0 9 v0 rfl rfl) h0
  clear hA0 hval0
  refine (walk a0 W w0 hL).mono fun e W' ⟨he, bel⟩ => ?_
  subst he
  exact ⟨_, rfl, _, _, _, [], _, [], hW', trodAll_mk1 (shut_bool Tryd.underlying4 _), (trodAll_cons_mk (shut_string Tryd.underlying9 w0) trodAll_mk0), rfl, bel.frame _, fun h => by cases h⟩

theorem said : Rows.FnExactReadListSaid :=
  OpenClaim.holds_of_cond 7 Tryd.f7 rfl rfl rfl rfl rfl rfl rfl ⟨rfl, rfl, rfl, rfl, rfl⟩ rfl rfl rfl rfl rfl (by kernel_rfl) Tryd.func7 (by kernel_rfl)
    (of_decide_eq_true (by kernel_rfl)) (by unfold Func.isWrapper; first | (rw [if_pos (by decide +kernel)]; kernel_rfl) | (rw [if_neg (by decide +kernel)]; exact ⟨rfl, rfl⟩))
    (fun os started H enc _ F => by rw [OpenClaim.pre_eq_preRow]; exact lifted os started H enc F)

theorem plain (f : FuncId) (fn : Func) (hf : Tryd.pinned.checked.prog.funcNamed "loop.example/g01011/laws.FnExactReadList" = some f) (hfn : Tryd.pinned.checked.prog.funcs[f]? = some fn) :
    true = Tryd.pinned.checked.prog.looks [] ∧ ∀ (j : Nat) t, fn.params[j]? = some t → Tryd.pinned.checked.prog.wantsStandIn t = false := by
  obtain rfl : f = 7 := Option.some.inj ((show Tryd.prog.funcNamed "loop.example/g01011/laws.FnExactReadList" = some 7 by kernel_rfl).symm.trans hf) |>.symm
  obtain rfl : fn = Tryd.f7 := (Option.some.inj (Tryd.func7.symm.trans hfn)).symm
  refine ⟨by kernel_rfl, fun j t ht => ?_⟩
  rw [Tryd.params7] at ht
  have hm : t ∈ [9] := by simpa using Array.mem_of_getElem? ht
  have hall : ([9].all fun u => !Tryd.prog.wantsStandIn u) = true := by kernel_rfl
  exact (show Tryd.prog.wantsStandIn t = false by simpa using List.all_eq_true.1 hall t hm)

theorem proved : Rows.FnExactReadListCardSaid :=
  Claim7.holds_tied_plain_at .later [] _ _ _ _ said (fun _ h => by cases h) (by kernel_rfl) (fun _ h => by cases h) fnExactReadList_row_tie rfl ⟨rfl, rfl⟩ (by kernel_rfl) rfl plain (by kernel_rfl)
#print axioms proved
end Go.Proofs.YtgakfpmeedmodaaDoor.fnExactReadList

