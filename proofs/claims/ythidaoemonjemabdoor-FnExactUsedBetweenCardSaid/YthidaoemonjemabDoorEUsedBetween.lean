/-
  FnExactUsedBetween: for every input the law returns true and its arguments read as before. No condition.
-/
import Derived.Test.YthidaoemonjemabDoorMb0
import Derived.Test.YthidaoemonjemabDoorRg1
import Derived.Test.YthidaoemonjemabDoorRg2
import Derived.Test.YthidaoemonjemabDoorM2
import Derived.Test.YthidaoemonjemabDoorGs
import Derived.Test.YthidaoemonjemabDoorFl
import Derived.Stop.LaidErr
import Derived.MakeChecks
import Derived.RowKitTokens
import Derived.ChangeVars
import Derived.Test.YthidaoemonjemabDoorCards
import Derived.Test.YthidaoemonjemabDoorTie
import Derived.Test.YthidaoemonjemabDoorG0
import Derived.Deep.DeepHandedRow
import Derived.Deep.DeepWitnessRowRef
import Derived.LaidMore
import Derived.Lay
import Derived.Lib.LaidTab
import Derived.ShutString
import Derived.ChangeOld
namespace Go.Proofs.YthidaoemonjemabDoor.fnExactUsedBetween
open Go.ChangeShapes Go.WideShapes Go.ChangeAt Go.RowKit
open Go.ChangeMaps (open_string shut_string)
set_option linter.unusedVariables false

set_option maxRecDepth 100000
set_option maxHeartbeats 1600000
theorem var_below9 {P : Program} {B g : Nat} {W W' : World} {n : String} {cs : Array Value} (h : Below B W W') (hg : P.globalNamed n = some g) (hgB : g < B) (hv : W.var? P n = some cs) : W'.var? P n = some cs := by
  unfold World.var? at hv ⊢
  simp only [hg, Option.bind_some] at hv ⊢
  rw [h.block g hgB]
  exact hv
theorem gOut : Tryd.prog.globalNamed "loop.example/g01011/impl.errOutside" = some 0 := by kernel_rfl
theorem tOut : (Tryd.prog.globals[0]?).map (·.type) = some 71 := by kernel_rfl
theorem rowErr (u : TypeId) (h : Tryd.prog.typeName? 3 u = some "*errors.errorString") : u = 177 :=
  typeName_ptr_named (nm := "errors.errorString") (by kernel_rfl) (by kernel_rfl) (by decide) u h
theorem cErr : Tryd.prog.cellsOf 179 = 1 := by kernel_rfl
theorem cStr : Tryd.prog.cellsOf 9 = 1 := by kernel_rfl
theorem laid_facts {W : World} (h : laidMetH Tryd.prog Rows.fnExactUsedBetweenRow.laid W) : ∃ a, W.var? Tryd.prog "loop.example/g01011/impl.errOutside" = some #[.iface 177 (.pointer (some a))] := by
  rw [MakeChecks.laidMetH_plain _ _ _ (by kernel_rfl)] at h
  obtain ⟨a, s, hv, _, _, _⟩ := laid_sentinel h gOut tOut Tryd.underlying71 rowErr Tryd.underlying177 Tryd.underlying179 rfl rfl Tryd.underlying9 cErr cStr
  exact ⟨a, hv⟩


theorem walk (A0 : Option Addr) (n0 c0 : Nat) (xs0 : List Rg) (a1 : Int) (a2 : Int) (w : World) (w0 : RgsIn w A0 n0 xs0) (w1 : (Lit.int .i64 a1).wf = true) (w2 : (Lit.int .i64 a2).wf = true) (hL : ∃ a, w.var? Tryd.prog "loop.example/g01011/impl.errOutside" = some #[.iface 177 (.pointer (some a))]) :
    Calls Tryd.prog 5 #[.slice A0 n0 c0, .int .i64 a1, .int .i64 a2] w fun e w' => e = .returned (.bool true) ∧ Below w.heap.size w w' := by
  obtain ⟨a9, ha9⟩ := hL
  have ha8 : OutIs w a9 := by
    have h := World.var?_cell gOut ha9 0
    simp at h
    exact h
  have HA9 := Lib.hid ha8
  clear ha9 ha8
  have HI0 := Lib.hid w0
  clear w0
  have hb : Below w.heap.size w w := Below.refl _ _
  go_enter Tryd.func5, Tryd.ntmps5
  go_wp2_with fail
  refine (szRgs_any A0 n0 c0 xs0 1048576 _ (by omega) (by omega) (HI0.out.go hb)).mono ?_
  rintro e wk1 ⟨r0, rfl, hr, hbs⟩
  have hb := bnext hb hbs
  clear hbs
  rcases hr with rfl | ⟨r0_0, r0_1⟩
  · go_wp2
    go_ret
    exact ⟨rfl, hb⟩
  have hn0 : n0 ≤ 1048576 := by omega
  obtain ⟨R0, hR0⟩ : ∃ R, usedBetweenR0 xs0 a1 a2 = R := ⟨_, rfl⟩
  have HR0 := Lib.hid hR0
  clear hR0
  have e0 : (R0 != R0) = false := by simp
  obtain ⟨R1, hR1⟩ : ∃ R, usedBetweenR1 xs0 a1 a2 = R := ⟨_, rfl⟩
  have HR1 := Lib.hid hR1
  clear hR1
  have e1 : (R1 != R1) = false := by simp
  go_wp2_with fail
  refine (copyRgs A0 n0 c0 xs0 _ ⟨HI0.out.go hb, hn0⟩).mono ?_
  rintro e wk2 ⟨Au0, cu0, rfl, Ou0, Yu0, hbs⟩
  clear Ou0
  have hb := bnext hb hbs
  clear hbs
  go_wp2_with fail
  have hC := specUsedBetween_ds Au0 n0 cu0 xs0 a1 a2 _ Yu0
  rw [HR0.out] at hC
  rw [HR1.out] at hC
  refine hC.mono ?_
  rintro e wk3 ⟨rfl, hbs⟩
  clear hC
  clear Yu0
  have hb := bnext hb hbs
  clear hbs
  go_wp2_with fail
  refine (copyRgs A0 n0 c0 xs0 _ ⟨HI0.out.go hb, hn0⟩).mono ?_
  rintro e wk4 ⟨Av0, cv0, rfl, Ov0, Yv0, hbs⟩
  clear Ov0
  have hb := bnext hb hbs
  clear hbs
  go_wp2_with fail
  have hC := implUsedBetween_ds Av0 n0 cv0 xs0 a1 a2 a9 _ Yv0 (HA9.out.next hb)
  rw [HR0.out] at hC
  rw [HR1.out] at hC
  refine hC.mono ?_
  rintro e wk5 ⟨rfl, hbs⟩
  clear hC
  have Yv0 := Yv0.go hbs
  have hb := bnext hb hbs
  clear hbs
  go_wp2_with fail
  refine (copyRgs A0 n0 c0 xs0 _ ⟨HI0.out.go hb, hn0⟩).mono ?_
  rintro e wk6 ⟨At0, ct0, rfl, Ot0, Yt0, hbs⟩
  clear Ot0
  have Yv0 := Yv0.go hbs
  have hb := bnext hb hbs
  clear hbs
  go_wp2_with fail
  refine (sameRgs Av0 At0 n0 cv0 ct0 xs0 _ Yv0.1.1 Yv0.1.2.1 Yv0.cells Yt0.cells).mono ?_
  rintro e wk7 ⟨rfl, hbs⟩
  clear Yt0
  have Yv0 := Yv0.go hbs
  have hb := bnext hb hbs
  clear hbs
  go_wp2
  go_ret
  exact ⟨rfl, hb⟩

theorem own : ownKnob Tryd.prog.godebug = none := by kernel_rfl
theorem laidOut : laidOutB Tryd.prog = true := by kernel_rfl

/-- A WORLD FOR THE WITNESS: the heap that the start-up code's own run leaves. -/
theorem laid_met (os : Os) : laidMet Tryd.prog Rows.fnExactUsedBetweenRow.laid ((World.laidAll Tryd.prog os Rows.fnExactUsedBetweenRow.laid).forCall (fun _ _ => 0) ⟨#[], #[.slice none 0 0, .int .i64 0, .int .i64 0], []⟩).memory :=
  laidMet_laidAll _ (by kernel_rfl) (by kernel_rfl)
theorem reads (os : Os) {H : Type} (enc : TypeId × Value → H) : ∃ x gs places, DataW.whole enc Tryd.prog ((World.laidAll Tryd.prog os Rows.fnExactUsedBetweenRow.laid).forCall (fun _ _ => 0) ⟨#[], #[.slice none 0 0, .int .i64 0, .int .i64 0], []⟩).memory Tryd.f5.params.toList Rows.fnExactUsedBetweenSpec.vars false (#[.slice none 0 0, .int .i64 0, .int .i64 0] : Array Value).toList 8 = some (x, gs, places) :=
  by
  obtain ⟨⟨x, gs, places⟩, h⟩ := Option.isSome_iff_exists.1 (show (DataW.whole enc Tryd.prog ((World.laidAll Tryd.prog os Rows.fnExactUsedBetweenRow.laid).forCall (fun _ _ => 0) ⟨#[], #[.slice none 0 0, .int .i64 0, .int .i64 0], []⟩).memory Tryd.f5.params.toList Rows.fnExactUsedBetweenSpec.vars false (#[.slice none 0 0, .int .i64 0, .int .i64 0] : Array Value).toList 8).isSome = true by kernel_rfl)
  exact ⟨x, gs, places, h⟩

set_option maxRecDepth 100000 in
theorem lifted (os : Os) (started : os.Started) (H : Type) (enc : TypeId × Value → H) (F : Stop.Interp) :
    ReturnsInHanded {} Tryd.checked os 5 .any ((OpenSpec.ofChange Rows.fnExactUsedBetweenSpec).preRow enc Tryd.prog Tryd.f5 Rows.fnExactUsedBetweenRow.domain false Rows.fnExactUsedBetweenRow.laid) (((OpenSpec.ofChange Rows.fnExactUsedBetweenSpec).at F).post enc Tryd.prog Tryd.f5 false true false false) := by
  obtain ⟨x, gs0, places, hx⟩ := reads os enc
  refine returnsInHanded_of_row (C := Tryd.checked) (s := OpenSpec.ofChange Rows.fnExactUsedBetweenSpec) own started (by kernel_rfl) Tryd.func5
    (witness_row_atRef (enc := enc) (C := Tryd.checked) false (World.laidAll Tryd.prog os Rows.fnExactUsedBetweenRow.laid) #[.slice none 0 0, .int .i64 0, .int .i64 0] (World.laidAll_os _ _ _) (by kernel_rfl) (by kernel_rfl) (by kernel_rfl)
      (OpenSpec.preRow_of_cond 8 hx (by kernel_rfl) (fun k hk => by cases hk) (by kernel_rfl) (laid_met os))) ?_
  intro W base args ds gs before hval0 hW hcnd _ _ hLaid hShaped _
  have hL := laid_facts hLaid
  have hval : ∀ (j : Nat) t v, Tryd.f5.params[j]? = some t → args[j]? = some v → Value.okWide Tryd.prog W .any base t v := hval0
  have hW' := hW
  obtain ⟨p, q, hA0, hV, rfl, hfz, hnd⟩ := hW
  have hA : DataW.TrodAll enc Tryd.prog W 0 (fun _ => true) true Tryd.f5.params.toList args.toList ds p := hA0
  rw [Tryd.params5] at hA hval
  obtain ⟨v0, vs0, d0, ds0, p0, q0, hargs, rfl, rfl, h0, r0⟩ := trodAll_cons hA
  obtain ⟨v1, vs1, d1, ds1, p1, q1, rfl, rfl, rfl, h1, r1⟩ := trodAll_cons r0
  obtain ⟨v2, vs2, d2, ds2, p2, q2, rfl, rfl, rfl, h2, r2⟩ := trodAll_cons r1
  obtain ⟨rfl, rfl, rfl⟩ := trodAll_nil r2
  obtain rfl : args = #[v0, v1, v2] := by cases args; simp_all
  obtain ⟨a9, hv9⟩ := laid_facts hLaid
  have hV : DataW.TrodVars enc Tryd.prog W (fun _ => true) ["loop.example/g01011/impl.errOutside"] gs _ := hV
  obtain ⟨rfl, rfl⟩ := hV.unique (vars_read1 enc gOut tOut Tryd.underlying71 hv9 trivial _)
  have b9 := World.block_lt_of_cell? W _ (World.var?_cell gOut hv9 0)
  have k0 := h0
  have lt0 : ∀ x ∈ p0, x.block < W.heap.size := by obtain ⟨m, hm⟩ := k0; exact DataW.trod_lt m _ _ _ hm
  obtain ⟨A0, n0, c0, xs0, rfl, w0⟩ := open_Rgs (hval 0 35 v0 rfl rfl) h0
  obtain ⟨a1, rfl, rfl, rfl, w1⟩ := open_int Tryd.underlying2 (hval 1 2 v1 rfl rfl) h1
  obtain ⟨a2, rfl, rfl, rfl, w2⟩ := open_int Tryd.underlying2 (hval 2 2 v2 rfl rfl) h2
  clear hA0 hval0
  refine (walk A0 n0 c0 xs0 a1 a2 W w0 w1 w2 hL).mono fun e W' ⟨he, bel⟩ => ?_
  subst he
  exact ⟨_, rfl, _, _, _, [], _, _, hW', trodAll_mk1 (shut_bool Tryd.underlying4 _), (trodAll_cons_mk (Below.trod laidOut (by kernel_rfl) (of_decide_eq_true (by kernel_rfl)) k0 bel lt0) (trodAll_cons_mk (shut_int Tryd.underlying2 w1) (trodAll_cons_mk (shut_int Tryd.underlying2 w2) trodAll_mk0))), vars_read1 enc gOut tOut Tryd.underlying71 (var_below9 bel gOut b9 hv9) trivial _, bel.frame _, fun h => by cases h⟩

theorem said : Rows.FnExactUsedBetweenSaid :=
  OpenClaim.holds_of_cond 5 Tryd.f5 rfl rfl rfl rfl rfl rfl rfl ⟨rfl, rfl, rfl, rfl, rfl⟩ rfl rfl rfl rfl rfl (by kernel_rfl) Tryd.func5 (by kernel_rfl)
    (of_decide_eq_true (by kernel_rfl)) (by unfold Func.isWrapper; first | (rw [if_pos (by decide +kernel)]; kernel_rfl) | (rw [if_neg (by decide +kernel)]; exact ⟨rfl, rfl⟩))
    (fun os started H enc _ F => by rw [OpenClaim.pre_eq_preRow]; exact lifted os started H enc F)

theorem plain (f : FuncId) (fn : Func) (hf : Tryd.pinned.checked.prog.funcNamed "loop.example/g01011/laws.FnExactUsedBetween" = some f) (hfn : Tryd.pinned.checked.prog.funcs[f]? = some fn) :
    true = Tryd.pinned.checked.prog.looks [] ∧ ∀ (j : Nat) t, fn.params[j]? = some t → Tryd.pinned.checked.prog.wantsStandIn t = false := by
  obtain rfl : f = 5 := Option.some.inj ((show Tryd.prog.funcNamed "loop.example/g01011/laws.FnExactUsedBetween" = some 5 by kernel_rfl).symm.trans hf) |>.symm
  obtain rfl : fn = Tryd.f5 := (Option.some.inj (Tryd.func5.symm.trans hfn)).symm
  refine ⟨by kernel_rfl, fun j t ht => ?_⟩
  rw [Tryd.params5] at ht
  have hm : t ∈ [35, 2, 2] := by simpa using Array.mem_of_getElem? ht
  have hall : ([35, 2, 2].all fun u => !Tryd.prog.wantsStandIn u) = true := by kernel_rfl
  exact (show Tryd.prog.wantsStandIn t = false by simpa using List.all_eq_true.1 hall t hm)

theorem proved : Rows.FnExactUsedBetweenCardSaid :=
  Claim7.holds_tied_plain_at .later [] _ _ _ _ said (fun _ h => by cases h) (by kernel_rfl) (fun _ h => by cases h) fnExactUsedBetween_row_tie rfl ⟨rfl, rfl⟩ (by kernel_rfl) rfl plain (by kernel_rfl)
#print axioms proved
end Go.Proofs.YthidaoemonjemabDoor.fnExactUsedBetween

