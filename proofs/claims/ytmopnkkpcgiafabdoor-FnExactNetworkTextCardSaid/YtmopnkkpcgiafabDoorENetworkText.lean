/-
  FnExactNetworkText: for every input the law returns true and its arguments read as before. No condition.
-/
import Derived.Test.YtmopnkkpcgiafabDoorZ5
import Derived.Test.YtmopnkkpcgiafabDoorH1
import Derived.Test.YtmopnkkpcgiafabDoorL1
import Derived.Test.YtmopnkkpcgiafabDoorCards
import Derived.Test.YtmopnkkpcgiafabDoorTie
import Derived.Test.YtmopnkkpcgiafabDoorG0
import Derived.Deep.DeepHandedRow
import Derived.Deep.DeepWitnessRowRef
import Derived.LaidMore
import Derived.Lay
import Derived.Lib.LaidTab
import Derived.ShutString
import Derived.ChangeOld
namespace Go.Proofs.YtmopnkkpcgiafabDoor.fnExactNetworkText
open Go.ChangeShapes Go.WideShapes Go.ChangeAt Go.RowKit
open Go.ChangeMaps (open_string shut_string)
set_option linter.unusedVariables false

theorem laid_facts {W : World} (h : laidMetH Tryd.prog Rows.fnExactNetworkTextRow.laid W) : PowTab W := by
  rw [MakeChecks.laidMetH_plain _ _ _ (by kernel_rfl)] at h
  exact powTab_laid h.tail.tail
set_option maxRecDepth 100000

theorem walk (A0 : Option Addr) (n0 c0 : Nat) (z0 : List Int) (B0 : Option Addr) (m0 d0 : Nat) (ps0 : List Pp) (w : World) (w0 : SliceIn .i64 w A0 n0 z0 ∧ PipesIn w B0 m0 ps0) (hL : PowTab w) :
    Calls Tryd.prog 3 #[.agg #[.slice A0 n0 c0, .slice B0 m0 d0]] w fun e w' => e = .returned (.bool true) ∧ Below w.heap.size w w' := by
  have hI : NetIn w A0 n0 z0 B0 m0 ps0 := w0
  have HI := Lib.hid hI
  have hid := w0.2.2.2.2
  have M1 := w0.1.2.1
  have M2 := w0.2.2.1
  obtain rfl : z0.length = n0 := w0.1.1
  obtain rfl : ps0.length = m0 := w0.2.1
  have HD := Lib.hid hid
  clear hid hI w0
  have hN := NetAt.new w A0 z0.length c0 B0 ps0.length d0 25
  have hb : Below w.heap.size w (w.alloc (.cells #[.slice A0 z0.length c0, .slice B0 ps0.length d0] 25)) := bal (Below.refl _ _) _
  have ⟨x0, x1⟩ := hN
  go_enter Tryd.func3, Tryd.ntmps3
  go_wp2_with fail
  refine (HI.out.szN c0 d0 _ hb).mono ?_
  rintro e wa ⟨r, rfl, hr, hba⟩
  have hN := hN.next hba
  have hb := bnext hb hba
  clear x0 x1 hba
  have ⟨x0, x1⟩ := hN
  rcases hr with rfl | ⟨r0, hn, hm⟩
  · go_wp2
    go_ret
    exact ⟨rfl, hb⟩
  · have HV := Lib.hid (fun A B c d wx (h : NetCells wx A z0 B ps0) => specNetworkText_any A B c d z0 ps0 wx h hn hm HD.out)
    have HW := Lib.hid (fun A B c d wx (h : NetCells wx A z0 B ps0) (hx : PowTab wx) => implNetworkText_any A B c d z0 ps0 wx h hn hm HD.out hx)
    generalize netTextB z0 ps0 = V at *
    go_wp2_with fail
    refine (HI.out.copy c0 d0 _ hb hn hm).mono ?_
    rintro e w1 ⟨A1, c1, B1, d1, rfl, o1, q1, hb1⟩
    have hN := hN.next hb1
    have hb := bnext hb hb1
    clear x0 x1 hb1
    have ⟨x0, x1⟩ := hN
    go_wp2_with fail
    refine (HV.out A1 B1 c1 d1 w1 ⟨owns_cells o1, pcells_of q1⟩).mono ?_
    rintro e w2 ⟨rfl, hb2⟩
    clear o1 q1
    have hN := hN.next hb2
    have hb := bnext hb hb2
    clear x0 x1 hb2
    have ⟨x0, x1⟩ := hN
    go_wp2_with fail
    refine (HI.out.copy c0 d0 _ hb hn hm).mono ?_
    rintro e w3 ⟨A3, c3, B3, d3, rfl, o3, q3, hb3⟩
    have hC : NetCells w3 A3 z0 B3 ps0 := ⟨owns_cells o3, pcells_of q3⟩
    have hN := (hN.next hb3).next (bal (Below.refl _ _) (.cells #[.slice A3 z0.length c3, .slice B3 ps0.length d3] 30))
    have hX := NetAt.new w3 A3 z0.length c3 B3 ps0.length d3 30
    have hb := bal (bnext hb hb3) (.cells #[.slice A3 z0.length c3, .slice B3 ps0.length d3] 30)
    have hC := hC.next (bal (Below.refl _ _) (.cells #[.slice A3 z0.length c3, .slice B3 ps0.length d3] 30))
    clear x0 x1 hb3 o3 q3
    have ⟨x0, x1⟩ := hN
    have ⟨y0, y1⟩ := hX
    go_wp2_with fail
    refine (HW.out A3 B3 c3 d3 _ hC (hL.next hb)).mono ?_
    rintro e w4 ⟨rfl, hb4⟩
    have hN := hN.next hb4
    have hX := hX.next hb4
    have hb := bnext hb hb4
    have hC := hC.next hb4
    clear x0 x1 y0 y1 hb4
    have ⟨x0, x1⟩ := hN
    have ⟨y0, y1⟩ := hX
    have hbr : Below w.heap.size w w4.drew := below_drewN hb 1
    have hNr : NetAt w4.drew w.heap.size A0 z0.length c0 B0 ps0.length d0 := hN
    have hXr : NetAt w4.drew w3.heap.size A3 z0.length c3 B3 ps0.length d3 := hX
    have hCr : NetCells w4.drew A3 z0 B3 ps0 := hC
    clear x0 x1 y0 y1 hN hX hC hb
    have ⟨x0, x1⟩ := hNr
    have ⟨y0, y1⟩ := hXr
    go_wp2_with fail
    go_region_held3 (fun w' => w'.cell? ⟨w.heap.size, 0, none⟩ = some (.slice A0 z0.length c0) ∧ w'.cell? ⟨w.heap.size, 1, none⟩ = some (.slice B0 ps0.length d0) ∧ w'.cell? ⟨w3.heap.size, 0, none⟩ = some (.slice A3 z0.length c3) ∧ w'.cell? ⟨w3.heap.size, 1, none⟩ = some (.slice B3 ps0.length d3)) (exact ⟨x0, x1, y0, y1⟩) (first | (go_at_call 6; refine (HI.out.copy c0 d0 _ hbr hn hm).mono ?_; rintro e w5 ⟨A5, c5, B5, d5, rfl, o5, q5, hb5⟩; have hD5 : NetCells w5 A5 z0 B5 ps0 := ⟨owns_cells o5, pcells_of q5⟩; have hC5 := hCr.next hb5; have hbs := bnext hbr hb5; have hNr := hNr.next hb5; have hXr := hXr.next hb5; have ⟨x0, x1⟩ := hNr; have ⟨y0, y1⟩ := hXr) | (go_at_call 8; refine (eqNet_same A3 B3 _ _ c3 d3 _ _ z0 ps0 _ M1 M2 hC5.1 hC5.2 hD5.1 hD5.2).mono ?_; rintro e w6 ⟨rfl, hb6⟩; have hbt := bnext hbs hb6; have hNr := hNr.next hb6; have hXr := hXr.next hb6; have ⟨x0, x1⟩ := hNr; have ⟨y0, y1⟩ := hXr))
    go_wp2
    go_ret
    exact ⟨rfl, hbt⟩

theorem own : ownKnob Tryd.prog.godebug = none := by kernel_rfl
theorem laidOut : laidOutB Tryd.prog = true := by kernel_rfl

/-- A WORLD FOR THE WITNESS: the heap that the start-up code's own run leaves. -/
theorem laid_met (os : Os) : laidMet Tryd.prog Rows.fnExactNetworkTextRow.laid ((World.doorLaid Tryd.prog 72 os).forCall (fun _ _ => 0) ⟨#[], #[.agg #[.slice none 0 0, .slice none 0 0]], []⟩).memory :=
  laidMet_of_run' 8 (by kernel_rfl) (by kernel_rfl)
theorem reads (os : Os) {H : Type} (enc : TypeId × Value → H) : ∃ x places, DataW.whole enc Tryd.prog ((World.doorLaid Tryd.prog 72 os).forCall (fun _ _ => 0) ⟨#[], #[.agg #[.slice none 0 0, .slice none 0 0]], []⟩).memory Tryd.f3.params.toList Rows.fnExactNetworkTextSpec.vars false (#[.agg #[.slice none 0 0, .slice none 0 0]] : Array Value).toList 8 = some (x, [], places) :=
  ⟨[.agg [.nil, .nil]], [], by kernel_rfl⟩

set_option maxRecDepth 100000 in
theorem lifted (os : Os) (started : os.Started) (H : Type) (enc : TypeId × Value → H) (F : Stop.Interp) :
    ReturnsInHanded {} Tryd.checked os 3 .any ((OpenSpec.ofChange Rows.fnExactNetworkTextSpec).preRow enc Tryd.prog Tryd.f3 Rows.fnExactNetworkTextRow.domain false Rows.fnExactNetworkTextRow.laid) (((OpenSpec.ofChange Rows.fnExactNetworkTextSpec).at F).post enc Tryd.prog Tryd.f3 false true false false) := by
  obtain ⟨x, places, hx⟩ := reads os enc
  refine returnsInHanded_of_row (C := Tryd.checked) (s := OpenSpec.ofChange Rows.fnExactNetworkTextSpec) own started (by kernel_rfl) Tryd.func3
    (witness_row_atRef (enc := enc) (C := Tryd.checked) false (World.doorLaid Tryd.prog 72 os) #[.agg #[.slice none 0 0, .slice none 0 0]] (rfl) (by kernel_rfl) (by kernel_rfl) (by kernel_rfl)
      (OpenSpec.preRow_of_cond 8 hx (by kernel_rfl) (fun k hk => by cases hk) (by kernel_rfl) (laid_met os))) ?_
  intro W base args ds gs before hval0 hW hcnd _ _ hLaid hShaped _
  have hL := laid_facts hLaid
  have hval : ∀ (j : Nat) t v, Tryd.f3.params[j]? = some t → args[j]? = some v → Value.okWide Tryd.prog W .any base t v := hval0
  have hW' := hW
  obtain ⟨p, q, hA0, hV, rfl, hfz, hnd⟩ := hW
  have hA : DataW.TrodAll enc Tryd.prog W 0 (fun _ => true) true Tryd.f3.params.toList args.toList ds p := hA0
  rw [Tryd.params3] at hA hval
  obtain ⟨v0, vs0, d0, ds0, p0, q0, hargs, rfl, rfl, h0, r0⟩ := trodAll_cons hA
  obtain ⟨rfl, rfl, rfl⟩ := trodAll_nil r0
  obtain rfl : args = #[v0] := by cases args; simp_all
  obtain ⟨rfl, rfl⟩ := trodVars_none hV
  have k0 := h0
  have lt0 : ∀ x ∈ p0, x.block < W.heap.size := by obtain ⟨m, hm⟩ := k0; exact DataW.trod_lt m _ _ _ hm
  obtain ⟨A0, n0, c0, z0, B0, m0, dd0, ps0, rfl, wz0, wp0⟩ := open_net (hval 0 25 v0 rfl rfl) h0
  have w0 := And.intro wz0 wp0
  clear hA0 hval0
  refine (walk A0 n0 c0 z0 B0 m0 dd0 ps0 W w0 hL).mono fun e W' ⟨he, bel⟩ => ?_
  subst he
  exact ⟨_, rfl, _, _, _, [], _, [], hW', trodAll_mk1 (shut_bool Tryd.underlying4 _), (trodAll_cons_mk (Below.trod laidOut (by kernel_rfl) (of_decide_eq_true (by kernel_rfl)) k0 bel lt0) trodAll_mk0), rfl, bel.frame _, fun h => by cases h⟩

theorem said : Rows.FnExactNetworkTextSaid :=
  OpenClaim.holds_of_cond 3 Tryd.f3 rfl rfl rfl rfl rfl rfl rfl ⟨rfl, rfl, rfl, rfl, rfl⟩ rfl rfl rfl rfl rfl (by kernel_rfl) Tryd.func3 (by kernel_rfl)
    (of_decide_eq_true (by kernel_rfl)) (by unfold Func.isWrapper; first | (rw [if_pos (by decide +kernel)]; kernel_rfl) | (rw [if_neg (by decide +kernel)]; exact ⟨rfl, rfl⟩))
    (fun os started H enc _ F => by rw [OpenClaim.pre_eq_preRow]; exact lifted os started H enc F)

theorem plain (f : FuncId) (fn : Func) (hf : Tryd.pinned.checked.prog.funcNamed "loop.example/g01011/laws.FnExactNetworkText" = some f) (hfn : Tryd.pinned.checked.prog.funcs[f]? = some fn) :
    false = Tryd.pinned.checked.prog.looks [] ∧ ∀ (j : Nat) t, fn.params[j]? = some t → Tryd.pinned.checked.prog.wantsStandIn t = false := by
  obtain rfl : f = 3 := Option.some.inj ((show Tryd.prog.funcNamed "loop.example/g01011/laws.FnExactNetworkText" = some 3 by kernel_rfl).symm.trans hf) |>.symm
  obtain rfl : fn = Tryd.f3 := (Option.some.inj (Tryd.func3.symm.trans hfn)).symm
  refine ⟨by kernel_rfl, fun j t ht => ?_⟩
  rw [Tryd.params3] at ht
  have hm : t ∈ [25] := by simpa using Array.mem_of_getElem? ht
  have hall : ([25].all fun u => !Tryd.prog.wantsStandIn u) = true := by kernel_rfl
  exact (show Tryd.prog.wantsStandIn t = false by simpa using List.all_eq_true.1 hall t hm)

theorem proved : Rows.FnExactNetworkTextCardSaid :=
  Claim7.holds_tied_plain_at .later [] _ _ _ _ said (fun _ h => by cases h) (by kernel_rfl) (fun _ h => by cases h) fnExactNetworkText_row_tie rfl ⟨rfl, rfl⟩ (by kernel_rfl) rfl plain (by kernel_rfl)
#print axioms proved
end Go.Proofs.YtmopnkkpcgiafabDoor.fnExactNetworkText

