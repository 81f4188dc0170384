/-
  FnExactPipeNamed: for every input the law returns true and its arguments read as before. No condition.
-/
import Derived.Test.YtmopnkkpcgiafaaZ1
import Derived.Test.YtmopnkkpcgiafaaH1
import Derived.Test.YtmopnkkpcgiafaaG0
import Derived.ShutString
import Derived.ChangeOld
namespace Go.Proofs.Ytmopnkkpcgiafaa.fnExactPipeNamed
open Go.ChangeShapes Go.WideShapes Go.ChangeAt Go.RowKit
open Go.ChangeMaps (open_string shut_string)
set_option linter.unusedVariables false

set_option maxRecDepth 100000

theorem walk (A0 : Option Addr) (n0 c0 : Nat) (z0 : List Int) (B0 : Option Addr) (m0 d0 : Nat) (ps0 : List Pp) (a1 : ByteArray) (w : World) (w0 : SliceIn .i64 w A0 n0 z0 ∧ PipesIn w B0 m0 ps0) (w1 : a1.size ≤ maxLen) :
    Calls Try.prog 5 #[.agg #[.slice A0 n0 c0, .slice B0 m0 d0], .string a1] w fun e w' => e = .returned (.bool true) ∧ Below w.heap.size w w' := by
  have hI : NetIn w A0 n0 z0 B0 m0 ps0 := w0
  have HI := Lib.hid hI
  have hid := w0.2.2.2.2
  have M1 := w0.1.2.1
  have M2 := w0.2.2.1
  obtain rfl : z0.length = n0 := w0.1.1
  obtain rfl : ps0.length = m0 := w0.2.1
  have HD := Lib.hid hid
  have hsz := w1
  clear hid hI w0 w1
  have hN := NetAt.new w A0 z0.length c0 B0 ps0.length d0 25
  have hb : Below w.heap.size w (w.alloc (.cells #[.slice A0 z0.length c0, .slice B0 ps0.length d0] 25)) := bal (Below.refl _ _) _
  have ⟨x0, x1⟩ := hN
  by_cases hbig : (a1.size : Int) > 1048576
  · go_enter Try.func5, Try.ntmps5
    go_wp2
    go_ret
    exact ⟨rfl, hb⟩
  have hsmall : ¬ 1048576 < (a1.size : Int) := hbig
  clear hbig
  go_enter Try.func5, Try.ntmps5
  go_wp2_with fail
  refine (HI.out.szN c0 d0 _ hb).mono ?_
  rintro e wa ⟨r, rfl, hr, hba⟩
  have hN := hN.next hba
  have hb := bnext hb hba
  clear x0 x1 hba
  have ⟨x0, x1⟩ := hN
  rcases hr with rfl | ⟨r0, hn, hm⟩
  · go_wp2
    go_ret
    exact ⟨rfl, hb⟩
  · have HV := Lib.hid (fun A B c d wx (h : NetCells wx A z0 B ps0) => specNamed_any A B c d z0 ps0 a1 wx h hn hm HD.out hsz)
    have HW := Lib.hid (fun A B c d wx (h : NetCells wx A z0 B ps0) => implNamed_any A B c d z0 ps0 a1 wx h hn hm HD.out hsz)
    unfold RetNamed at HV HW
    generalize nameX z0 ps0 a1 = V at *
    generalize nameC z0 ps0 a1 = C at *
    go_wp2_with fail
    refine (HI.out.copy c0 d0 _ hb hn hm).mono ?_
    rintro e w1 ⟨A1, c1, B1, d1, rfl, o1, q1, hb1⟩
    have hN := hN.next hb1
    have hb := bnext hb hb1
    clear x0 x1 hb1
    have ⟨x0, x1⟩ := hN
    go_wp2_with fail
    refine (HV.out A1 B1 c1 d1 w1 ⟨owns_cells o1, pcells_of q1⟩).mono ?_
    rintro e w2 ⟨rfl, hb2⟩
    clear o1 q1
    have hN := hN.next hb2
    have hb := bnext hb hb2
    clear x0 x1 hb2
    have ⟨x0, x1⟩ := hN
    go_wp2_with fail
    refine (HI.out.copy c0 d0 _ hb hn hm).mono ?_
    rintro e w3 ⟨A3, c3, B3, d3, rfl, o3, q3, hb3⟩
    have hC : NetCells w3 A3 z0 B3 ps0 := ⟨owns_cells o3, pcells_of q3⟩
    have hN := (hN.next hb3).next (bal (Below.refl _ _) (.cells #[.slice A3 z0.length c3, .slice B3 ps0.length d3] 30))
    have hX := NetAt.new w3 A3 z0.length c3 B3 ps0.length d3 30
    have hb := bal (bnext hb hb3) (.cells #[.slice A3 z0.length c3, .slice B3 ps0.length d3] 30)
    have hC := hC.next (bal (Below.refl _ _) (.cells #[.slice A3 z0.length c3, .slice B3 ps0.length d3] 30))
    clear x0 x1 hb3 o3 q3
    have ⟨x0, x1⟩ := hN
    have ⟨y0, y1⟩ := hX
    go_wp2_with fail
    refine (HW.out A3 B3 c3 d3 _ hC).mono ?_
    rintro e w4 ⟨rfl, hb4⟩
    have hN := hN.next hb4
    have hX := hX.next hb4
    have hb := bnext hb hb4
    have hC := hC.next hb4
    clear x0 x1 y0 y1 hb4
    have ⟨x0, x1⟩ := hN
    have ⟨y0, y1⟩ := hX
    have hbr : Below w.heap.size w w4.drew := below_drewN hb 1
    have hNr : NetAt w4.drew w.heap.size A0 z0.length c0 B0 ps0.length d0 := hN
    have hXr : NetAt w4.drew w3.heap.size A3 z0.length c3 B3 ps0.length d3 := hX
    have hCr : NetCells w4.drew A3 z0 B3 ps0 := hC
    clear x0 x1 y0 y1 hN hX hC hb
    have ⟨x0, x1⟩ := hNr
    have ⟨y0, y1⟩ := hXr
    go_wp2_with fail
    go_region_held3 (fun w' => w'.cell? ⟨w.heap.size, 0, none⟩ = some (.slice A0 z0.length c0) ∧ w'.cell? ⟨w.heap.size, 1, none⟩ = some (.slice B0 ps0.length d0) ∧ w'.cell? ⟨w3.heap.size, 0, none⟩ = some (.slice A3 z0.length c3) ∧ w'.cell? ⟨w3.heap.size, 1, none⟩ = some (.slice B3 ps0.length d3)) (exact ⟨x0, x1, y0, y1⟩) (first | (go_at_call 17; refine (HI.out.copy c0 d0 _ hbr hn hm).mono ?_; rintro e w5 ⟨A5, c5, B5, d5, rfl, o5, q5, hb5⟩; have hD5 : NetCells w5 A5 z0 B5 ps0 := ⟨owns_cells o5, pcells_of q5⟩; have hC5 := hCr.next hb5; have hbs := bnext hbr hb5; have hNr := hNr.next hb5; have hXr := hXr.next hb5; have ⟨x0, x1⟩ := hNr; have ⟨y0, y1⟩ := hXr) | (go_at_call 19; refine (eqNet_same A3 B3 _ _ c3 d3 _ _ z0 ps0 _ M1 M2 hC5.1 hC5.2 hD5.1 hD5.2).mono ?_; rintro e w6 ⟨rfl, hb6⟩; have hbt := bnext hbs hb6; have hNr := hNr.next hb6; have hXr := hXr.next hb6; have ⟨x0, x1⟩ := hNr; have ⟨y0, y1⟩ := hXr))
    go_wp2
    go_ret
    exact ⟨rfl, hbt⟩

theorem own : ownKnob Try.prog.godebug = none := by kernel_rfl
theorem laidOut : laidOutB Try.prog = true := by kernel_rfl

set_option maxRecDepth 100000 in
theorem lifted (os : Os) (started : os.Started) (H : Type) (enc : TypeId × Value → H) :
    ReturnsInHanded {} Try.checked os 5 .any (Rows.fnExactPipeNamedSpec.pre6 enc Try.prog Try.f5 Rows.fnExactPipeNamedRow.domain false) (Rows.fnExactPipeNamedSpec.post enc Try.prog Try.f5 false true false false) := by
  refine returnsInHanded_of_change (C := Try.checked) own started (by kernel_rfl) Try.func5
    (ChangeSpec.witness6 (enc := enc) (C := Try.checked) false ⟨#[], #[.agg #[.slice none 0 0, .slice none 0 0], .string .empty], []⟩ 8 (by kernel_rfl) (by kernel_rfl) (by kernel_rfl) (by kernel_rfl)) ?_
  intro W base args ds gs before hval0 hW hcnd _
  have hval : ∀ (j : Nat) t v, Try.f5.params[j]? = some t → args[j]? = some v → Value.okWide Try.prog W .any base t v := hval0
  have hW' := hW
  obtain ⟨p, q, hA0, hV, rfl, hfz, hnd⟩ := hW
  have hA : DataW.TrodAll enc Try.prog W 0 (fun _ => true) true Try.f5.params.toList args.toList ds p := hA0
  rw [Try.params5] at hA hval
  obtain ⟨v0, vs0, d0, ds0, p0, q0, hargs, rfl, rfl, h0, r0⟩ := trodAll_cons hA
  obtain ⟨v1, vs1, d1, ds1, p1, q1, rfl, rfl, rfl, h1, r1⟩ := trodAll_cons r0
  obtain ⟨rfl, rfl, rfl⟩ := trodAll_nil r1
  obtain rfl : args = #[v0, v1] := by cases args; simp_all
  obtain ⟨rfl, rfl⟩ := trodVars_none hV
  have k0 := h0
  have lt0 : ∀ x ∈ p0, x.block < W.heap.size := by obtain ⟨m, hm⟩ := k0; exact DataW.trod_lt m _ _ _ hm
  obtain ⟨A0, n0, c0, z0, B0, m0, dd0, ps0, rfl, wz0, wp0⟩ := open_net (hval 0 25 v0 rfl rfl) h0
  have w0 := And.intro wz0 wp0
  obtain ⟨a1, rfl, rfl, rfl, w1⟩ := open_string Try.underlying9 (hval 1 9 v1 rfl rfl) h1
  clear hA0 hval0
  refine (walk A0 n0 c0 z0 B0 m0 dd0 ps0 a1 W w0 w1).mono fun e W' ⟨he, bel⟩ => ?_
  subst he
  exact ⟨_, rfl, _, _, _, [], _, [], hW', trodAll_mk1 (shut_bool Try.underlying4 _), (trodAll_cons_mk (Below.trod laidOut (by kernel_rfl) (of_decide_eq_true (by kernel_rfl)) k0 bel lt0) (trodAll_cons_mk (shut_string Try.underlying9 w1) trodAll_mk0)), rfl, bel.frame _, fun h => by cases h⟩

theorem over : Rows.fnExactPipeNamedRow.holds Try.pinned (OpenSpec.ofChange Rows.fnExactPipeNamedSpec) :=
  OpenClaim.holds_of_wide 5 Try.f5 rfl rfl rfl rfl rfl rfl rfl ⟨rfl, rfl, rfl, rfl, rfl⟩ rfl rfl rfl rfl rfl (by kernel_rfl) Try.func5 (by kernel_rfl)
    (of_decide_eq_true (by kernel_rfl)) (by unfold Func.isWrapper; first | (rw [if_pos (by decide +kernel)]; kernel_rfl) | (rw [if_neg (by decide +kernel)]; exact ⟨rfl, rfl⟩))
    (fun os started H enc _ => lifted os started H enc)

theorem proved : Rows.FnExactPipeNamedSaid :=
  over
#print axioms proved
end Go.Proofs.Ytmopnkkpcgiafaa.fnExactPipeNamed
