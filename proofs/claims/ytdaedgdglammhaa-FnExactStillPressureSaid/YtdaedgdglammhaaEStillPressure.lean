/-
  FnExactStillPressure: for every input the law returns true and its arguments read as before. No condition.
-/
import Derived.Test.YtdaedgdglammhaaCp1
import Derived.Test.YtdaedgdglammhaaI0
import Derived.Test.YtdaedgdglammhaaH1
import Derived.Test.YtdaedgdglammhaaM2
import Derived.Deep.RegionHeld3
import Derived.Test.YtdaedgdglammhaaG0
import Derived.ShutString
import Derived.ChangeOld
namespace Go.Proofs.Ytdaedgdglammhaa.fnExactStillPressure
open Go.ChangeShapes Go.WideShapes Go.ChangeAt Go.RowKit
open Go.ChangeMaps (open_string shut_string)
set_option linter.unusedVariables false

set_option maxRecDepth 100000
set_option maxHeartbeats 1600000

theorem walk (A0 : Option Addr) (n0 c0 : Nat) (z0 : List Int) (B0 : Option Addr) (m0 d0 : Nat) (ps0 : List Pp) (a1 : Int) (a2 : Int) (a3 : Int) (w : World) (w0 : SliceIn .i64 w A0 n0 z0 ∧ PipesIn w B0 m0 ps0) (w1 : (Lit.int .i64 a1).wf = true) (w2 : (Lit.int .i64 a2).wf = true) (w3 : (Lit.int .i64 a3).wf = true) :
    Calls Try.prog 8 #[.agg #[.slice A0 n0 c0, .slice B0 m0 d0], .int .i64 a1, .int .i64 a2, .int .i64 a3] w fun e w' => e = .returned (.bool true) ∧ Below w.heap.size w w' := by
  have HI : Hid (NetIn w A0 n0 z0 B0 m0 ps0) := Lib.hid w0
  have M1 := w0.1.2.1
  have M2 := w0.2.2.1
  have HD := Lib.hid w0.2.2.2.2
  obtain rfl : z0.length = n0 := w0.1.1
  obtain rfl : ps0.length = m0 := w0.2.1
  clear w0
  have hN := NetAt.new w A0 z0.length c0 B0 ps0.length d0 34
  have hb : Below w.heap.size w (w.alloc (.cells #[.slice A0 z0.length c0, .slice B0 ps0.length d0] 34)) := bal (Below.refl _ _) _
  have ⟨x0, x1⟩ := hN
  go_enter Try.func8, Try.ntmps8
  go_wp2_with fail
  refine (HI.out.szN c0 d0 _ hb).mono ?_
  rintro e wk1 ⟨r, rfl, hr, hbs⟩
  have hN := hN.next hbs
  have hb := bnext hb hbs
  clear x0 x1
  clear hbs
  have ⟨x0, x1⟩ := hN
  rcases hr with rfl | ⟨r0, hn, hm⟩
  · go_wp2
    go_ret
    exact ⟨rfl, hb⟩
  obtain ⟨R0, hR0⟩ : ∃ R, stillV z0 ps0 a1 a2 a3 = R := ⟨_, rfl⟩
  have HR0 := Lib.hid hR0
  clear hR0
  have e0 : (R0 != R0) = false := by simp
  obtain ⟨R1, hR1⟩ : ∃ R, stillC z0 ps0 a1 a2 a3 = R := ⟨_, rfl⟩
  have HR1 := Lib.hid hR1
  clear hR1
  have e1 : (R1 != R1) = false := by simp
  go_wp2_with fail
  refine (HI.out.copy c0 d0 _ hb hn hm).mono ?_
  rintro e wk2 ⟨Au, cu, Bu, du, rfl, o1, q1, hbs⟩
  have Cu : NetCells wk2 Au z0 Bu ps0 := ⟨owns_cells o1, pcells_of q1⟩
  clear o1 q1
  have hN := hN.next hbs
  have hb := bnext hb hbs
  clear x0 x1
  clear hbs
  have ⟨x0, x1⟩ := hN
  go_wp2_with fail
  have hC := specStillPressure_any Au Bu cu du z0 ps0 a1 a2 a3 _ Cu hn hm HD.out 
  rw [HR0.out] at hC
  rw [HR1.out] at hC
  refine hC.mono ?_
  rintro e wk3 ⟨rfl, hbs⟩
  clear hC
  have hN := hN.next hbs
  have Cu := Cu.next hbs
  have hb := bnext hb hbs
  clear x0 x1
  clear hbs
  have ⟨x0, x1⟩ := hN
  clear Cu
  go_wp2_with fail
  refine (HI.out.copy c0 d0 _ hb hn hm).mono ?_
  rintro e wk4 ⟨Av, cv, Bv, dv, rfl, o1, q1, hbs⟩
  have Cv : NetCells wk4 Av z0 Bv ps0 := ⟨owns_cells o1, pcells_of q1⟩
  clear o1 q1
  have hN := hN.next hbs
  have hb := bnext hb hbs
  clear x0 x1
  clear hbs
  have ⟨x0, x1⟩ := hN
  have hal : Below wk4.heap.size wk4 (wk4.alloc (.cells #[.slice Av z0.length cv, .slice Bv ps0.length dv] 38)) := bal (Below.refl _ _) _
  have hX := NetAt.new wk4 Av z0.length cv Bv ps0.length dv 38
  have hN := hN.next hal
  have Cv := Cv.next hal
  have hb := bnext hb hal
  clear x0 x1
  clear hal
  have ⟨x0, x1⟩ := hN
  have ⟨y0, y1⟩ := hX
  go_wp2_with fail
  have hC := implStillPressure_any Av Bv cv dv z0 ps0 a1 a2 a3 _ Cv hn hm HD.out 
  rw [HR0.out] at hC
  rw [HR1.out] at hC
  refine hC.mono ?_
  rintro e wk5 ⟨rfl, hbs⟩
  clear hC
  have hN := hN.next hbs
  have hX := hX.next hbs
  have Cv := Cv.next hbs
  have hb := bnext hb hbs
  clear x0 x1 y0 y1
  clear hbs
  have ⟨x0, x1⟩ := hN
  have ⟨y0, y1⟩ := hX
  go_wp2_with fail
  have hdr : Below wk5.heap.size wk5 wk5.drew := below_drewN (Below.refl _ _) 1
  have hN := hN.next hdr
  have hX := hX.next hdr
  have Cv := Cv.next hdr
  have hb := bnext hb hdr
  clear x0 x1 y0 y1
  clear hdr
  have ⟨x0, x1⟩ := hN
  have ⟨y0, y1⟩ := hX
  go_region_held3 (fun w' => w'.cell? ⟨w.heap.size, 0, none⟩ = some (.slice A0 z0.length c0) ∧ w'.cell? ⟨w.heap.size, 1, none⟩ = some (.slice B0 ps0.length d0) ∧ w'.cell? ⟨wk4.heap.size, 0, none⟩ = some (.slice Av z0.length cv) ∧ w'.cell? ⟨wk4.heap.size, 1, none⟩ = some (.slice Bv ps0.length dv)) (exact ⟨x0, x1, y0, y1⟩) (first | (go_at_call 22; refine (HI.out.copy c0 d0 _ hb hn hm).mono ?_; rintro e wr1 ⟨At, ct, Bt, dt, rfl, o6, q6, hbs⟩; have Ct : NetCells wr1 At z0 Bt ps0 := ⟨owns_cells o6, pcells_of q6⟩; have hN := hN.next hbs; have hX := hX.next hbs; have Cv := Cv.next hbs; have hb := bnext hb hbs; have ⟨x0, x1⟩ := hN; have ⟨y0, y1⟩ := hX) | (go_at_call 25; refine (eqNet_same Av Bv _ _ cv dv _ _ z0 ps0 _ M1 M2 Cv.1 Cv.2 Ct.1 Ct.2).mono ?_; rintro e wr2 ⟨rfl, hbs⟩; have hN := hN.next hbs; have hX := hX.next hbs; have Cv := Cv.next hbs; have hb := bnext hb hbs; have ⟨x0, x1⟩ := hN; have ⟨y0, y1⟩ := hX))
  go_wp2
  go_ret
  exact ⟨rfl, hb⟩

theorem own : ownKnob Try.prog.godebug = none := by kernel_rfl
theorem laidOut : laidOutB Try.prog = true := by kernel_rfl

set_option maxRecDepth 100000 in
theorem lifted (os : Os) (started : os.Started) (H : Type) (enc : TypeId × Value → H) :
    ReturnsInHanded {} Try.checked os 8 .any (Rows.fnExactStillPressureSpec.pre6 enc Try.prog Try.f8 Rows.fnExactStillPressureRow.domain false) (Rows.fnExactStillPressureSpec.post enc Try.prog Try.f8 false true false false) := by
  refine returnsInHanded_of_change (C := Try.checked) own started (by kernel_rfl) Try.func8
    (ChangeSpec.witness6 (enc := enc) (C := Try.checked) false ⟨#[], #[.agg #[.slice none 0 0, .slice none 0 0], .int .i64 0, .int .i64 0, .int .i64 0], []⟩ 8 (by kernel_rfl) (by kernel_rfl) (by kernel_rfl) (by kernel_rfl)) ?_
  intro W base args ds gs before hval0 hW hcnd _
  have hval : ∀ (j : Nat) t v, Try.f8.params[j]? = some t → args[j]? = some v → Value.okWide Try.prog W .any base t v := hval0
  have hW' := hW
  obtain ⟨p, q, hA0, hV, rfl, hfz, hnd⟩ := hW
  have hA : DataW.TrodAll enc Try.prog W 0 (fun _ => true) true Try.f8.params.toList args.toList ds p := hA0
  rw [Try.params8] at hA hval
  obtain ⟨v0, vs0, d0, ds0, p0, q0, hargs, rfl, rfl, h0, r0⟩ := trodAll_cons hA
  obtain ⟨v1, vs1, d1, ds1, p1, q1, rfl, rfl, rfl, h1, r1⟩ := trodAll_cons r0
  obtain ⟨v2, vs2, d2, ds2, p2, q2, rfl, rfl, rfl, h2, r2⟩ := trodAll_cons r1
  obtain ⟨v3, vs3, d3, ds3, p3, q3, rfl, rfl, rfl, h3, r3⟩ := trodAll_cons r2
  obtain ⟨rfl, rfl, rfl⟩ := trodAll_nil r3
  obtain rfl : args = #[v0, v1, v2, v3] := by cases args; simp_all
  obtain ⟨rfl, rfl⟩ := trodVars_none hV
  have k0 := h0
  have lt0 : ∀ x ∈ p0, x.block < W.heap.size := by obtain ⟨m, hm⟩ := k0; exact DataW.trod_lt m _ _ _ hm
  obtain ⟨A0, n0, c0, z0, B0, m0, dd0, ps0, rfl, wz0, wp0⟩ := open_net (hval 0 34 v0 rfl rfl) h0
  have w0 := And.intro wz0 wp0
  obtain ⟨a1, rfl, rfl, rfl, w1⟩ := open_int Try.underlying2 (hval 1 2 v1 rfl rfl) h1
  obtain ⟨a2, rfl, rfl, rfl, w2⟩ := open_int Try.underlying2 (hval 2 2 v2 rfl rfl) h2
  obtain ⟨a3, rfl, rfl, rfl, w3⟩ := open_int Try.underlying2 (hval 3 2 v3 rfl rfl) h3
  clear hA0 hval0
  refine (walk A0 n0 c0 z0 B0 m0 dd0 ps0 a1 a2 a3 W w0 w1 w2 w3).mono fun e W' ⟨he, bel⟩ => ?_
  subst he
  exact ⟨_, rfl, _, _, _, [], _, [], hW', trodAll_mk1 (shut_bool Try.underlying4 _), (trodAll_cons_mk (Below.trod laidOut (by kernel_rfl) (of_decide_eq_true (by kernel_rfl)) k0 bel lt0) (trodAll_cons_mk (shut_int Try.underlying2 w1) (trodAll_cons_mk (shut_int Try.underlying2 w2) (trodAll_cons_mk (shut_int Try.underlying2 w3) trodAll_mk0)))), rfl, bel.frame _, fun h => by cases h⟩

theorem over : Rows.fnExactStillPressureRow.holds Try.pinned (OpenSpec.ofChange Rows.fnExactStillPressureSpec) :=
  OpenClaim.holds_of_wide 8 Try.f8 rfl rfl rfl rfl rfl rfl rfl ⟨rfl, rfl, rfl, rfl, rfl⟩ rfl rfl rfl rfl rfl (by kernel_rfl) Try.func8 (by kernel_rfl)
    (of_decide_eq_true (by kernel_rfl)) (by unfold Func.isWrapper; first | (rw [if_pos (by decide +kernel)]; kernel_rfl) | (rw [if_neg (by decide +kernel)]; exact ⟨rfl, rfl⟩))
    (fun os started H enc _ => lifted os started H enc)

theorem proved : Rows.FnExactStillPressureSaid :=
  over
#print axioms proved
end Go.Proofs.Ytdaedgdglammhaa.fnExactStillPressure
