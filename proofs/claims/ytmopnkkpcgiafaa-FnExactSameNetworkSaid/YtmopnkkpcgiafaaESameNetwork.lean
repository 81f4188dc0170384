/-
  FnExactSameNetwork: for every input the law returns true and its arguments read as before. No condition.
-/
import Derived.Test.YtmopnkkpcgiafaaY2
import Derived.Test.YtmopnkkpcgiafaaH6
import Derived.Test.YtmopnkkpcgiafaaH1
import Derived.Test.YtmopnkkpcgiafaaG0
import Derived.ShutString
import Derived.ChangeOld
namespace Go.Proofs.Ytmopnkkpcgiafaa.fnExactSameNetwork
open Go.ChangeShapes Go.WideShapes Go.ChangeAt Go.RowKit
open Go.ChangeMaps (open_string shut_string)
set_option linter.unusedVariables false

set_option maxRecDepth 100000

theorem walk (A0 : Option Addr) (n0 c0 : Nat) (z0 : List Int) (B0 : Option Addr) (m0 d0 : Nat) (ps0 : List Pp) (A1 : Option Addr) (n1 c1 : Nat) (z1 : List Int) (B1 : Option Addr) (m1 d1 : Nat) (ps1 : List Pp) (w : World) (w0 : SliceIn .i64 w A0 n0 z0 ∧ PipesIn w B0 m0 ps0) (w1 : SliceIn .i64 w A1 n1 z1 ∧ PipesIn w B1 m1 ps1) :
    Calls Try.prog 4 #[.agg #[.slice A0 n0 c0, .slice B0 m0 d0], .agg #[.slice A1 n1 c1, .slice B1 m1 d1]] w fun e w' => e = .returned (.bool true) ∧ Below w.heap.size w w' := by
  have hI0 : NetIn w A0 n0 z0 B0 m0 ps0 := w0
  have hI1 : NetIn w A1 n1 z1 B1 m1 ps1 := w1
  have HI := Lib.hid hI0
  have HJ := Lib.hid hI1
  have M1 := w0.1.2.1
  have M2 := w0.2.2.1
  have M3 := w1.1.2.1
  have M4 := w1.2.2.1
  obtain rfl : z0.length = n0 := w0.1.1
  obtain rfl : ps0.length = m0 := w0.2.1
  obtain rfl : z1.length = n1 := w1.1.1
  obtain rfl : ps1.length = m1 := w1.2.1
  clear hI0 hI1 w0 w1
  let V1 := w.alloc (.cells #[.slice A0 z0.length c0, .slice B0 ps0.length d0] 25)
  let V2 := V1.alloc (.cells #[.slice A1 z1.length c1, .slice B1 ps1.length d1] 25)
  have s1 : V1.heap.size = w.heap.size + 1 := by simp [V1]
  have b2 : Below V1.heap.size V1 V2 := bal (Below.refl _ _) _
  have hb : Below w.heap.size w V2 := bal (bal (Below.refl _ _) _) _
  have hN : NetAt V2 w.heap.size A0 z0.length c0 B0 ps0.length d0 := (NetAt.new w A0 z0.length c0 B0 ps0.length d0 25).next b2
  have hM : NetAt V2 (w.heap.size + 1) A1 z1.length c1 B1 ps1.length d1 := (NetFree.new V1 A1 z1.length c1 B1 ps1.length d1 25 _ s1.symm).1
  clear s1 b2
  have ⟨x0, x1⟩ := hN
  have ⟨y0, y1⟩ := hM
  go_enter Try.func4, Try.ntmps4
  go_wp2_with fail
  refine (HI.out.szL c0 d0 1048576 (by omega) (by omega) V2 hb).mono ?_
  rintro e wa ⟨r, rfl, hr, hba⟩
  have hN := hN.next hba
  have hM := hM.next hba
  have hb := bnext hb hba
  clear x0 x1 y0 y1 hba
  have ⟨x0, x1⟩ := hN
  have ⟨y0, y1⟩ := hM
  rcases hr with rfl | ⟨r0, r1, q0, q1⟩
  · go_wp2
    go_ret
    exact ⟨rfl, hb⟩
  · go_wp2_with fail
    refine (HJ.out.szL c1 d1 r r0 r1 wa hb).mono ?_
    rintro e wb ⟨s, rfl, hs, hbb⟩
    have hN := hN.next hbb
    have hM := hM.next hbb
    have hb := bnext hb hbb
    clear x0 x1 y0 y1 hbb r0 r1
    have ⟨x0, x1⟩ := hN
    have ⟨y0, y1⟩ := hM
    rcases hs with rfl | ⟨s0, s1, q2, q3⟩
    · go_wp2
      go_ret
      exact ⟨rfl, hb⟩
    · clear s1
      have hbr : Below w.heap.size w wb.drew := below_drewN hb 1
      have hNr : NetAt wb.drew w.heap.size A0 z0.length c0 B0 ps0.length d0 := hN
      have hMr : NetAt wb.drew (w.heap.size + 1) A1 z1.length c1 B1 ps1.length d1 := hM
      clear hN hM hb
      clear_value V1 V2
      have tok : True := True.intro
      go_wp2_with fail
      go_region_held3 (fun w' => w'.cell? ⟨w.heap.size, 0, none⟩ = some (.slice A0 z0.length c0) ∧ w'.cell? ⟨w.heap.size, 1, none⟩ = some (.slice B0 ps0.length d0) ∧ w'.cell? ⟨w.heap.size + 1, 0, none⟩ = some (.slice A1 z1.length c1) ∧ w'.cell? ⟨w.heap.size + 1, 1, none⟩ = some (.slice B1 ps1.length d1)) (exact ⟨x0, x1, y0, y1⟩) (first | (clear tok; go_at_call 17; refine (HI.out.copy c0 d0 _ hbr q0 q1).mono ?_; rintro e w1 ⟨A2, c2, B2, d2, rfl, o2, p2, hb1⟩; have hC : NetCells w1 A2 z0 B2 ps0 := ⟨owns_cells o2, pcells_of p2⟩; have hbs := bnext hbr hb1; have hNr := hNr.next hb1; have hMr := hMr.next hb1; have ⟨x0, x1⟩ := hNr; have ⟨y0, y1⟩ := hMr) | (go_at_call 17; refine (HJ.out.copy c1 d1 _ hbs q2 q3).mono ?_; rintro e w2 ⟨A3, c3, B3, d3, rfl, o3, p3, hb2⟩; have hD : NetCells w2 A3 z1 B3 ps1 := ⟨owns_cells o3, pcells_of p3⟩; have hC := hC.next hb2; have hbt := bnext hbs hb2; have hNr := hNr.next hb2; have hMr := hMr.next hb2; have ⟨x0, x1⟩ := hNr; have ⟨y0, y1⟩ := hMr) | (go_at_call 20; refine (specSame_any A2 B2 A3 B3 c2 d2 c3 d3 z0 z1 ps0 ps1 w2 q0 q2 q1 q3 hC hD).mono ?_; rintro e w3 ⟨vs, rfl, hvs, hb3⟩; have HVS := Lib.hid hvs; have hb := bnext hbt hb3; have hNr := hNr.next hb3; have hMr := hMr.next hb3; have ⟨x0, x1⟩ := hNr; have ⟨y0, y1⟩ := hMr))
      have hN := hNr
      have hM := hMr
      clear hbr hbs hbt hC hD hvs x0 x1 y0 y1 hNr hMr
      have ⟨x0, x1⟩ := hN
      have ⟨y0, y1⟩ := hM
      go_wp2_with fail
      refine (HI.out.copy c0 d0 _ hb q0 q1).mono ?_
      rintro e w4 ⟨A4, c4, B4, d4, rfl, o4, p4, hb4⟩
      have hC : NetCells w4 A4 z0 B4 ps0 := ⟨owns_cells o4, pcells_of p4⟩
      have hN := (hN.next hb4).next (bal (Below.refl _ _) (.cells #[.slice A4 z0.length c4, .slice B4 ps0.length d4] 30))
      have hM := (hM.next hb4).next (bal (Below.refl _ _) (.cells #[.slice A4 z0.length c4, .slice B4 ps0.length d4] 30))
      have hX := NetAt.new w4 A4 z0.length c4 B4 ps0.length d4 30
      have hb := bal (bnext hb hb4) (.cells #[.slice A4 z0.length c4, .slice B4 ps0.length d4] 30)
      have hC := hC.next (bal (Below.refl _ _) (.cells #[.slice A4 z0.length c4, .slice B4 ps0.length d4] 30))
      clear x0 x1 y0 y1 hb4 o4 p4
      have ⟨x0, x1⟩ := hN
      have ⟨y0, y1⟩ := hM
      have ⟨u0, u1⟩ := hX
      go_wp2_with fail
      refine (HJ.out.copy c1 d1 _ hb q2 q3).mono ?_
      rintro e w5 ⟨A5, c5, B5, d5, rfl, o5, p5, hb5⟩
      have hD : NetCells w5 A5 z1 B5 ps1 := ⟨owns_cells o5, pcells_of p5⟩
      have hC := (hC.next hb5).next (bal (Below.refl _ _) (.cells #[.slice A5 z1.length c5, .slice B5 ps1.length d5] 30))
      have hX := (hX.next hb5).next (bal (Below.refl _ _) (.cells #[.slice A5 z1.length c5, .slice B5 ps1.length d5] 30))
      have hN := (hN.next hb5).next (bal (Below.refl _ _) (.cells #[.slice A5 z1.length c5, .slice B5 ps1.length d5] 30))
      have hM := (hM.next hb5).next (bal (Below.refl _ _) (.cells #[.slice A5 z1.length c5, .slice B5 ps1.length d5] 30))
      have hY := NetAt.new w5 A5 z1.length c5 B5 ps1.length d5 30
      have hb := bal (bnext hb hb5) (.cells #[.slice A5 z1.length c5, .slice B5 ps1.length d5] 30)
      have hD := hD.next (bal (Below.refl _ _) (.cells #[.slice A5 z1.length c5, .slice B5 ps1.length d5] 30))
      clear x0 x1 y0 y1 u0 u1 hb5 o5 p5
      have ⟨x0, x1⟩ := hN
      have ⟨y0, y1⟩ := hM
      have ⟨u0, u1⟩ := hX
      have ⟨v0, v1⟩ := hY
      go_wp2_with fail
      refine (implSame_any A4 B4 A5 B5 c4 d4 c5 d5 z0 z1 ps0 ps1 _ q0 q2 q1 q3 hC hD).mono ?_
      rintro e w6 ⟨vi, rfl, hvi, hb6⟩
      have hVV : (vi == vs) = true := by
        have h : vi = vs := Bool.eq_iff_iff.mpr (hvi.trans HVS.out.symm)
        rw [h]; simp
      have hN := hN.next hb6
      have hM := hM.next hb6
      have hX := hX.next hb6
      have hY := hY.next hb6
      have hC := hC.next hb6
      have hD := hD.next hb6
      have hb := bnext hb hb6
      clear x0 x1 y0 y1 u0 u1 v0 v1 hb6 hvi HVS
      have hbr : Below w.heap.size w w6.drew := below_drewN hb 1
      have hNr : NetAt w6.drew w.heap.size A0 z0.length c0 B0 ps0.length d0 := hN
      have hMr : NetAt w6.drew (w.heap.size + 1) A1 z1.length c1 B1 ps1.length d1 := hM
      have hXr : NetAt w6.drew w4.heap.size A4 z0.length c4 B4 ps0.length d4 := hX
      have hYr : NetAt w6.drew w5.heap.size A5 z1.length c5 B5 ps1.length d5 := hY
      have hCr : NetCells w6.drew A4 z0 B4 ps0 := hC
      have hDr : NetCells w6.drew A5 z1 B5 ps1 := hD
      clear hN hM hX hY hC hD hb
      have ⟨x0, x1⟩ := hNr
      have ⟨y0, y1⟩ := hMr
      have ⟨u0, u1⟩ := hXr
      have ⟨v0, v1⟩ := hYr
      go_wp2_with fail
      go_region_held3 (fun w' => w'.cell? ⟨w.heap.size, 0, none⟩ = some (.slice A0 z0.length c0) ∧ w'.cell? ⟨w.heap.size, 1, none⟩ = some (.slice B0 ps0.length d0) ∧ w'.cell? ⟨w.heap.size + 1, 0, none⟩ = some (.slice A1 z1.length c1) ∧ w'.cell? ⟨w.heap.size + 1, 1, none⟩ = some (.slice B1 ps1.length d1) ∧ w'.cell? ⟨w4.heap.size, 0, none⟩ = some (.slice A4 z0.length c4) ∧ w'.cell? ⟨w4.heap.size, 1, none⟩ = some (.slice B4 ps0.length d4) ∧ w'.cell? ⟨w5.heap.size, 0, none⟩ = some (.slice A5 z1.length c5) ∧ w'.cell? ⟨w5.heap.size, 1, none⟩ = some (.slice B5 ps1.length d5)) (exact ⟨x0, x1, y0, y1, u0, u1, v0, v1⟩) (first | (go_at_call 17; refine (HI.out.copy c0 d0 _ hbr q0 q1).mono ?_; rintro e w7 ⟨A7, c7, B7, d7, rfl, o7, p7, hb7⟩; have hC7 : NetCells w7 A7 z0 B7 ps0 := ⟨owns_cells o7, pcells_of p7⟩; have hC5 := hCr.next hb7; have hD5 := hDr.next hb7; have hbs := bnext hbr hb7; have hNr := hNr.next hb7; have hMr := hMr.next hb7; have hXr := hXr.next hb7; have hYr := hYr.next hb7; have ⟨x0, x1⟩ := hNr; have ⟨y0, y1⟩ := hMr; have ⟨u0, u1⟩ := hXr; have ⟨v0, v1⟩ := hYr) | (go_at_call 19; refine (eqNet_same A4 B4 _ _ c4 d4 _ _ z0 ps0 _ M1 M2 hC5.1 hC5.2 hC7.1 hC7.2).mono ?_; rintro e w8 ⟨rfl, hb8⟩; have hbt := bnext hbs hb8; have hDs := hD5.next hb8; have hNr := hNr.next hb8; have hMr := hMr.next hb8; have hXr := hXr.next hb8; have hYr := hYr.next hb8; have ⟨x0, x1⟩ := hNr; have ⟨y0, y1⟩ := hMr; have ⟨u0, u1⟩ := hXr; have ⟨v0, v1⟩ := hYr))
      have hbq : Below w.heap.size w w8.drew := below_drewN hbt 1
      have hNq : NetAt w8.drew w.heap.size A0 z0.length c0 B0 ps0.length d0 := hNr
      have hMq : NetAt w8.drew (w.heap.size + 1) A1 z1.length c1 B1 ps1.length d1 := hMr
      have hXq : NetAt w8.drew w4.heap.size A4 z0.length c4 B4 ps0.length d4 := hXr
      have hYq : NetAt w8.drew w5.heap.size A5 z1.length c5 B5 ps1.length d5 := hYr
      have hDq : NetCells w8.drew A5 z1 B5 ps1 := hDs
      clear x0 x1 y0 y1 u0 u1 v0 v1 hNr hMr hXr hYr hDs hbt hbs hC7
      have ⟨x0, x1⟩ := hNq
      have ⟨y0, y1⟩ := hMq
      have ⟨u0, u1⟩ := hXq
      have ⟨v0, v1⟩ := hYq
      go_wp2_with fail
      go_region_held3 (fun w' => w'.cell? ⟨w.heap.size, 0, none⟩ = some (.slice A0 z0.length c0) ∧ w'.cell? ⟨w.heap.size, 1, none⟩ = some (.slice B0 ps0.length d0) ∧ w'.cell? ⟨w.heap.size + 1, 0, none⟩ = some (.slice A1 z1.length c1) ∧ w'.cell? ⟨w.heap.size + 1, 1, none⟩ = some (.slice B1 ps1.length d1) ∧ w'.cell? ⟨w4.heap.size, 0, none⟩ = some (.slice A4 z0.length c4) ∧ w'.cell? ⟨w4.heap.size, 1, none⟩ = some (.slice B4 ps0.length d4) ∧ w'.cell? ⟨w5.heap.size, 0, none⟩ = some (.slice A5 z1.length c5) ∧ w'.cell? ⟨w5.heap.size, 1, none⟩ = some (.slice B5 ps1.length d5)) (exact ⟨x0, x1, y0, y1, u0, u1, v0, v1⟩) (first | (go_at_call 17; refine (HJ.out.copy c1 d1 _ hbq q2 q3).mono ?_; rintro e w9 ⟨A9, c9, B9, d9, rfl, o9, p9, hb9⟩; have hC9 : NetCells w9 A9 z1 B9 ps1 := ⟨owns_cells o9, pcells_of p9⟩; have hD9 := hDq.next hb9; have hbu := bnext hbq hb9; have hNq := hNq.next hb9; have hMq := hMq.next hb9; have hXq := hXq.next hb9; have hYq := hYq.next hb9; have ⟨x0, x1⟩ := hNq; have ⟨y0, y1⟩ := hMq; have ⟨u0, u1⟩ := hXq; have ⟨v0, v1⟩ := hYq) | (go_at_call 19; refine (eqNet_same A5 B5 _ _ c5 d5 _ _ z1 ps1 _ M3 M4 hD9.1 hD9.2 hC9.1 hC9.2).mono ?_; rintro e wz ⟨rfl, hbz⟩; have hbt := bnext hbu hbz; have hNq := hNq.next hbz; have hMq := hMq.next hbz; have hXq := hXq.next hbz; have hYq := hYq.next hbz; have ⟨x0, x1⟩ := hNq; have ⟨y0, y1⟩ := hMq; have ⟨u0, u1⟩ := hXq; have ⟨v0, v1⟩ := hYq))
      go_wp2
      go_ret
      exact ⟨rfl, hbt⟩

theorem own : ownKnob Try.prog.godebug = none := by kernel_rfl
theorem laidOut : laidOutB Try.prog = true := by kernel_rfl

set_option maxRecDepth 100000 in
theorem lifted (os : Os) (started : os.Started) (H : Type) (enc : TypeId × Value → H) :
    ReturnsInHanded {} Try.checked os 4 .any (Rows.fnExactSameNetworkSpec.pre6 enc Try.prog Try.f4 Rows.fnExactSameNetworkRow.domain false) (Rows.fnExactSameNetworkSpec.post enc Try.prog Try.f4 false true false false) := by
  refine returnsInHanded_of_change (C := Try.checked) own started (by kernel_rfl) Try.func4
    (ChangeSpec.witness6 (enc := enc) (C := Try.checked) false ⟨#[], #[.agg #[.slice none 0 0, .slice none 0 0], .agg #[.slice none 0 0, .slice none 0 0]], []⟩ 8 (by kernel_rfl) (by kernel_rfl) (by kernel_rfl) (by kernel_rfl)) ?_
  intro W base args ds gs before hval0 hW hcnd _
  have hval : ∀ (j : Nat) t v, Try.f4.params[j]? = some t → args[j]? = some v → Value.okWide Try.prog W .any base t v := hval0
  have hW' := hW
  obtain ⟨p, q, hA0, hV, rfl, hfz, hnd⟩ := hW
  have hA : DataW.TrodAll enc Try.prog W 0 (fun _ => true) true Try.f4.params.toList args.toList ds p := hA0
  rw [Try.params4] at hA hval
  obtain ⟨v0, vs0, d0, ds0, p0, q0, hargs, rfl, rfl, h0, r0⟩ := trodAll_cons hA
  obtain ⟨v1, vs1, d1, ds1, p1, q1, rfl, rfl, rfl, h1, r1⟩ := trodAll_cons r0
  obtain ⟨rfl, rfl, rfl⟩ := trodAll_nil r1
  obtain rfl : args = #[v0, v1] := by cases args; simp_all
  obtain ⟨rfl, rfl⟩ := trodVars_none hV
  have k0 := h0
  have lt0 : ∀ x ∈ p0, x.block < W.heap.size := by obtain ⟨m, hm⟩ := k0; exact DataW.trod_lt m _ _ _ hm
  obtain ⟨A0, n0, c0, z0, B0, m0, dd0, ps0, rfl, wz0, wp0⟩ := open_net (hval 0 25 v0 rfl rfl) h0
  have w0 := And.intro wz0 wp0
  have k1 := h1
  have lt1 : ∀ x ∈ p1, x.block < W.heap.size := by obtain ⟨m, hm⟩ := k1; exact DataW.trod_lt m _ _ _ hm
  obtain ⟨A1, n1, c1, z1, B1, m1, dd1, ps1, rfl, wz1, wp1⟩ := open_net (hval 1 25 v1 rfl rfl) h1
  have w1 := And.intro wz1 wp1
  clear hA0 hval0
  refine (walk A0 n0 c0 z0 B0 m0 dd0 ps0 A1 n1 c1 z1 B1 m1 dd1 ps1 W w0 w1).mono fun e W' ⟨he, bel⟩ => ?_
  subst he
  exact ⟨_, rfl, _, _, _, [], _, [], hW', trodAll_mk1 (shut_bool Try.underlying4 _), (trodAll_cons_mk (Below.trod laidOut (by kernel_rfl) (of_decide_eq_true (by kernel_rfl)) k0 bel lt0) (trodAll_cons_mk (Below.trod laidOut (by kernel_rfl) (of_decide_eq_true (by kernel_rfl)) k1 bel lt1) trodAll_mk0)), rfl, bel.frame _, fun h => by cases h⟩

theorem over : Rows.fnExactSameNetworkRow.holds Try.pinned (OpenSpec.ofChange Rows.fnExactSameNetworkSpec) :=
  OpenClaim.holds_of_wide 4 Try.f4 rfl rfl rfl rfl rfl rfl rfl ⟨rfl, rfl, rfl, rfl, rfl⟩ rfl rfl rfl rfl rfl (by kernel_rfl) Try.func4 (by kernel_rfl)
    (of_decide_eq_true (by kernel_rfl)) (by unfold Func.isWrapper; first | (rw [if_pos (by decide +kernel)]; kernel_rfl) | (rw [if_neg (by decide +kernel)]; exact ⟨rfl, rfl⟩))
    (fun os started H enc _ => lifted os started H enc)

theorem proved : Rows.FnExactSameNetworkSaid :=
  over
#print axioms proved
end Go.Proofs.Ytmopnkkpcgiafaa.fnExactSameNetwork
