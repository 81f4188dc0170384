import Derived.Test.YtgdafgnjaogmeaaWp2
import Derived.Test.YtgdafgnjaogmeaaI0
import Derived.Test.YtgdafgnjaogmeaaH1
import Derived.Deep.RegionHeld3
import Derived.Test.YtgdafgnjaogmeaaG0
import Derived.ShutString
import Derived.ChangeOld
/-
  FnExactWorstPipes: for every input the law returns true and its arguments read as before. No condition.
-/
namespace Go.Proofs.Ytgdafgnjaogmeaa.fnExactWorstPipes
open Go.ChangeShapes Go.WideShapes Go.ChangeAt Go.RowKit
open Go.ChangeMaps (open_string shut_string)
set_option linter.unusedVariables false

set_option maxRecDepth 100000
set_option maxHeartbeats 1600000

theorem walk (A0 : Option Addr) (n0 c0 : Nat) (z0 : List Int) (B0 : Option Addr) (m0 d0 : Nat) (ps0 : List Pp) (a1 : Int) (w : World) (w0 : SliceIn .i64 w A0 n0 z0 ∧ PipesIn w B0 m0 ps0) (w1 : (Lit.int .i64 a1).wf = true) :
    Calls Try.prog 10 #[.agg #[.slice A0 n0 c0, .slice B0 m0 d0], .int .i64 a1] w fun e w' => e = .returned (.bool true) ∧ Below w.heap.size w w' := by
  have hI : NetIn w A0 n0 z0 B0 m0 ps0 := w0
  have HI := Lib.hid hI
  have hid := w0.2.2.2.2
  have M1 := w0.1.2.1
  have M2 := w0.2.2.1
  obtain rfl : z0.length = n0 := w0.1.1
  obtain rfl : ps0.length = m0 := w0.2.1
  have HD := Lib.hid hid
  clear hid hI w0
  have hN := NetAt.new w A0 z0.length c0 B0 ps0.length d0 35
  have hb : Below w.heap.size w (w.alloc (.cells #[.slice A0 z0.length c0, .slice B0 ps0.length d0] 35)) := bal (Below.refl _ _) _
  have hlow : w.heap.size < (w.alloc (.cells #[.slice A0 z0.length c0, .slice B0 ps0.length d0] 35)).heap.size := by simp
  have ⟨x0, x1⟩ := hN
  go_enter Try.func10, Try.ntmps10
  go_wp2_with fail
  refine (HI.out.szN c0 d0 _ hb).mono ?_
  rintro e wa ⟨r, rfl, hr, hba⟩
  have hN := hN.next hba
  have hb := bnext hb hba
  have hlow := Nat.lt_of_lt_of_le hlow hba.size
  clear x0 x1 hba
  have ⟨x0, x1⟩ := hN
  rcases hr with rfl | ⟨r0, hn, hm⟩
  · go_wp2
    go_ret
    exact ⟨rfl, hb⟩
  · have HV := Lib.hid (fun A B c d wx (h : NetCells wx A z0 B ps0) => specWorstPipes_ic A B c d z0 ps0 a1 wx h hn hm HD.out)
    have HW := Lib.hid (fun A B c d wx (h : NetCells wx A z0 B ps0) => implWorstPipes_ic A B c d z0 ps0 a1 wx h hn hm HD.out)
    have hX1 := worstPipesX_short z0 ps0 a1 hn hm
    generalize worstPipesX z0 ps0 a1 = X at *
    generalize worstPipesC z0 ps0 a1 = C at *
    have hCC : (C != C) = false := by simp
    have hXm : X.length ≤ maxLen := by unfold maxLen; omega
    go_wp2_with fail
    refine (HI.out.copy c0 d0 _ hb hn hm).mono ?_
    rintro e w1 ⟨A1, c1, B1, d1, rfl, o1, q1, hb1⟩
    have hC1 : NetCells w1 A1 z0 B1 ps0 := ⟨owns_cells o1, pcells_of q1⟩
    have hN := hN.next hb1
    have hb := bnext hb hb1
    have hlow := Nat.lt_of_lt_of_le hlow hb1.size
    clear x0 x1 hb1 o1 q1
    have ⟨x0, x1⟩ := hN
    go_wp2_with fail
    refine (HV.out A1 B1 c1 d1 w1 hC1).mono ?_
    rintro e w2 ⟨A2, c2, rfl, o2, hb2⟩
    have S2 := owns_cells o2
    have L2 := owns_lies o2
    have hN := hN.next hb2
    have hb := bnext hb hb2
    have hlow := Nat.lt_of_lt_of_le hlow hb2.size
    clear x0 x1 hb2 o2 hC1
    have ⟨x0, x1⟩ := hN
    go_wp2_with fail
    refine (HI.out.copy c0 d0 _ hb hn hm).mono ?_
    rintro e w3 ⟨A3, c3, B3, d3, rfl, O3, Q3, hb3⟩
    have hal : Below w3.heap.size w3 (w3.alloc (.cells #[.slice A3 z0.length c3, .slice B3 ps0.length d3] 40)) := bal (Below.refl _ _) _
    have lA := owns_lies O3
    have lB := owns_lies6 Q3
    have S2 := (S2.next hb3).next hal
    have O3 := owns_below O3 hal (Nat.le_refl _)
    have Q3 := owns6_below Q3 hal (Nat.le_refl _)
    have hN := (hN.next hb3).next hal
    have hX := NetAt.new w3 A3 z0.length c3 B3 ps0.length d3 40
    have hb := bnext (bnext hb hb3) hal
    have hlo : w3.heap.size ≤ (w3.alloc (.cells #[.slice A3 z0.length c3, .slice B3 ps0.length d3] 40)).heap.size := hal.size
    have h23 : w2.heap.size ≤ w3.heap.size := hb3.size
    clear x0 x1 hb3 hal
    have ⟨x0, x1⟩ := hN
    have ⟨y0, y1⟩ := hX
    go_wp2_with fail
    refine (HW.out A3 B3 c3 d3 _ ⟨owns_cells O3, pcells_of Q3⟩).mono ?_
    rintro e w4 ⟨A4, c4, rfl, O4, hb4⟩
    have O4 := owns_base (base' := w3.heap.size) O4 hlo
    have S2 := S2.next hb4
    have O3 := owns_below O3 hb4 (Nat.le_refl _)
    have Q3 := owns6_below Q3 hb4 (Nat.le_refl _)
    have hN := hN.next hb4
    have hX := hX.next hb4
    have hb := bnext hb hb4
    have hlo := Nat.le_trans hlo hb4.size
    clear x0 x1 y0 y1 hb4
    have ⟨x0, x1⟩ := hN
    have ⟨y0, y1⟩ := hX
    go_wp2_with fail
    refine (eqInts_same A4 A2 c4 c2 X _ hXm (owns_cells O4) S2).mono ?_
    rintro e w5 ⟨rfl, hd5⟩
    have hb5 := drawn_below hd5
    have S2 := S2.next hb5
    have O3 := owns_below O3 hb5 (Nat.le_refl _)
    have Q3 := owns6_below Q3 hb5 (Nat.le_refl _)
    have O4 := owns_below O4 hb5 (Nat.le_refl _)
    have hN := hN.next hb5
    have hX := hX.next hb5
    have hb := bnext hb hb5
    have hlo := Nat.le_trans hlo hb5.size
    clear x0 x1 y0 y1 hb5 hd5
    have ⟨x0, x1⟩ := hN
    have ⟨y0, y1⟩ := hX
    go_wp2_with fail
    have hdr : Below w5.heap.size w5 w5.drew := below_drewN (Below.refl _ _) 1
    have S2 := S2.next hdr
    have O3 := owns_below O3 hdr (Nat.le_refl _)
    have Q3 := owns6_below Q3 hdr (Nat.le_refl _)
    have O4 := owns_below O4 hdr (Nat.le_refl _)
    have hN := hN.next hdr
    have hX := hX.next hdr
    have hb := bnext hb hdr
    have hlo : w3.heap.size ≤ w5.drew.heap.size := hlo
    clear x0 x1 y0 y1 hdr
    have ⟨x0, x1⟩ := hN
    have ⟨y0, y1⟩ := hX
    go_region_held3 (fun w' => w'.cell? ⟨w.heap.size, 0, none⟩ = some (.slice A0 z0.length c0) ∧ w'.cell? ⟨w.heap.size, 1, none⟩ = some (.slice B0 ps0.length d0) ∧ w'.cell? ⟨w3.heap.size, 0, none⟩ = some (.slice A3 z0.length c3) ∧ w'.cell? ⟨w3.heap.size, 1, none⟩ = some (.slice B3 ps0.length d3)) (exact ⟨x0, x1, y0, y1⟩) (first | (go_at_call 22; refine (HI.out.copy c0 d0 _ hb hn hm).mono ?_; rintro e w6 ⟨A6, c6, B6, d6, rfl, o6, q6, hb6⟩; have hD6 : NetCells w6 A6 z0 B6 ps0 := ⟨owns_cells o6, pcells_of q6⟩; have S2 := S2.next hb6; have O3 := owns_below O3 hb6 (Nat.le_refl _); have Q3 := owns6_below Q3 hb6 (Nat.le_refl _); have O4 := owns_below O4 hb6 (Nat.le_refl _); have hb := bnext hb hb6; have hlo := Nat.le_trans hlo hb6.size; have hN := hN.next hb6; have hX := hX.next hb6; have ⟨x0, x1⟩ := hN; have ⟨y0, y1⟩ := hX) | (go_at_call 24; refine (eqNet_same A3 B3 _ _ c3 d3 _ _ z0 ps0 _ M1 M2 (owns_cells O3) (pcells_of Q3) hD6.1 hD6.2).mono ?_; rintro e w7 ⟨rfl, hb7⟩; have S2 := S2.next hb7; have O3 := owns_below O3 hb7 (Nat.le_refl _); have Q3 := owns6_below Q3 hb7 (Nat.le_refl _); have O4 := owns_below O4 hb7 (Nat.le_refl _); have hb := bnext hb hb7; have hlo := Nat.le_trans hlo hb7.size; have hN := hN.next hb7; have hX := hX.next hb7; have ⟨x0, x1⟩ := hN; have ⟨y0, y1⟩ := hX))
    go_wp2_with fail
    have hw7 : w2.heap.size ≤ w7.heap.size := Nat.le_trans h23 hlo
    refine (markNet_any A3 B3 z0.length c3 ps0.length d3 w2.heap.size _ _ 1 _ (by omega) (by omega) O3 Q3).mono ?_
    rintro e w8 ⟨rfl, _, _, hT⟩
    obtain ⟨k1, k2, k3, k4⟩ := two_keeps (w0 := w) hT O3 Q3 lA lB
    have hN := hN.keep (k1 _ hlow hN.lies)
    have S2 := S2.keep (fun b off e => k1 b (L2 b off e) (Nat.lt_of_lt_of_le (L2 b off e) hw7))
    have O4 := owns_keep O4 (fun b e => k2 b (O4.lt b e).1 (O4.lt b e).2)
    have hb := k3 _ (Nat.le_of_lt hlow) (Nat.le_trans (Nat.le_of_lt hlow) hw7) hb
    have hlo := Nat.le_trans hlo k4
    have hkn : ¬ (1 + (z0.length : Int) + 6 * (ps0.length : Int) < 0) := by omega
    clear x0 x1 y0 y1 hX O3 Q3 hT k1 k2 k3 k4 lA lB hw7
    have ⟨x0, x1⟩ := hN
    go_wp2_with fail
    refine (eqInts_same A4 A2 c4 c2 X _ hXm (owns_cells O4) S2).mono ?_
    rintro e w9 ⟨rfl, hd9⟩
    have hb9 := drawn_below hd9
    have S2 := S2.next hb9
    have O4 := owns_below O4 hb9 (Nat.le_refl _)
    have hN := hN.next hb9
    have hb := bnext hb hb9
    have hlo := Nat.le_trans hlo hb9.size
    clear x0 x1 hb9 hd9
    have ⟨x0, x1⟩ := hN
    go_wp2_with fail
    refine (markInts_any A4 c4 X.length w3.heap.size (intsV X) 1 _ (by omega) (by omega) O4).mono ?_
    rintro e w10 ⟨rfl, OM, hg⟩
    obtain ⟨k1, k2, k3⟩ := one_keeps (w0 := w) hg O4
    have hN := hN.keep (k1 _ (Nat.lt_of_lt_of_le hlow h23) hN.lies)
    have S2 := S2.keep (fun b off e => k1 b (Nat.lt_of_lt_of_le (L2 b off e) h23) (Nat.lt_of_lt_of_le (L2 b off e) (Nat.le_trans h23 hlo)))
    have hb := k2 _ (Nat.le_trans (Nat.le_of_lt hlow) h23) (Nat.le_trans (Nat.le_trans (Nat.le_of_lt hlow) h23) hlo) hb
    have hneg : ¬ (1 + (X.length : Int) < 0) := by omega
    clear x0 x1 hg k1 k2 k3 O4
    have ⟨x0, x1⟩ := hN
    go_wp2_with fail
    refine (heldInts_any A4 c4 X.length 1 _ (by omega) (by omega) hXm (owns_cells OM)).mono ?_
    rintro e w11 ⟨rfl, hd⟩
    have hb11 := drawn_below hd
    have S2 := S2.next hb11
    have OM := owns_below OM hb11 (Nat.le_refl _)
    have hN := hN.next hb11
    have hb := bnext hb hb11
    clear x0 x1 hb11 hd
    have ⟨x0, x1⟩ := hN
    go_wp2_with fail
    refine (HI.out.copy c0 d0 _ hb hn hm).mono ?_
    rintro e w12 ⟨A7, c7, B7, d7, rfl, o7, q7, hb12⟩
    have hC7 : NetCells w12 A7 z0 B7 ps0 := ⟨owns_cells o7, pcells_of q7⟩
    have S2 := S2.next hb12
    have OM := owns_below OM hb12 (Nat.le_refl _)
    have hb := bnext hb hb12
    clear x0 x1 hb12 o7 q7 hN
    go_wp2_with fail
    refine (HW.out A7 B7 c7 d7 _ hC7).mono ?_
    rintro e w13 ⟨A8, c8, rfl, O8, hb13⟩
    have S2 := S2.next hb13
    have OM := owns_below OM hb13 (Nat.le_refl _)
    have hb := bnext hb hb13
    clear hb13 hC7
    go_wp2_with fail
    refine (eqInts_same A8 A2 c8 c2 X _ hXm (owns_cells O8) S2).mono ?_
    rintro e w14 ⟨rfl, hd⟩
    have hb14 := drawn_below hd
    have OM := owns_below OM hb14 (Nat.le_refl _)
    have hb := bnext hb hb14
    clear hb14 hd S2 O8
    go_wp2_with fail
    refine (heldInts_any A4 c4 X.length 1 _ (by omega) (by omega) hXm (owns_cells OM)).mono ?_
    rintro e w15 ⟨rfl, hd⟩
    have hb := bnext hb (drawn_below hd)
    go_wp2
    go_ret
    exact ⟨rfl, hb⟩

theorem own : ownKnob Try.prog.godebug = none := by kernel_rfl
theorem laidOut : laidOutB Try.prog = true := by kernel_rfl

set_option maxRecDepth 100000 in
theorem lifted (os : Os) (started : os.Started) (H : Type) (enc : TypeId × Value → H) :
    ReturnsInHanded {} Try.checked os 10 .any (Rows.fnExactWorstPipesSpec.pre6 enc Try.prog Try.f10 Rows.fnExactWorstPipesRow.domain false) (Rows.fnExactWorstPipesSpec.post enc Try.prog Try.f10 false true false false) := by
  refine returnsInHanded_of_change (C := Try.checked) own started (by kernel_rfl) Try.func10
    (ChangeSpec.witness6 (enc := enc) (C := Try.checked) false ⟨#[], #[.agg #[.slice none 0 0, .slice none 0 0], .int .i64 0], []⟩ 8 (by kernel_rfl) (by kernel_rfl) (by kernel_rfl) (by kernel_rfl)) ?_
  intro W base args ds gs before hval0 hW hcnd _
  have hval : ∀ (j : Nat) t v, Try.f10.params[j]? = some t → args[j]? = some v → Value.okWide Try.prog W .any base t v := hval0
  have hW' := hW
  obtain ⟨p, q, hA0, hV, rfl, hfz, hnd⟩ := hW
  have hA : DataW.TrodAll enc Try.prog W 0 (fun _ => true) true Try.f10.params.toList args.toList ds p := hA0
  rw [Try.params10] at hA hval
  obtain ⟨v0, vs0, d0, ds0, p0, q0, hargs, rfl, rfl, h0, r0⟩ := trodAll_cons hA
  obtain ⟨v1, vs1, d1, ds1, p1, q1, rfl, rfl, rfl, h1, r1⟩ := trodAll_cons r0
  obtain ⟨rfl, rfl, rfl⟩ := trodAll_nil r1
  obtain rfl : args = #[v0, v1] := by cases args; simp_all
  obtain ⟨rfl, rfl⟩ := trodVars_none hV
  have k0 := h0
  have lt0 : ∀ x ∈ p0, x.block < W.heap.size := by obtain ⟨m, hm⟩ := k0; exact DataW.trod_lt m _ _ _ hm
  obtain ⟨A0, n0, c0, z0, B0, m0, dd0, ps0, rfl, wz0, wp0⟩ := open_net (hval 0 35 v0 rfl rfl) h0
  have w0 := And.intro wz0 wp0
  obtain ⟨a1, rfl, rfl, rfl, w1⟩ := open_int Try.underlying2 (hval 1 2 v1 rfl rfl) h1
  clear hA0 hval0
  refine (walk A0 n0 c0 z0 B0 m0 dd0 ps0 a1 W w0 w1).mono fun e W' ⟨he, bel⟩ => ?_
  subst he
  exact ⟨_, rfl, _, _, _, [], _, [], hW', trodAll_mk1 (shut_bool Try.underlying4 _), (trodAll_cons_mk (Below.trod laidOut (by kernel_rfl) (of_decide_eq_true (by kernel_rfl)) k0 bel lt0) (trodAll_cons_mk (shut_int Try.underlying2 w1) trodAll_mk0)), rfl, bel.frame _, fun h => by cases h⟩

theorem over : Rows.fnExactWorstPipesRow.holds Try.pinned (OpenSpec.ofChange Rows.fnExactWorstPipesSpec) :=
  OpenClaim.holds_of_wide 10 Try.f10 rfl rfl rfl rfl rfl rfl rfl ⟨rfl, rfl, rfl, rfl, rfl⟩ rfl rfl rfl rfl rfl (by kernel_rfl) Try.func10 (by kernel_rfl)
    (of_decide_eq_true (by kernel_rfl)) (by unfold Func.isWrapper; first | (rw [if_pos (by decide +kernel)]; kernel_rfl) | (rw [if_neg (by decide +kernel)]; exact ⟨rfl, rfl⟩))
    (fun os started H enc _ => lifted os started H enc)

theorem proved : Rows.FnExactWorstPipesSaid :=
  over
#print axioms proved
end Go.Proofs.Ytgdafgnjaogmeaa.fnExactWorstPipes
