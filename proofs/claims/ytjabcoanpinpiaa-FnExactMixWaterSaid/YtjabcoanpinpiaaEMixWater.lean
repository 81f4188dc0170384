/-
  FnExactMixWater: for every input the law returns true and its arguments read as before. No condition.
-/
import Derived.Test.YtjabcoanpinpiaaW7
import Derived.Test.YtjabcoanpinpiaaG0
import Derived.ShutString
import Derived.ChangeOld
namespace Go.Proofs.Ytjabcoanpinpiaa.fnExactMixWater
open Go.ChangeShapes Go.WideShapes Go.ChangeAt Go.RowKit
open Go.ChangeMaps (open_string shut_string)
set_option linter.unusedVariables false

theorem walk (a0 : Option Addr) (len0 cap0 : Nat) (z0 : List Int) (a1 : Option Addr) (len1 cap1 : Nat) (z1 : List Int) (w : World) (w0 : SliceIn .i64 w a0 len0 z0) (w1 : SliceIn .i64 w a1 len1 z1) :
    Calls Try.prog 11 #[.slice a0 len0 cap0, .slice a1 len1 cap1] w fun e w' => e = .returned (.bool true) ∧ Below w.heap.size w w' := by
  obtain ⟨rfl, m0, c0, -⟩ := w0
  obtain ⟨rfl, m1, c1, -⟩ := w1
  have n0 : z0.length ≤ 9223372036854775807 := by unfold maxLen at m0; omega
  have n1 : z1.length ≤ 9223372036854775807 := by unfold maxLen at m1; omega
  have HA : Hid (CellsAt w a0 (intsV z0)) := Lib.hid c0
  have HB : Hid (CellsAt w a1 (intsV z1)) := Lib.hid c1
  clear c0 c1
  by_cases hz0 : z0.length ≤ 1048576
  · by_cases hz1 : z1.length ≤ 1048576
    · have e1 : (mixV z0 z1 != mixV z0 z1) = false := by simp
      have e2 : (mixC z0 z1 != mixC z0 z1) = false := by simp
      have HT0 := Lib.hid (fun wx (h : CellsAt wx a0 (intsV z0)) => toInts_any a0 cap0 z0.length z0 wx rfl hz0 h)
      have HT1 := Lib.hid (fun wx (h : CellsAt wx a1 (intsV z1)) => toInts_any a1 cap1 z1.length z1 wx rfl hz1 h)
      have HS := Lib.hid (fun A B c d wx (hA : CellsAt wx A (intsV z0)) (hB : CellsAt wx B (intsV z1)) => specMixWater_any A B c d z0 z1 wx hA hB hz0 hz1)
      have HI := Lib.hid (fun A B c d wx (hA : CellsAt wx A (intsV z0)) (hB : CellsAt wx B (intsV z1)) => implMixWater_any A B c d z0 z1 wx hA hB hz0 hz1)
      have HE0 := Lib.hid (fun A B c d wx (hA : CellsAt wx A (intsV z0)) (hB : CellsAt wx B (intsV z0)) => eqInts_same A B c d z0 wx m0 hA hB)
      have HE1 := Lib.hid (fun A B c d wx (hA : CellsAt wx A (intsV z1)) (hB : CellsAt wx B (intsV z1)) => eqInts_same A B c d z1 wx m1 hA hB)
      have hb : Below w.heap.size w w := Below.refl _ _
      generalize mixV z0 z1 = V at *
      generalize mixC z0 z1 = C at *
      go_enter Try.func11, Try.ntmps11
      go_wp2_with fail
      refine (HT0.out _ HA.out).mono ?_
      rintro e w1 h1
      obtain ⟨A1, k1, rfl, o1, b1⟩ := retInts_of h1
      have hb1 := bnext hb b1
      have CA1 := Lib.hid (owns_cells o1)
      clear o1 h1
      go_wp2_with fail
      refine (HT1.out _ (HB.out.next hb1)).mono ?_
      rintro e w2 h2
      obtain ⟨B1, k2, rfl, o2, b2⟩ := retInts_of h2
      have hb2 := bnext hb1 b2
      have CA2 := Lib.hid (CA1.out.next b2)
      have CB2 := Lib.hid (owns_cells o2)
      clear o2 h2
      go_wp2_with fail
      refine (HS.out _ _ _ _ _ CA2.out CB2.out).mono ?_
      rintro e w3 ⟨rfl, b3⟩
      have hb3 := bnext hb2 b3
      go_wp2_with fail
      refine (HT0.out _ (HA.out.next hb3)).mono ?_
      rintro e w4 h4
      obtain ⟨A2, k4, rfl, o4, b4⟩ := retInts_of h4
      have hb4 := bnext hb3 b4
      have CA4 := Lib.hid (owns_cells o4)
      clear o4 h4
      go_wp2_with fail
      refine (HT1.out _ (HB.out.next hb4)).mono ?_
      rintro e w5 h5
      obtain ⟨B2, k5, rfl, o5, b5⟩ := retInts_of h5
      have hb5 := bnext hb4 b5
      have CA5 := Lib.hid (CA4.out.next b5)
      have CB5 := Lib.hid (owns_cells o5)
      clear o5 h5
      go_wp2_with fail
      refine (HI.out _ _ _ _ _ CA5.out CB5.out).mono ?_
      rintro e w6 ⟨rfl, b6⟩
      have hb6 := bnext hb5 b6
      have CA6 := Lib.hid (CA5.out.next b6)
      have CB6 := Lib.hid (CB5.out.next b6)
      go_wp2_with fail
      refine (HT0.out _ (HA.out.next hb6)).mono ?_
      rintro e w7 h7
      obtain ⟨A3, k7, rfl, o7, b7⟩ := retInts_of h7
      have hb7 := bnext hb6 b7
      have CA7 := Lib.hid (CA6.out.next b7)
      have CB7 := Lib.hid (CB6.out.next b7)
      have CC7 := Lib.hid (owns_cells o7)
      clear o7 h7
      go_wp2_with fail
      refine (HE0.out _ _ _ _ _ CA7.out CC7.out).mono ?_
      rintro e w8 ⟨rfl, hd8⟩
      obtain ⟨n8, rfl⟩ := hd8
      have hb8 := below_drewN hb7 n8
      go_wp2_with fail
      refine (HT1.out _ (HB.out.next hb8)).mono ?_
      rintro e w9 h9
      obtain ⟨B3, k9, rfl, o9, b9⟩ := retInts_of h9
      have hb9 := bnext hb8 b9
      have CB9 := Lib.hid ((CB7.out.drewN n8).next b9)
      have CC9 := Lib.hid (owns_cells o9)
      clear o9 h9
      go_wp2_with fail
      refine (HE1.out _ _ _ _ _ CB9.out CC9.out).mono ?_
      rintro e w10 ⟨rfl, ⟨n10, rfl⟩⟩
      go_wp2
      go_ret
      exact ⟨rfl, below_drewN hb9 _⟩
    · go_enter Try.func11, Try.ntmps11
      go_wp2
      go_ret
      exact ⟨rfl, Below.refl _ _⟩
  · go_enter Try.func11, Try.ntmps11
    go_wp2
    go_ret
    exact ⟨rfl, Below.refl _ _⟩

theorem own : ownKnob Try.prog.godebug = none := by kernel_rfl
theorem laidOut : laidOutB Try.prog = true := by kernel_rfl

set_option maxRecDepth 100000 in
theorem lifted (os : Os) (started : os.Started) (H : Type) (enc : TypeId × Value → H) :
    ReturnsInHanded {} Try.checked os 11 .any (Rows.fnExactMixWaterSpec.pre6 enc Try.prog Try.f11 Rows.fnExactMixWaterRow.domain false) (Rows.fnExactMixWaterSpec.post enc Try.prog Try.f11 false true false false) := by
  refine returnsInHanded_of_change (C := Try.checked) own started (by kernel_rfl) Try.func11
    (ChangeSpec.witness6 (enc := enc) (C := Try.checked) false ⟨#[], #[.slice none 0 0, .slice none 0 0], []⟩ 8 (by kernel_rfl) (by kernel_rfl) (by kernel_rfl) (by kernel_rfl)) ?_
  intro W base args ds gs before hval0 hW hcnd _
  have hval : ∀ (j : Nat) t v, Try.f11.params[j]? = some t → args[j]? = some v → Value.okWide Try.prog W .any base t v := hval0
  have hW' := hW
  obtain ⟨p, q, hA0, hV, rfl, hfz, hnd⟩ := hW
  have hA : DataW.TrodAll enc Try.prog W 0 (fun _ => true) true Try.f11.params.toList args.toList ds p := hA0
  rw [Try.params11] at hA hval
  obtain ⟨v0, vs0, d0, ds0, p0, q0, hargs, rfl, rfl, h0, r0⟩ := trodAll_cons hA
  obtain ⟨v1, vs1, d1, ds1, p1, q1, rfl, rfl, rfl, h1, r1⟩ := trodAll_cons r0
  obtain ⟨rfl, rfl, rfl⟩ := trodAll_nil r1
  obtain rfl : args = #[v0, v1] := by cases args; simp_all
  obtain ⟨rfl, rfl⟩ := trodVars_none hV
  obtain ⟨a0, len0, cap0, rfl⟩ := okWide_slice Try.underlying35 (hval 0 35 v0 rfl rfl)
  have k0 := h0
  have lt0 : ∀ x ∈ p0, x.block < W.heap.size := by obtain ⟨m, hm⟩ := k0; exact DataW.trod_lt m _ _ _ hm
  obtain ⟨z0, w0⟩ : ∃ zs, SliceIn .i64 W a0 len0 zs := by
    obtain ⟨fuel, hf⟩ := h0
    rcases open_ints Try.underlying35 Try.underlying2 (by kernel_rfl) hf with ⟨hcs, _⟩ | ⟨x, l, c, zs, hcs, _, hl, hm, hz, _, hcell, hwz⟩
    · simp [Value.cells] at hcs
      obtain ⟨rfl, rfl, rfl⟩ := hcs
      exact ⟨[], SliceIn.nil _ _⟩
    · simp [Value.cells] at hcs
      obtain ⟨rfl, rfl, rfl⟩ := hcs
      exact ⟨_, SliceIn.row hl hm (by simpa using hz) hcell hwz⟩
  obtain ⟨a1, len1, cap1, rfl⟩ := okWide_slice Try.underlying35 (hval 1 35 v1 rfl rfl)
  have k1 := h1
  have lt1 : ∀ x ∈ p1, x.block < W.heap.size := by obtain ⟨m, hm⟩ := k1; exact DataW.trod_lt m _ _ _ hm
  obtain ⟨z1, w1⟩ : ∃ zs, SliceIn .i64 W a1 len1 zs := by
    obtain ⟨fuel, hf⟩ := h1
    rcases open_ints Try.underlying35 Try.underlying2 (by kernel_rfl) hf with ⟨hcs, _⟩ | ⟨x, l, c, zs, hcs, _, hl, hm, hz, _, hcell, hwz⟩
    · simp [Value.cells] at hcs
      obtain ⟨rfl, rfl, rfl⟩ := hcs
      exact ⟨[], SliceIn.nil _ _⟩
    · simp [Value.cells] at hcs
      obtain ⟨rfl, rfl, rfl⟩ := hcs
      exact ⟨_, SliceIn.row hl hm (by simpa using hz) hcell hwz⟩
  clear hA0 hval0
  refine (walk a0 len0 cap0 z0 a1 len1 cap1 z1 W w0 w1).mono fun e W' ⟨he, bel⟩ => ?_
  subst he
  exact ⟨_, rfl, _, _, _, [], _, [], hW', trodAll_mk1 (shut_bool Try.underlying4 _), (trodAll_cons_mk (Below.trod laidOut (by kernel_rfl) (of_decide_eq_true (by kernel_rfl)) k0 bel lt0) (trodAll_cons_mk (Below.trod laidOut (by kernel_rfl) (of_decide_eq_true (by kernel_rfl)) k1 bel lt1) trodAll_mk0)), rfl, bel.frame _, fun h => by cases h⟩

theorem over : Rows.fnExactMixWaterRow.holds Try.pinned (OpenSpec.ofChange Rows.fnExactMixWaterSpec) :=
  OpenClaim.holds_of_wide 11 Try.f11 rfl rfl rfl rfl rfl rfl rfl ⟨rfl, rfl, rfl, rfl, rfl⟩ rfl rfl rfl rfl rfl (by kernel_rfl) Try.func11 (by kernel_rfl)
    (of_decide_eq_true (by kernel_rfl)) (by unfold Func.isWrapper; first | (rw [if_pos (by decide +kernel)]; kernel_rfl) | (rw [if_neg (by decide +kernel)]; exact ⟨rfl, rfl⟩))
    (fun os started H enc _ => lifted os started H enc)

theorem proved : Rows.FnExactMixWaterSaid :=
  over
#print axioms proved
end Go.Proofs.Ytjabcoanpinpiaa.fnExactMixWater
