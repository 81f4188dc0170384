/-
  FnDelays: for every input the law returns true and its arguments read as before. No condition.
-/
import Derived.Test.YtjabcoanpinpiaaX1
import Derived.Test.YtjabcoanpinpiaaG0
import Derived.ShutString
import Derived.ChangeOld
namespace Go.Proofs.Ytjabcoanpinpiaa.fnDelays
open Go.ChangeShapes Go.WideShapes Go.ChangeAt Go.RowKit
open Go.ChangeMaps (open_string shut_string)
set_option linter.unusedVariables false

set_option maxRecDepth 100000
set_option maxHeartbeats 1600000

theorem walk (a0 : Option Addr) (len0 cap0 : Nat) (z0 : List Int) (a1 : Option Addr) (len1 cap1 : Nat) (z1 : List Int) (w : World) (w0 : SliceIn .u8 w a0 len0 z0) (w1 : SliceIn .u8 w a1 len1 z1) :
    Calls Try.prog 3 #[.slice a0 len0 cap0, .slice a1 len1 cap1] w fun e w' => e = .returned (.bool true) ∧ Below w.heap.size w w' := by
  have w1a := w1
  clear w1
  have hn0 : len0 ≤ 9223372036854775807 := by have := w0.2.1; unfold maxLen at this; omega
  have hn1 : len1 ≤ 9223372036854775807 := by have := w1a.2.1; unfold maxLen at this; omega
  by_cases hz0 : len0 ≤ 1048576
  · by_cases hz1 : len1 ≤ 1048576
    · skip
      go_enter Try.func3, Try.ntmps3
      go_wp2_with fail
      refine (long_no a0 a1 cap0 cap1 len0 len1 _ hz0 hz1).mono ?_
      rintro e w' ⟨rfl, rfl⟩
      go_wp2_with fail
      refine (r8Pipe_any a0 len0 cap0 z0 _ w0).mono ?_
      rintro e w0x ⟨L, d, s, rfl, hL, hd, hs, hx⟩
      have HI : InDraw L d s := ⟨hL, hd, hs⟩
      have hp := PipeAt.new w0x mainB 0 1 L d s 25
      have hb := bal hx (.cells #[.string mainB, .int .i64 0, .int .i64 1, .int .i64 L, .int .i64 d, .int .i64 s] 25)
      have ⟨p0, p1, p2, p3, p4, p5⟩ := hp
      clear hx
      go_wp2_with fail
      refine (wide_any a1 len1 cap1 z1 0 _ _ (w1a.next hb) (by omega) (by omega) (by omega)).mono ?_
      rintro e w1 ⟨x, rfl, hx0, hx1, hx⟩
      have hp := hp.drawn hx
      have hb := bnext hb hx.below
      clear hx p0 p1 p2 p3 p4 p5
      have ⟨p0, p1, p2, p3, p4, p5⟩ := hp
      go_wp2_with fail
      have hq0 : 1 ≤ 1 + x := by omega
      have hq1 : 1 + x ≤ 20000 := by omega
      generalize 1 + x = q at *
      clear hx0 hx1
      refine (mWater HI _).mono ?_
      rintro e w2 ⟨rfl, hx⟩
      have hp := hp.next hx
      have hb := bnext hb hx
      clear hx p0 p1 p2 p3 p4 p5
      have ⟨p0, p1, p2, p3, p4, p5⟩ := hp
      go_wp2_with fail
      refine (mDelay HI q _ (by omega) (by omega) (by omega)).mono ?_
      rintro e w3 ⟨rfl, hx⟩
      have hp := hp.next hx
      have hb := bnext hb hx
      clear hx p0 p1 p2 p3 p4 p5
      have ⟨p0, p1, p2, p3, p4, p5⟩ := hp
      go_wp2_with fail
      refine (mDelay HI (-q) _ (by omega) (by omega) (by omega)).mono ?_
      rintro e w4 ⟨rfl, hx⟩
      have hp := hp.next hx
      have hb := bnext hb hx
      clear hx p0 p1 p2 p3 p4 p5
      have ⟨p0, p1, p2, p3, p4, p5⟩ := hp
      go_wp2_with fail
      refine (mSpeed HI q _ (by omega) (by omega)).mono ?_
      rintro e w5 ⟨rfl, hx⟩
      have hp := hp.next hx
      have hb := bnext hb hx
      clear hx p0 p1 p2 p3 p4 p5
      have ⟨p0, p1, p2, p3, p4, p5⟩ := hp
      have hW := water_bd L d (by omega) (by omega) (by omega) (by omega)
      have hD := delay_fact (W := waterI L d) (q := q) (T := delayI L d q) (by unfold delayI; rw [absI_of q (by omega)]) hW.1 hW.2 hq0 (by omega)
      have hS := speed_nn d q (by omega) (by omega)
      rw [delay_neg]
      generalize waterI L d = W at *
      generalize delayI L d q = T at *
      generalize speedI d q = S at *
      obtain ⟨hW0, hW1⟩ := hW
      obtain ⟨hD0, hD1, hD2, hD3, hD4, hD5⟩ := hD
      have hTT : (T != T) = false := by simp
      go_wp2_with fail
      refine (wide_any a1 len1 cap1 z1 2 _ _ (w1a.next hb) (by omega) (by omega) (by omega)).mono ?_
      rintro e w6 ⟨u, rfl, hu0, hu1, hx⟩
      have hp := hp.drawn hx
      have hb := bnext hb hx.below
      clear hx p0 p1 p2 p3 p4 p5
      have ⟨p0, p1, p2, p3, p4, p5⟩ := hp
      go_wp2_with fail
      refine (wide_any a1 len1 cap1 z1 4 _ _ (w1a.next hb) (by omega) (by omega) (by omega)).mono ?_
      rintro e w7 ⟨c, rfl, hc0, hc1, hx⟩
      have hp := hp.drawn hx
      have hb := bnext hb hx.below
      clear hx p0 p1 p2 p3 p4 p5
      have ⟨p0, p1, p2, p3, p4, p5⟩ := hp
      go_wp2_with fail
      have hm0 : 3000 ≤ 3000 + u := by omega
      have hm1 : 3000 + u ≤ 12000 := by omega
      generalize 3000 + u = a at *
      clear hu0 hu1
      refine (mLoss HI a c _ (by omega) (by omega) (by omega) (by omega)).mono ?_
      rintro e w8 ⟨rfl, hx⟩
      have hp := hp.next hx
      have hb := bnext hb hx
      clear hx p0 p1 p2 p3 p4 p5
      have ⟨p0, p1, p2, p3, p4, p5⟩ := hp
      go_wp2_with fail
      refine (mLoss HI c a _ (by omega) (by omega) (by omega) (by omega)).mono ?_
      rintro e w9 ⟨rfl, hx⟩
      have hp := hp.next hx
      have hb := bnext hb hx
      clear hx p0 p1 p2 p3 p4 p5
      have ⟨p0, p1, p2, p3, p4, p5⟩ := hp
      go_wp2_with fail
      refine (mEnd HI q a c _ (by omega) (by omega) (by omega) (by omega) (by omega) (by omega) (by omega)).mono ?_
      rintro e w10 ⟨rfl, hx⟩
      have hp := hp.next hx
      have hb := bnext hb hx
      clear hx p0 p1 p2 p3 p4 p5
      have ⟨p0, p1, p2, p3, p4, p5⟩ := hp
      go_wp2_with fail
      refine (mEnd HI q c c _ (by omega) (by omega) (by omega) (by omega) (by omega) (by omega) (by omega)).mono ?_
      rintro e w11 ⟨rfl, hx⟩
      have hp := hp.next hx
      have hb := bnext hb hx
      clear hx p0 p1 p2 p3 p4 p5
      have ⟨p0, p1, p2, p3, p4, p5⟩ := hp
      go_wp2_with fail
      refine (mStill HI a c _ (by omega) (by omega) (by omega) (by omega)).mono ?_
      rintro e w12 ⟨rfl, hx⟩
      have hp := hp.next hx
      have hb := bnext hb hx
      clear hx p0 p1 p2 p3 p4 p5
      have ⟨p0, p1, p2, p3, p4, p5⟩ := hp
      have hq2 : 2 * q ≤ 40000 := by omega
      go_wp2_with fail
      refine (mEnd HI (2 * q) a c _ (by omega) (by omega) (by omega) (by omega) (by omega) (by omega) (by omega)).mono ?_
      rintro e w13 ⟨rfl, hx⟩
      have hp := hp.next hx
      have hb := bnext hb hx
      clear hx p0 p1 p2 p3 p4 p5
      have ⟨p0, p1, p2, p3, p4, p5⟩ := hp
      have hqa : absI q = q := absI_of q (by omega)
      have hE := end_bd s L q a c (by omega) (by omega) (by rw [hqa]; omega) (by omega)
      have hF := end_bd s L (2 * q) a c (by omega) (by omega) (by rw [absI_of (2 * q) (by omega)]; omega) (by omega)
      have hEF := end_fast s L q a c (by omega) (by omega) (by omega) (by omega)
      rw [end_same s L q c (by omega) (by omega) (by rw [hqa]; omega)]
      have hl := (loss_sign s L a c (by omega) (by omega)).1 (by omega)
      have hl1 := (loss_bd s L a c (by omega) (by omega) (by omega) (by omega) (by omega) (by omega) (by omega) (by omega)).2
      rw [loss_neg s L a c]
      generalize endI s L q a c = E at *
      generalize endI s L (2 * q) a c = F at *
      generalize lossI s L a c = l at *
      clear hqa
      obtain ⟨hE0, hE1⟩ := hE
      obtain ⟨hF0, hF1⟩ := hF
      go_wp2_with fail
      refine (mHeat q a E _ (by omega) (by omega) (by omega) (by omega) (by omega) (by omega)).mono ?_
      rintro e w14 ⟨rfl, hx⟩
      have hp := hp.next hx
      have hb := bnext hb hx
      clear hx p0 p1 p2 p3 p4 p5
      have ⟨p0, p1, p2, p3, p4, p5⟩ := hp
      have hH := watt_nn q (a - E) (by omega) (by omega)
      generalize wattI q (a - E) = H at *
      have hll : ((-l) != (-l)) = false := by simp
      have hcc : (c != c) = false := by simp
      go_wp2
      go_ret
      exact ⟨rfl, hb⟩
    · go_enter Try.func3, Try.ntmps3
      go_wp2_with fail
      refine (long_yes2 a0 a1 cap0 cap1 len0 len1 _ hz0 (by omega) hn1).mono ?_
      rintro e w' ⟨rfl, rfl⟩
      go_wp2
      go_ret
      exact ⟨rfl, Below.refl _ _⟩
  · go_enter Try.func3, Try.ntmps3
    go_wp2_with fail
    refine (long_yes1 a0 a1 cap0 cap1 len0 len1 _ (by omega) hn0).mono ?_
    rintro e w' ⟨rfl, rfl⟩
    go_wp2
    go_ret
    exact ⟨rfl, Below.refl _ _⟩

theorem own : ownKnob Try.prog.godebug = none := by kernel_rfl
theorem laidOut : laidOutB Try.prog = true := by kernel_rfl

set_option maxRecDepth 100000 in
theorem lifted (os : Os) (started : os.Started) (H : Type) (enc : TypeId × Value → H) :
    ReturnsInHanded {} Try.checked os 3 .any (Rows.fnDelaysSpec.pre6 enc Try.prog Try.f3 Rows.fnDelaysRow.domain false) (Rows.fnDelaysSpec.post enc Try.prog Try.f3 false true false false) := by
  refine returnsInHanded_of_change (C := Try.checked) own started (by kernel_rfl) Try.func3
    (ChangeSpec.witness6 (enc := enc) (C := Try.checked) false ⟨#[], #[.slice none 0 0, .slice none 0 0], []⟩ 8 (by kernel_rfl) (by kernel_rfl) (by kernel_rfl) (by kernel_rfl)) ?_
  intro W base args ds gs before hval0 hW hcnd _
  have hval : ∀ (j : Nat) t v, Try.f3.params[j]? = some t → args[j]? = some v → Value.okWide Try.prog W .any base t v := hval0
  have hW' := hW
  obtain ⟨p, q, hA0, hV, rfl, hfz, hnd⟩ := hW
  have hA : DataW.TrodAll enc Try.prog W 0 (fun _ => true) true Try.f3.params.toList args.toList ds p := hA0
  rw [Try.params3] at hA hval
  obtain ⟨v0, vs0, d0, ds0, p0, q0, hargs, rfl, rfl, h0, r0⟩ := trodAll_cons hA
  obtain ⟨v1, vs1, d1, ds1, p1, q1, rfl, rfl, rfl, h1, r1⟩ := trodAll_cons r0
  obtain ⟨rfl, rfl, rfl⟩ := trodAll_nil r1
  obtain rfl : args = #[v0, v1] := by cases args; simp_all
  obtain ⟨rfl, rfl⟩ := trodVars_none hV
  obtain ⟨a0, len0, cap0, rfl⟩ := okWide_slice Try.underlying22 (hval 0 22 v0 rfl rfl)
  have k0 := h0
  have lt0 : ∀ x ∈ p0, x.block < W.heap.size := by obtain ⟨m, hm⟩ := k0; exact DataW.trod_lt m _ _ _ hm
  obtain ⟨z0, w0⟩ : ∃ zs, SliceIn .u8 W a0 len0 zs := by
    obtain ⟨fuel, hf⟩ := h0
    rcases open_ints Try.underlying22 Try.underlying5 (by kernel_rfl) hf with ⟨hcs, _⟩ | ⟨x, l, c, zs, hcs, _, hl, hm, hz, _, hcell, hwz⟩
    · simp [Value.cells] at hcs
      obtain ⟨rfl, rfl, rfl⟩ := hcs
      exact ⟨[], SliceIn.nil _ _⟩
    · simp [Value.cells] at hcs
      obtain ⟨rfl, rfl, rfl⟩ := hcs
      exact ⟨_, SliceIn.row hl hm (by simpa using hz) hcell hwz⟩
  obtain ⟨a1, len1, cap1, rfl⟩ := okWide_slice Try.underlying22 (hval 1 22 v1 rfl rfl)
  have k1 := h1
  have lt1 : ∀ x ∈ p1, x.block < W.heap.size := by obtain ⟨m, hm⟩ := k1; exact DataW.trod_lt m _ _ _ hm
  obtain ⟨z1, w1⟩ : ∃ zs, SliceIn .u8 W a1 len1 zs := by
    obtain ⟨fuel, hf⟩ := h1
    rcases open_ints Try.underlying22 Try.underlying5 (by kernel_rfl) hf with ⟨hcs, _⟩ | ⟨x, l, c, zs, hcs, _, hl, hm, hz, _, hcell, hwz⟩
    · simp [Value.cells] at hcs
      obtain ⟨rfl, rfl, rfl⟩ := hcs
      exact ⟨[], SliceIn.nil _ _⟩
    · simp [Value.cells] at hcs
      obtain ⟨rfl, rfl, rfl⟩ := hcs
      exact ⟨_, SliceIn.row hl hm (by simpa using hz) hcell hwz⟩
  clear hA0 hval0
  refine (walk a0 len0 cap0 z0 a1 len1 cap1 z1 W w0 w1).mono fun e W' ⟨he, bel⟩ => ?_
  subst he
  exact ⟨_, rfl, _, _, _, [], _, [], hW', trodAll_mk1 (shut_bool Try.underlying4 _), (trodAll_cons_mk (Below.trod laidOut (by kernel_rfl) (of_decide_eq_true (by kernel_rfl)) k0 bel lt0) (trodAll_cons_mk (Below.trod laidOut (by kernel_rfl) (of_decide_eq_true (by kernel_rfl)) k1 bel lt1) trodAll_mk0)), rfl, bel.frame _, fun h => by cases h⟩

theorem over : Rows.fnDelaysRow.holds Try.pinned (OpenSpec.ofChange Rows.fnDelaysSpec) :=
  OpenClaim.holds_of_wide 3 Try.f3 rfl rfl rfl rfl rfl rfl rfl ⟨rfl, rfl, rfl, rfl, rfl⟩ rfl rfl rfl rfl rfl (by kernel_rfl) Try.func3 (by kernel_rfl)
    (of_decide_eq_true (by kernel_rfl)) (by unfold Func.isWrapper; first | (rw [if_pos (by decide +kernel)]; kernel_rfl) | (rw [if_neg (by decide +kernel)]; exact ⟨rfl, rfl⟩))
    (fun os started H enc _ => lifted os started H enc)

theorem proved : Rows.FnDelaysSaid :=
  over
#print axioms proved
end Go.Proofs.Ytjabcoanpinpiaa.fnDelays
