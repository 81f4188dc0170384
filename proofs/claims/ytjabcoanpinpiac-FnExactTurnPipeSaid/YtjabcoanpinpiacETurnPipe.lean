/-
  FnExactTurnPipe: for every input the law returns true and its arguments read as before. No condition.
-/
import Derived.Test.YtjabcoanpinpiacT1
import Derived.Test.YtjabcoanpinpiacP5
import Derived.Test.YtjabcoanpinpiacEQ
import Derived.Test.YtjabcoanpinpiacG0
import Derived.ShutString
import Derived.ChangeOld
namespace Go.Proofs.Ytjabcoanpinpiac.fnExactTurnPipe
open Go.ChangeShapes Go.WideShapes Go.ChangeAt Go.RowKit
open Go.ChangeMaps (open_string shut_string)
set_option linter.unusedVariables false

theorem walk (id0 : ByteArray) (f0 t0 L0 d0 s0 : Int) (w : World) (w0 : id0.size ≤ maxLen) :
    Calls Try.prog 5 #[.agg #[.string id0, .int .i64 f0, .int .i64 t0, .int .i64 L0, .int .i64 d0, .int .i64 s0]] w fun e w' => e = .returned (.bool true) ∧ Below w.heap.size w w' := by
  by_cases hz : id0.size ≤ 1048576
  · have hS := fun wx => szPipe_any id0 f0 t0 L0 d0 s0 1048576 wx (by omega) (by omega) w0
    rw [if_neg (by omega)] at hS
    have hn : 0 ≤ 1048576 - (id0.size : Int) := by omega
    generalize 1048576 - (id0.size : Int) = n at *
    have HS := Lib.hid hS
    clear hS
    by_cases HO : okP id0 f0 t0 L0 d0 s0 = true
    · skip
      have HT1 := Lib.hid (fun wx => show Calls Try.prog 12 #[.agg #[.string id0, .int .i64 f0, .int .i64 t0, .int .i64 L0, .int .i64 d0, .int .i64 s0]] wx fun e w' => e = .returned (.tuple #[.agg #[.string id0, .int .i64 t0, .int .i64 f0, .int .i64 L0, .int .i64 d0, .int .i64 s0], .int .i64 0]) ∧ Below wx.heap.size wx w' by
        have h := specTurnPipe_any id0 f0 t0 L0 d0 s0 wx w0
        unfold turnR at h
        rw [HO] at h
        exact h)
      have HT2 := Lib.hid (fun wx => show Calls Try.prog 13 #[.agg #[.string id0, .int .i64 f0, .int .i64 t0, .int .i64 L0, .int .i64 d0, .int .i64 s0]] wx fun e w' => e = .returned (.tuple #[.agg #[.string id0, .int .i64 t0, .int .i64 f0, .int .i64 L0, .int .i64 d0, .int .i64 s0], .int .i64 0]) ∧ Below wx.heap.size wx w' by
        have h := implTurnPipe_any id0 f0 t0 L0 d0 s0 wx w0
        unfold turnR at h
        rw [HO] at h
        exact h)
      clear HO
      have hp := PipeAt.new w id0 f0 t0 L0 d0 s0 23
      have hb : Below w.heap.size w (w.alloc (.cells #[.string id0, .int .i64 f0, .int .i64 t0, .int .i64 L0, .int .i64 d0, .int .i64 s0] 23)) := bal (Below.refl _ _) _
      have ⟨p0, p1, p2, p3, p4, p5⟩ := hp
      go_enter Try.func5, Try.ntmps5
      go_wp2_with (first | (go_at_call 6; refine (HS.out _).mono ?_; rintro e w' ⟨rfl, hb'⟩; first | (have hb := bnext hb hb'; have hp := PipeAt.next hp hb'; have ⟨p0, p1, p2, p3, p4, p5⟩ := hp) | (have hb := bnext (bal hb _) hb'; have hp := PipeAt.next (PipeAt.alloc hp _) hb'; have ⟨p0, p1, p2, p3, p4, p5⟩ := hp) | (have hb := bnext (bal (bal hb _) _) hb'; have hp := PipeAt.next (PipeAt.alloc (PipeAt.alloc hp _) _) hb'; have ⟨p0, p1, p2, p3, p4, p5⟩ := hp) | (have hb := bnext (bal (bal (bal hb _) _) _) hb'; have hp := PipeAt.next (PipeAt.alloc (PipeAt.alloc (PipeAt.alloc hp _) _) _) hb'; have ⟨p0, p1, p2, p3, p4, p5⟩ := hp)) | (go_at_call 8; refine (toPipe_any _ _ _ _ _ _ _).mono ?_; rintro e w' ⟨rfl, hb'⟩; first | (have hb := bnext hb hb'; have hp := PipeAt.next hp hb'; have ⟨p0, p1, p2, p3, p4, p5⟩ := hp) | (have hb := bnext (bal hb _) hb'; have hp := PipeAt.next (PipeAt.alloc hp _) hb'; have ⟨p0, p1, p2, p3, p4, p5⟩ := hp) | (have hb := bnext (bal (bal hb _) _) hb'; have hp := PipeAt.next (PipeAt.alloc (PipeAt.alloc hp _) _) hb'; have ⟨p0, p1, p2, p3, p4, p5⟩ := hp) | (have hb := bnext (bal (bal (bal hb _) _) _) hb'; have hp := PipeAt.next (PipeAt.alloc (PipeAt.alloc (PipeAt.alloc hp _) _) _) hb'; have ⟨p0, p1, p2, p3, p4, p5⟩ := hp)))
      refine (HT1.out _).mono ?_
      rintro e w1 ⟨rfl, hb1⟩
      have hq := (hp.next hb1).alloc (.cells #[.string id0, .int .i64 t0, .int .i64 f0, .int .i64 L0, .int .i64 d0, .int .i64 s0] 27)
      have hr := PipeAt.new w1 id0 t0 f0 L0 d0 s0 27
      have hc := bal (bnext hb hb1) (.cells #[.string id0, .int .i64 t0, .int .i64 f0, .int .i64 L0, .int .i64 d0, .int .i64 s0] 27)
      clear p0 p1 p2 p3 p4 p5 hp hb hb1
      have ⟨p0, p1, p2, p3, p4, p5⟩ := hq
      go_wp2_with fail
      refine (toPipe_any _ _ _ _ _ _ _).mono ?_
      rintro e w2 ⟨rfl, hb2⟩
      have hq2 := hr.next hb2
      have hc2 := bnext hc hb2
      clear p0 p1 p2 p3 p4 p5 hq hr hc hb2
      go_wp2_with fail
      refine (HT2.out _).mono ?_
      rintro e w3 ⟨rfl, hb3⟩
      have hq3 := (hq2.next hb3).alloc (.cells #[.string id0, .int .i64 t0, .int .i64 f0, .int .i64 L0, .int .i64 d0, .int .i64 s0] 27)
      have hr3 := PipeAt.new w3 id0 t0 f0 L0 d0 s0 27
      have hb := bal (bnext hc2 hb3) (.cells #[.string id0, .int .i64 t0, .int .i64 f0, .int .i64 L0, .int .i64 d0, .int .i64 s0] 27)
      have ⟨p0, p1, p2, p3, p4, p5⟩ := hq3
      have ⟨r0, r1, r2, r3, r4, r5⟩ := hr3
      clear hq3 hr3 hb3 hq2 hc2
      go_wp2_with ((go_at_call 14; refine (eqPipe_same _ _ _ _ _ _ _).mono ?_; rintro e w' ⟨rfl, hb'⟩; first | have hb := bnext hb hb' | have hb := bnext (bal hb _) hb' | have hb := bnext (bal (bal hb _) _) hb' | have hb := bnext (bal (bal (bal hb _) _) _) hb' | have hb := bnext (bal (bal (bal (bal hb _) _) _) _) hb' | have hb := bnext (bal (bal (bal (bal (bal hb _) _) _) _) _) hb'))
      go_ret
      first | exact ⟨rfl, hb⟩ | exact ⟨rfl, (bal hb _)⟩ | exact ⟨rfl, (bal (bal hb _) _)⟩ | exact ⟨rfl, (bal (bal (bal hb _) _) _)⟩ | exact ⟨rfl, (bal (bal (bal (bal hb _) _) _) _)⟩ | exact ⟨rfl, (bal (bal (bal (bal (bal hb _) _) _) _) _)⟩
    · have HO : okP id0 f0 t0 L0 d0 s0 = false := by simpa using HO
      have HT1 := Lib.hid (fun wx => show Calls Try.prog 12 #[.agg #[.string id0, .int .i64 f0, .int .i64 t0, .int .i64 L0, .int .i64 d0, .int .i64 s0]] wx fun e w' => e = .returned (.tuple #[.agg #[.string ByteArray.empty, .int .i64 0, .int .i64 0, .int .i64 0, .int .i64 0, .int .i64 0], .int .i64 1]) ∧ Below wx.heap.size wx w' by
        have h := specTurnPipe_any id0 f0 t0 L0 d0 s0 wx w0
        unfold turnR at h
        rw [HO] at h
        exact h)
      have HT2 := Lib.hid (fun wx => show Calls Try.prog 13 #[.agg #[.string id0, .int .i64 f0, .int .i64 t0, .int .i64 L0, .int .i64 d0, .int .i64 s0]] wx fun e w' => e = .returned (.tuple #[.agg #[.string ByteArray.empty, .int .i64 0, .int .i64 0, .int .i64 0, .int .i64 0, .int .i64 0], .int .i64 1]) ∧ Below wx.heap.size wx w' by
        have h := implTurnPipe_any id0 f0 t0 L0 d0 s0 wx w0
        unfold turnR at h
        rw [HO] at h
        exact h)
      clear HO
      have hp := PipeAt.new w id0 f0 t0 L0 d0 s0 23
      have hb : Below w.heap.size w (w.alloc (.cells #[.string id0, .int .i64 f0, .int .i64 t0, .int .i64 L0, .int .i64 d0, .int .i64 s0] 23)) := bal (Below.refl _ _) _
      have ⟨p0, p1, p2, p3, p4, p5⟩ := hp
      go_enter Try.func5, Try.ntmps5
      go_wp2_with (first | (go_at_call 6; refine (HS.out _).mono ?_; rintro e w' ⟨rfl, hb'⟩; first | (have hb := bnext hb hb'; have hp := PipeAt.next hp hb'; have ⟨p0, p1, p2, p3, p4, p5⟩ := hp) | (have hb := bnext (bal hb _) hb'; have hp := PipeAt.next (PipeAt.alloc hp _) hb'; have ⟨p0, p1, p2, p3, p4, p5⟩ := hp) | (have hb := bnext (bal (bal hb _) _) hb'; have hp := PipeAt.next (PipeAt.alloc (PipeAt.alloc hp _) _) hb'; have ⟨p0, p1, p2, p3, p4, p5⟩ := hp) | (have hb := bnext (bal (bal (bal hb _) _) _) hb'; have hp := PipeAt.next (PipeAt.alloc (PipeAt.alloc (PipeAt.alloc hp _) _) _) hb'; have ⟨p0, p1, p2, p3, p4, p5⟩ := hp)) | (go_at_call 8; refine (toPipe_any _ _ _ _ _ _ _).mono ?_; rintro e w' ⟨rfl, hb'⟩; first | (have hb := bnext hb hb'; have hp := PipeAt.next hp hb'; have ⟨p0, p1, p2, p3, p4, p5⟩ := hp) | (have hb := bnext (bal hb _) hb'; have hp := PipeAt.next (PipeAt.alloc hp _) hb'; have ⟨p0, p1, p2, p3, p4, p5⟩ := hp) | (have hb := bnext (bal (bal hb _) _) hb'; have hp := PipeAt.next (PipeAt.alloc (PipeAt.alloc hp _) _) hb'; have ⟨p0, p1, p2, p3, p4, p5⟩ := hp) | (have hb := bnext (bal (bal (bal hb _) _) _) hb'; have hp := PipeAt.next (PipeAt.alloc (PipeAt.alloc (PipeAt.alloc hp _) _) _) hb'; have ⟨p0, p1, p2, p3, p4, p5⟩ := hp)))
      refine (HT1.out _).mono ?_
      rintro e w1 ⟨rfl, hb1⟩
      have hq := (hp.next hb1).alloc (.cells #[.string ByteArray.empty, .int .i64 0, .int .i64 0, .int .i64 0, .int .i64 0, .int .i64 0] 27)
      have hr := PipeAt.new w1 ByteArray.empty 0 0 0 0 0 27
      have hc := bal (bnext hb hb1) (.cells #[.string ByteArray.empty, .int .i64 0, .int .i64 0, .int .i64 0, .int .i64 0, .int .i64 0] 27)
      clear p0 p1 p2 p3 p4 p5 hp hb hb1
      have ⟨p0, p1, p2, p3, p4, p5⟩ := hq
      go_wp2_with fail
      refine (toPipe_any _ _ _ _ _ _ _).mono ?_
      rintro e w2 ⟨rfl, hb2⟩
      have hq2 := hr.next hb2
      have hc2 := bnext hc hb2
      clear p0 p1 p2 p3 p4 p5 hq hr hc hb2
      go_wp2_with fail
      refine (HT2.out _).mono ?_
      rintro e w3 ⟨rfl, hb3⟩
      have hq3 := (hq2.next hb3).alloc (.cells #[.string ByteArray.empty, .int .i64 0, .int .i64 0, .int .i64 0, .int .i64 0, .int .i64 0] 27)
      have hr3 := PipeAt.new w3 ByteArray.empty 0 0 0 0 0 27
      have hb := bal (bnext hc2 hb3) (.cells #[.string ByteArray.empty, .int .i64 0, .int .i64 0, .int .i64 0, .int .i64 0, .int .i64 0] 27)
      have ⟨p0, p1, p2, p3, p4, p5⟩ := hq3
      have ⟨r0, r1, r2, r3, r4, r5⟩ := hr3
      clear hq3 hr3 hb3 hq2 hc2
      go_wp2_with ((go_at_call 14; refine (eqPipe_same _ _ _ _ _ _ _).mono ?_; rintro e w' ⟨rfl, hb'⟩; first | have hb := bnext hb hb' | have hb := bnext (bal hb _) hb' | have hb := bnext (bal (bal hb _) _) hb' | have hb := bnext (bal (bal (bal hb _) _) _) hb' | have hb := bnext (bal (bal (bal (bal hb _) _) _) _) hb' | have hb := bnext (bal (bal (bal (bal (bal hb _) _) _) _) _) hb'))
      go_ret
      first | exact ⟨rfl, hb⟩ | exact ⟨rfl, (bal hb _)⟩ | exact ⟨rfl, (bal (bal hb _) _)⟩ | exact ⟨rfl, (bal (bal (bal hb _) _) _)⟩ | exact ⟨rfl, (bal (bal (bal (bal hb _) _) _) _)⟩ | exact ⟨rfl, (bal (bal (bal (bal (bal hb _) _) _) _) _)⟩
  · have hS := fun wx => szPipe_any id0 f0 t0 L0 d0 s0 1048576 wx (by omega) (by omega) w0
    rw [if_pos (by omega)] at hS
    have HS := Lib.hid hS
    clear hS
    have hp := PipeAt.new w id0 f0 t0 L0 d0 s0 23
    have hb : Below w.heap.size w (w.alloc (.cells #[.string id0, .int .i64 f0, .int .i64 t0, .int .i64 L0, .int .i64 d0, .int .i64 s0] 23)) := bal (Below.refl _ _) _
    
    have ⟨p0, p1, p2, p3, p4, p5⟩ := hp
    go_enter Try.func5, Try.ntmps5
    go_wp2_with ((go_at_call 6; refine (HS.out _).mono ?_; rintro e w' ⟨rfl, hb'⟩; first | (have hb := bnext hb hb'; have hp := PipeAt.next hp hb'; have ⟨p0, p1, p2, p3, p4, p5⟩ := hp) | (have hb := bnext (bal hb _) hb'; have hp := PipeAt.next (PipeAt.alloc hp _) hb'; have ⟨p0, p1, p2, p3, p4, p5⟩ := hp) | (have hb := bnext (bal (bal hb _) _) hb'; have hp := PipeAt.next (PipeAt.alloc (PipeAt.alloc hp _) _) hb'; have ⟨p0, p1, p2, p3, p4, p5⟩ := hp) | (have hb := bnext (bal (bal (bal hb _) _) _) hb'; have hp := PipeAt.next (PipeAt.alloc (PipeAt.alloc (PipeAt.alloc hp _) _) _) hb'; have ⟨p0, p1, p2, p3, p4, p5⟩ := hp)))
    go_ret
    first | exact ⟨rfl, hb⟩ | exact ⟨rfl, (bal hb _)⟩ | exact ⟨rfl, (bal (bal hb _) _)⟩ | exact ⟨rfl, (bal (bal (bal hb _) _) _)⟩ | exact ⟨rfl, (bal (bal (bal (bal hb _) _) _) _)⟩ | exact ⟨rfl, (bal (bal (bal (bal (bal hb _) _) _) _) _)⟩

theorem own : ownKnob Try.prog.godebug = none := by kernel_rfl
theorem laidOut : laidOutB Try.prog = true := by kernel_rfl

set_option maxRecDepth 100000 in
theorem lifted (os : Os) (started : os.Started) (H : Type) (enc : TypeId × Value → H) :
    ReturnsInHanded {} Try.checked os 5 .any (Rows.fnExactTurnPipeSpec.pre6 enc Try.prog Try.f5 Rows.fnExactTurnPipeRow.domain false) (Rows.fnExactTurnPipeSpec.post enc Try.prog Try.f5 false true false false) := by
  refine returnsInHanded_of_change (C := Try.checked) own started (by kernel_rfl) Try.func5
    (ChangeSpec.witness6 (enc := enc) (C := Try.checked) false ⟨#[], #[.agg #[.string .empty, .int .i64 0, .int .i64 0, .int .i64 0, .int .i64 0, .int .i64 0]], []⟩ 8 (by kernel_rfl) (by kernel_rfl) (by kernel_rfl) (by kernel_rfl)) ?_
  intro W base args ds gs before hval0 hW hcnd _
  have hval : ∀ (j : Nat) t v, Try.f5.params[j]? = some t → args[j]? = some v → Value.okWide Try.prog W .any base t v := hval0
  have hW' := hW
  obtain ⟨p, q, hA0, hV, rfl, hfz, hnd⟩ := hW
  have hA : DataW.TrodAll enc Try.prog W 0 (fun _ => true) true Try.f5.params.toList args.toList ds p := hA0
  rw [Try.params5] at hA hval
  obtain ⟨v0, vs0, d0, ds0, p0, q0, hargs, rfl, rfl, h0, r0⟩ := trodAll_cons hA
  obtain ⟨rfl, rfl, rfl⟩ := trodAll_nil r0
  obtain rfl : args = #[v0] := by cases args; simp_all
  obtain ⟨rfl, rfl⟩ := trodVars_none hV
  have k0 := h0
  obtain ⟨id0, f0, t0, L0, dd0, s0, rfl, rfl, w0⟩ := open_pipe (hval 0 23 v0 rfl rfl) h0
  clear hA0 hval0
  refine (walk id0 f0 t0 L0 dd0 s0 W w0).mono fun e W' ⟨he, bel⟩ => ?_
  subst he
  exact ⟨_, rfl, _, _, _, [], _, [], hW', trodAll_mk1 (shut_bool Try.underlying4 _), (trodAll_cons_mk (Below.trod laidOut (by kernel_rfl) (of_decide_eq_true (by kernel_rfl)) k0 bel (fun _ hx => by cases hx)) trodAll_mk0), rfl, bel.frame _, fun h => by cases h⟩

theorem over : Rows.fnExactTurnPipeRow.holds Try.pinned (OpenSpec.ofChange Rows.fnExactTurnPipeSpec) :=
  OpenClaim.holds_of_wide 5 Try.f5 rfl rfl rfl rfl rfl rfl rfl ⟨rfl, rfl, rfl, rfl, rfl⟩ rfl rfl rfl rfl rfl (by kernel_rfl) Try.func5 (by kernel_rfl)
    (of_decide_eq_true (by kernel_rfl)) (by unfold Func.isWrapper; first | (rw [if_pos (by decide +kernel)]; kernel_rfl) | (rw [if_neg (by decide +kernel)]; exact ⟨rfl, rfl⟩))
    (fun os started H enc _ => lifted os started H enc)

theorem proved : Rows.FnExactTurnPipeSaid :=
  over
#print axioms proved
end Go.Proofs.Ytjabcoanpinpiac.fnExactTurnPipe
