/-
  FnExactWaterIn: for every input the law returns true and its arguments read as before. No condition.
-/
import Derived.Test.YthmnfobhgeamiaaP4
import Derived.Test.YthmnfobhgeamiaaP5
import Derived.Test.YthmnfobhgeamiaaG0
import Derived.ShutString
import Derived.ChangeOld
namespace Go.Proofs.Ythmnfobhgeamiaa.fnExactWaterIn
open Go.ChangeShapes Go.WideShapes Go.ChangeAt Go.RowKit
open Go.ChangeMaps (open_string shut_string)
set_option linter.unusedVariables false

theorem walk (id0 : ByteArray) (f0 t0 L0 d0 s0 : Int) (w : World) (w0 : id0.size ≤ maxLen) :
    Calls Try.prog 12 #[.agg #[.string id0, .int .i64 f0, .int .i64 t0, .int .i64 L0, .int .i64 d0, .int .i64 s0]] w fun e w' => e = .returned (.bool true) ∧ Below w.heap.size w w' := by
  by_cases hz : id0.size ≤ 1048576
  · have hS := fun wx => szPipe_any id0 f0 t0 L0 d0 s0 1048576 wx (by omega) (by omega) w0
    rw [if_neg (by omega)] at hS
    have hn : 0 ≤ 1048576 - (id0.size : Int) := by omega
    generalize 1048576 - (id0.size : Int) = n at *
    have HS := Lib.hid hS
    clear hS
    have hp := PipeAt.new w id0 f0 t0 L0 d0 s0 30
    have hb : Below w.heap.size w (w.alloc (.cells #[.string id0, .int .i64 f0, .int .i64 t0, .int .i64 L0, .int .i64 d0, .int .i64 s0] 30)) := bal (Below.refl _ _) _
    have e1 : (watV id0 f0 t0 L0 d0 s0  != watV id0 f0 t0 L0 d0 s0 ) = false := by simp
    have e2 : (watC id0 f0 t0 L0 d0 s0  != watC id0 f0 t0 L0 d0 s0 ) = false := by simp
    have ⟨p0, p1, p2, p3, p4, p5⟩ := hp
    go_enter Try.func12, Try.ntmps12
    go_wp2_with (first | (go_at_call 31; refine (HS.out _).mono ?_; rintro e w' ⟨rfl, hb'⟩; first | (have hb := bnext hb hb'; have hp := PipeAt.next hp hb'; have ⟨p0, p1, p2, p3, p4, p5⟩ := hp) | (have hb := bnext (bal hb _) hb'; have hp := PipeAt.next (PipeAt.alloc hp _) hb'; have ⟨p0, p1, p2, p3, p4, p5⟩ := hp) | (have hb := bnext (bal (bal hb _) _) hb'; have hp := PipeAt.next (PipeAt.alloc (PipeAt.alloc hp _) _) hb'; have ⟨p0, p1, p2, p3, p4, p5⟩ := hp) | (have hb := bnext (bal (bal (bal hb _) _) _) hb'; have hp := PipeAt.next (PipeAt.alloc (PipeAt.alloc (PipeAt.alloc hp _) _) _) hb'; have ⟨p0, p1, p2, p3, p4, p5⟩ := hp)) | (go_at_call 33; refine (toPipe_any _ _ _ _ _ _ _).mono ?_; rintro e w' ⟨rfl, hb'⟩; first | (have hb := bnext hb hb'; have hp := PipeAt.next hp hb'; have ⟨p0, p1, p2, p3, p4, p5⟩ := hp) | (have hb := bnext (bal hb _) hb'; have hp := PipeAt.next (PipeAt.alloc hp _) hb'; have ⟨p0, p1, p2, p3, p4, p5⟩ := hp) | (have hb := bnext (bal (bal hb _) _) hb'; have hp := PipeAt.next (PipeAt.alloc (PipeAt.alloc hp _) _) hb'; have ⟨p0, p1, p2, p3, p4, p5⟩ := hp) | (have hb := bnext (bal (bal (bal hb _) _) _) hb'; have hp := PipeAt.next (PipeAt.alloc (PipeAt.alloc (PipeAt.alloc hp _) _) _) hb'; have ⟨p0, p1, p2, p3, p4, p5⟩ := hp)) | (go_at_call 35; refine (specWaterIn_any _ _ _ _ _ _ _ w0).mono ?_; rintro e w' ⟨rfl, hb'⟩; first | (have hb := bnext hb hb'; have hp := PipeAt.next hp hb'; have ⟨p0, p1, p2, p3, p4, p5⟩ := hp) | (have hb := bnext (bal hb _) hb'; have hp := PipeAt.next (PipeAt.alloc hp _) hb'; have ⟨p0, p1, p2, p3, p4, p5⟩ := hp) | (have hb := bnext (bal (bal hb _) _) hb'; have hp := PipeAt.next (PipeAt.alloc (PipeAt.alloc hp _) _) hb'; have ⟨p0, p1, p2, p3, p4, p5⟩ := hp) | (have hb := bnext (bal (bal (bal hb _) _) _) hb'; have hp := PipeAt.next (PipeAt.alloc (PipeAt.alloc (PipeAt.alloc hp _) _) _) hb'; have ⟨p0, p1, p2, p3, p4, p5⟩ := hp)) | (go_at_call 36; refine (implWaterIn_any _ _ _ _ _ _ _ w0).mono ?_; rintro e w' ⟨rfl, hb'⟩; first | (have hb := bnext hb hb'; have hp := PipeAt.next hp hb'; have ⟨p0, p1, p2, p3, p4, p5⟩ := hp) | (have hb := bnext (bal hb _) hb'; have hp := PipeAt.next (PipeAt.alloc hp _) hb'; have ⟨p0, p1, p2, p3, p4, p5⟩ := hp) | (have hb := bnext (bal (bal hb _) _) hb'; have hp := PipeAt.next (PipeAt.alloc (PipeAt.alloc hp _) _) hb'; have ⟨p0, p1, p2, p3, p4, p5⟩ := hp) | (have hb := bnext (bal (bal (bal hb _) _) _) hb'; have hp := PipeAt.next (PipeAt.alloc (PipeAt.alloc (PipeAt.alloc hp _) _) _) hb'; have ⟨p0, p1, p2, p3, p4, p5⟩ := hp)))
    go_ret
    first | exact ⟨rfl, hb⟩ | exact ⟨rfl, (bal hb _)⟩ | exact ⟨rfl, (bal (bal hb _) _)⟩ | exact ⟨rfl, (bal (bal (bal hb _) _) _)⟩ | exact ⟨rfl, (bal (bal (bal (bal hb _) _) _) _)⟩ | exact ⟨rfl, (bal (bal (bal (bal (bal hb _) _) _) _) _)⟩
  · have hS := fun wx => szPipe_any id0 f0 t0 L0 d0 s0 1048576 wx (by omega) (by omega) w0
    rw [if_pos (by omega)] at hS
    have HS := Lib.hid hS
    clear hS
    have hp := PipeAt.new w id0 f0 t0 L0 d0 s0 30
    have hb : Below w.heap.size w (w.alloc (.cells #[.string id0, .int .i64 f0, .int .i64 t0, .int .i64 L0, .int .i64 d0, .int .i64 s0] 30)) := bal (Below.refl _ _) _
    
    have ⟨p0, p1, p2, p3, p4, p5⟩ := hp
    go_enter Try.func12, Try.ntmps12
    go_wp2_with ((go_at_call 31; refine (HS.out _).mono ?_; rintro e w' ⟨rfl, hb'⟩; first | (have hb := bnext hb hb'; have hp := PipeAt.next hp hb'; have ⟨p0, p1, p2, p3, p4, p5⟩ := hp) | (have hb := bnext (bal hb _) hb'; have hp := PipeAt.next (PipeAt.alloc hp _) hb'; have ⟨p0, p1, p2, p3, p4, p5⟩ := hp) | (have hb := bnext (bal (bal hb _) _) hb'; have hp := PipeAt.next (PipeAt.alloc (PipeAt.alloc hp _) _) hb'; have ⟨p0, p1, p2, p3, p4, p5⟩ := hp) | (have hb := bnext (bal (bal (bal hb _) _) _) hb'; have hp := PipeAt.next (PipeAt.alloc (PipeAt.alloc (PipeAt.alloc hp _) _) _) hb'; have ⟨p0, p1, p2, p3, p4, p5⟩ := hp)))
    go_ret
    first | exact ⟨rfl, hb⟩ | exact ⟨rfl, (bal hb _)⟩ | exact ⟨rfl, (bal (bal hb _) _)⟩ | exact ⟨rfl, (bal (bal (bal hb _) _) _)⟩ | exact ⟨rfl, (bal (bal (bal (bal hb _) _) _) _)⟩ | exact ⟨rfl, (bal (bal (bal (bal (bal hb _) _) _) _) _)⟩

theorem own : ownKnob Try.prog.godebug = none := by kernel_rfl
theorem laidOut : laidOutB Try.prog = true := by kernel_rfl

set_option maxRecDepth 100000 in
theorem lifted (os : Os) (started : os.Started) (H : Type) (enc : TypeId × Value → H) :
    ReturnsInHanded {} Try.checked os 12 .any (Rows.fnExactWaterInSpec.pre6 enc Try.prog Try.f12 Rows.fnExactWaterInRow.domain false) (Rows.fnExactWaterInSpec.post enc Try.prog Try.f12 false true false false) := by
  refine returnsInHanded_of_change (C := Try.checked) own started (by kernel_rfl) Try.func12
    (ChangeSpec.witness6 (enc := enc) (C := Try.checked) false ⟨#[], #[.agg #[.string .empty, .int .i64 0, .int .i64 0, .int .i64 0, .int .i64 0, .int .i64 0]], []⟩ 8 (by kernel_rfl) (by kernel_rfl) (by kernel_rfl) (by kernel_rfl)) ?_
  intro W base args ds gs before hval0 hW hcnd _
  have hval : ∀ (j : Nat) t v, Try.f12.params[j]? = some t → args[j]? = some v → Value.okWide Try.prog W .any base t v := hval0
  have hW' := hW
  obtain ⟨p, q, hA0, hV, rfl, hfz, hnd⟩ := hW
  have hA : DataW.TrodAll enc Try.prog W 0 (fun _ => true) true Try.f12.params.toList args.toList ds p := hA0
  rw [Try.params12] at hA hval
  obtain ⟨v0, vs0, d0, ds0, p0, q0, hargs, rfl, rfl, h0, r0⟩ := trodAll_cons hA
  obtain ⟨rfl, rfl, rfl⟩ := trodAll_nil r0
  obtain rfl : args = #[v0] := by cases args; simp_all
  obtain ⟨rfl, rfl⟩ := trodVars_none hV
  have k0 := h0
  obtain ⟨id0, f0, t0, L0, dd0, s0, rfl, rfl, w0⟩ := open_pipe (hval 0 30 v0 rfl rfl) h0
  clear hA0 hval0
  refine (walk id0 f0 t0 L0 dd0 s0 W w0).mono fun e W' ⟨he, bel⟩ => ?_
  subst he
  exact ⟨_, rfl, _, _, _, [], _, [], hW', trodAll_mk1 (shut_bool Try.underlying4 _), (trodAll_cons_mk (Below.trod laidOut (by kernel_rfl) (of_decide_eq_true (by kernel_rfl)) k0 bel (fun _ hx => by cases hx)) trodAll_mk0), rfl, bel.frame _, fun h => by cases h⟩

theorem over : Rows.fnExactWaterInRow.holds Try.pinned (OpenSpec.ofChange Rows.fnExactWaterInSpec) :=
  OpenClaim.holds_of_wide 12 Try.f12 rfl rfl rfl rfl rfl rfl rfl ⟨rfl, rfl, rfl, rfl, rfl⟩ rfl rfl rfl rfl rfl (by kernel_rfl) Try.func12 (by kernel_rfl)
    (of_decide_eq_true (by kernel_rfl)) (by unfold Func.isWrapper; first | (rw [if_pos (by decide +kernel)]; kernel_rfl) | (rw [if_neg (by decide +kernel)]; exact ⟨rfl, rfl⟩))
    (fun os started H enc _ => lifted os started H enc)

theorem proved : Rows.FnExactWaterInSaid :=
  over
#print axioms proved
end Go.Proofs.Ythmnfobhgeamiaa.fnExactWaterIn
