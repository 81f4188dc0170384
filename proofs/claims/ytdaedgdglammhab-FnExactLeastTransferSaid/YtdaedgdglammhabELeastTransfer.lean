/-
  FnExactLeastTransfer: for every input the law returns true and its arguments read as before. No condition.
-/
import Derived.Test.YtdaedgdglammhabEy4
import Derived.Test.YtdaedgdglammhabSb1
import Derived.Test.YtdaedgdglammhabSb2
import Derived.Test.YtdaedgdglammhabG0
import Derived.ShutString
import Derived.ChangeOld
namespace Go.Proofs.Ytdaedgdglammhab.fnExactLeastTransfer
open Go.ChangeShapes Go.WideShapes Go.ChangeAt Go.RowKit
open Go.ChangeMaps (open_string shut_string)
set_option linter.unusedVariables false

set_option maxRecDepth 100000

theorem walk (x0 : Sb) (a1 : Int) (a2 : Int) (w : World) (w0 : x0.fine) (w1 : (Lit.int .i64 a1).wf = true) (w2 : (Lit.int .i64 a2).wf = true) :
    Calls Try.prog 8 #[.agg #[.string x0.id, .int .i64 x0.nd, .int .i64 x0.tr, .int .i64 x0.su, .int .i64 x0.re], .int .i64 a1, .int .i64 a2] w fun e w' => e = .returned (.bool true) ∧ Below w.heap.size w w' := by
  have hp := SbO.new w x0 30
  have ⟨p0, p1, p2, p3, p4⟩ := hp
  have hb : Below w.heap.size w (w.alloc (.cells #[.string x0.id, .int .i64 x0.nd, .int .i64 x0.tr, .int .i64 x0.su, .int .i64 x0.re] 30)) := bal (Below.refl _ _) _
  have e1 : (ltV x0 a1 a2 != ltV x0 a1 a2) = false := by simp
  have e2 : (ltC x0 a1 a2 != ltC x0 a1 a2) = false := by simp
  go_enter Try.func8, Try.ntmps8
  go_wp2_with fail
  refine (szSb_any x0 1048576 _ (by omega) (by omega) w0).mono ?_
  rintro e wz ⟨r, rfl, hr, hb'⟩
  have hp := SbO.next hp hb'
  have hb := bnext hb hb'
  have ⟨p0, p1, p2, p3, p4⟩ := hp
  clear hb'
  rcases hr with rfl | ⟨r0, r1⟩
  · go_wp2
    go_ret
    exact ⟨rfl, hb⟩
  · go_wp2_with (first | (go_at_call 19; refine (toSb_any _ _).mono ?_; rintro e w' ⟨rfl, hb'⟩; first | (have hb := bnext hb hb'; have hp := SbO.next hp hb'; have ⟨p0, p1, p2, p3, p4⟩ := hp) | (have hb := bnext (bal hb _) hb'; have hp := SbO.next (SbO.alloc hp _) hb'; have ⟨p0, p1, p2, p3, p4⟩ := hp) | (have hb := bnext (bal (bal hb _) _) hb'; have hp := SbO.next (SbO.alloc (SbO.alloc hp _) _) hb'; have ⟨p0, p1, p2, p3, p4⟩ := hp) | (have hb := bnext (bal (bal (bal hb _) _) _) hb'; have hp := SbO.next (SbO.alloc (SbO.alloc (SbO.alloc hp _) _) _) hb'; have ⟨p0, p1, p2, p3, p4⟩ := hp)) | (go_at_call 27; refine (specLeastTransfer_any _ _ _ _ w0).mono ?_; rintro e w' ⟨rfl, hb'⟩; first | (have hb := bnext hb hb'; have hp := SbO.next hp hb'; have ⟨p0, p1, p2, p3, p4⟩ := hp) | (have hb := bnext (bal hb _) hb'; have hp := SbO.next (SbO.alloc hp _) hb'; have ⟨p0, p1, p2, p3, p4⟩ := hp) | (have hb := bnext (bal (bal hb _) _) hb'; have hp := SbO.next (SbO.alloc (SbO.alloc hp _) _) hb'; have ⟨p0, p1, p2, p3, p4⟩ := hp) | (have hb := bnext (bal (bal (bal hb _) _) _) hb'; have hp := SbO.next (SbO.alloc (SbO.alloc (SbO.alloc hp _) _) _) hb'; have ⟨p0, p1, p2, p3, p4⟩ := hp)) | (go_at_call 28; refine (implLeastTransfer_any _ _ _ _ w0).mono ?_; rintro e w' ⟨rfl, hb'⟩; first | (have hb := bnext hb hb'; have hp := SbO.next hp hb'; have ⟨p0, p1, p2, p3, p4⟩ := hp) | (have hb := bnext (bal hb _) hb'; have hp := SbO.next (SbO.alloc hp _) hb'; have ⟨p0, p1, p2, p3, p4⟩ := hp) | (have hb := bnext (bal (bal hb _) _) hb'; have hp := SbO.next (SbO.alloc (SbO.alloc hp _) _) hb'; have ⟨p0, p1, p2, p3, p4⟩ := hp) | (have hb := bnext (bal (bal (bal hb _) _) _) hb'; have hp := SbO.next (SbO.alloc (SbO.alloc (SbO.alloc hp _) _) _) hb'; have ⟨p0, p1, p2, p3, p4⟩ := hp)))
    go_ret
    first | exact ⟨rfl, hb⟩ | exact ⟨rfl, (bal hb _)⟩ | exact ⟨rfl, (bal (bal hb _) _)⟩ | exact ⟨rfl, (bal (bal (bal hb _) _) _)⟩ | exact ⟨rfl, (bal (bal (bal (bal hb _) _) _) _)⟩ | exact ⟨rfl, (bal (bal (bal (bal (bal hb _) _) _) _) _)⟩

theorem own : ownKnob Try.prog.godebug = none := by kernel_rfl
theorem laidOut : laidOutB Try.prog = true := by kernel_rfl

set_option maxRecDepth 100000 in
theorem lifted (os : Os) (started : os.Started) (H : Type) (enc : TypeId × Value → H) :
    ReturnsInHanded {} Try.checked os 8 .any (Rows.fnExactLeastTransferSpec.pre6 enc Try.prog Try.f8 Rows.fnExactLeastTransferRow.domain false) (Rows.fnExactLeastTransferSpec.post enc Try.prog Try.f8 false true false false) := by
  refine returnsInHanded_of_change (C := Try.checked) own started (by kernel_rfl) Try.func8
    (ChangeSpec.witness6 (enc := enc) (C := Try.checked) false ⟨#[], #[.agg #[.string .empty, .int .i64 0, .int .i64 0, .int .i64 0, .int .i64 0], .int .i64 0, .int .i64 0], []⟩ 8 (by kernel_rfl) (by kernel_rfl) (by kernel_rfl) (by kernel_rfl)) ?_
  intro W base args ds gs before hval0 hW hcnd _
  have hval : ∀ (j : Nat) t v, Try.f8.params[j]? = some t → args[j]? = some v → Value.okWide Try.prog W .any base t v := hval0
  have hW' := hW
  obtain ⟨p, q, hA0, hV, rfl, hfz, hnd⟩ := hW
  have hA : DataW.TrodAll enc Try.prog W 0 (fun _ => true) true Try.f8.params.toList args.toList ds p := hA0
  rw [Try.params8] at hA hval
  obtain ⟨v0, vs0, d0, ds0, p0, q0, hargs, rfl, rfl, h0, r0⟩ := trodAll_cons hA
  obtain ⟨v1, vs1, d1, ds1, p1, q1, rfl, rfl, rfl, h1, r1⟩ := trodAll_cons r0
  obtain ⟨v2, vs2, d2, ds2, p2, q2, rfl, rfl, rfl, h2, r2⟩ := trodAll_cons r1
  obtain ⟨rfl, rfl, rfl⟩ := trodAll_nil r2
  obtain rfl : args = #[v0, v1, v2] := by cases args; simp_all
  obtain ⟨rfl, rfl⟩ := trodVars_none hV
  have k0 := h0
  obtain ⟨x0, rfl, w0, rfl⟩ := open_Sb (hval 0 30 v0 rfl rfl) h0
  obtain ⟨a1, rfl, rfl, rfl, w1⟩ := open_int Try.underlying2 (hval 1 2 v1 rfl rfl) h1
  obtain ⟨a2, rfl, rfl, rfl, w2⟩ := open_int Try.underlying2 (hval 2 2 v2 rfl rfl) h2
  clear hA0 hval0
  refine (walk x0 a1 a2 W w0 w1 w2).mono fun e W' ⟨he, bel⟩ => ?_
  subst he
  exact ⟨_, rfl, _, _, _, [], _, [], hW', trodAll_mk1 (shut_bool Try.underlying4 _), (trodAll_cons_mk (Below.trod laidOut (by kernel_rfl) (of_decide_eq_true (by kernel_rfl)) k0 bel (fun _ hx => by cases hx)) (trodAll_cons_mk (shut_int Try.underlying2 w1) (trodAll_cons_mk (shut_int Try.underlying2 w2) trodAll_mk0))), rfl, bel.frame _, fun h => by cases h⟩

theorem over : Rows.fnExactLeastTransferRow.holds Try.pinned (OpenSpec.ofChange Rows.fnExactLeastTransferSpec) :=
  OpenClaim.holds_of_wide 8 Try.f8 rfl rfl rfl rfl rfl rfl rfl ⟨rfl, rfl, rfl, rfl, rfl⟩ rfl rfl rfl rfl rfl (by kernel_rfl) Try.func8 (by kernel_rfl)
    (of_decide_eq_true (by kernel_rfl)) (by unfold Func.isWrapper; first | (rw [if_pos (by decide +kernel)]; kernel_rfl) | (rw [if_neg (by decide +kernel)]; exact ⟨rfl, rfl⟩))
    (fun os started H enc _ => lifted os started H enc)

theorem proved : Rows.FnExactLeastTransferSaid :=
  over
#print axioms proved
end Go.Proofs.Ytdaedgdglammhab.fnExactLeastTransfer
