/-
  FnExactSplitWords: for every input the law returns true and its arguments read as before. No condition.
-/
import Derived.Test.YtgakfpmeedmodaaS3
import Derived.Test.YtgakfpmeedmodaaM1
import Derived.Test.YtgakfpmeedmodaaG0
import Derived.ShutString
import Derived.ChangeOld
namespace Go.Proofs.Ytgakfpmeedmodaa.fnExactSplitWords
open Go.ChangeShapes Go.WideShapes Go.ChangeAt Go.RowKit
open Go.ChangeMaps (open_string shut_string)
set_option linter.unusedVariables false

theorem impl_strs (s : ByteArray) (w : World) (hs : s.size ≤ 4294967296) : Calls Try.prog 15 #[.string s] w (RetStrs ((wordsL s.data.toList).map mkB) w) :=
  (implSplitWords_any s w hs).mono fun _ _ h => retStrs_of h (by simp [strsV])
theorem spec_strs (s : ByteArray) (w : World) (hs : s.size ≤ 4294967296) : Calls Try.prog 14 #[.string s] w (RetStrs ((wordsL s.data.toList).map mkB) w) :=
  (specSplitWords_any s w hs).mono fun _ _ h => retStrs_of h (by simp [strsV])
theorem words_bd (l : List UInt8) : (wordsL l).length ≤ l.length + 1 := Nat.le_trans (List.length_filter_le _ _) (splitGo_length 32 l [])

theorem walk (a0 : ByteArray) (w : World) (w0 : a0.size ≤ maxLen) :
    Calls Try.prog 5 #[.string a0] w fun e w' => e = .returned (.bool true) ∧ Below w.heap.size w w' := by
  have hm : a0.size ≤ 9223372036854775807 := by unfold maxLen at w0; omega
  by_cases hz : a0.size ≤ 1048576
  · have hs : a0.size ≤ 4294967296 := by omega
    have hI := fun wx => impl_strs a0 wx hs
    have hS := fun wx => spec_strs a0 wx hs
    have HI := Lib.hid hI
    have HS := Lib.hid hS
    have hX : ((wordsL a0.data.toList).map mkB).length ≤ 1048577 := by
      have := words_bd a0.data.toList
      rw [size_list] at this
      rw [List.length_map]; omega
    generalize (wordsL a0.data.toList).map mkB = X at *
    clear hI hS
    go_enter Try.func5, Try.ntmps5
    go_wp2_with fail
    refine (HS.out _).mono ?_
    rintro e w1 ⟨A, c, rfl, ho1, hb1⟩
    have hx := owns_max ho1
    go_wp2_with fail
    refine (HI.out _).mono ?_
    rintro e w2 ⟨B, d, rfl, ho2, hb2⟩
    have ho1' := owns_below ho1 hb2 (Nat.le_refl _)
    go_wp2_with fail
    refine (eqStrings_same B A d c X _ hx (owns_cells ho2) (owns_cells ho1')).mono ?_
    rintro e w3 ⟨rfl, ⟨k1, rfl⟩⟩
    go_wp2_with fail
    have hc2 : (w2.drewN k1).ownsRow w1.heap.size 9 1 (.slice B X.length d) X.length (X.map Value.string) := ho2
    refine (markStrings_any B d X.length w1.heap.size (X.map Value.string) 1 _ (by omega) (by omega) hc2).mono ?_
    rintro e w4 ⟨rfl, ho4, hg4⟩
    have hb24 := grown_old (below_drewN ((hb1.trans (hb2.mono hb1.size))) k1) hg4 hc2 hb1.size
    have ho1c : (w2.drewN k1).ownsRow w.heap.size 9 1 (.slice A X.length c) X.length (X.map Value.string) := ho1'
    have ho14 := owns_kept ho1c hg4 (owns_lies ho1) hc2
    clear hc2 ho1c
    go_wp2_with fail
    refine (heldStrings_any B d X.length 1 _ (by omega) (by omega) hx (owns_cells ho4) (owns_lies ho4)).mono ?_
    rintro e w5 ⟨rfl, hb5⟩
    have ho45 := owns_below ho4 hb5 (Nat.le_refl _)
    have ho15 := owns_below ho14 hb5 (Nat.le_refl _)
    have hneg : ¬ (1 + (X.length : Int) < 0) := by omega
    go_wp2_with fail
    refine (HI.out _).mono ?_
    rintro e w6 ⟨C, f, rfl, ho6, hb6⟩
    have ho46 := owns_below ho45 hb6 (Nat.le_refl _)
    have ho16 := owns_below ho15 hb6 (Nat.le_refl _)
    go_wp2_with fail
    refine (eqStrings_same C A f c X _ hx (owns_cells ho6) (owns_cells ho16)).mono ?_
    rintro e w7 ⟨rfl, ⟨k2, rfl⟩⟩
    go_wp2_with fail
    have ho47 : (w6.drewN k2).ownsRow w1.heap.size 9 1 (.slice B X.length d) X.length (marksS 1 X.length) := ho46
    refine (heldStrings_any B d X.length 1 _ (by omega) (by omega) hx (owns_cells ho47) (owns_lies ho47)).mono ?_
    rintro e w8 ⟨rfl, hb8⟩
    go_wp2
    go_ret
    exact ⟨rfl, bnext (bnext (bnext hb24 hb5) (below_drewN hb6 k2)) hb8⟩
  · go_enter Try.func5, Try.ntmps5
    go_wp2
    go_ret
    exact ⟨rfl, Below.refl _ _⟩

theorem own : ownKnob Try.prog.godebug = none := by kernel_rfl
theorem laidOut : laidOutB Try.prog = true := by kernel_rfl

set_option maxRecDepth 100000 in
theorem lifted (os : Os) (started : os.Started) (H : Type) (enc : TypeId × Value → H) :
    ReturnsInHanded {} Try.checked os 5 .any (Rows.fnExactSplitWordsSpec.pre6 enc Try.prog Try.f5 Rows.fnExactSplitWordsRow.domain false) (Rows.fnExactSplitWordsSpec.post enc Try.prog Try.f5 false true false false) := by
  refine returnsInHanded_of_change (C := Try.checked) own started (by kernel_rfl) Try.func5
    (ChangeSpec.witness6 (enc := enc) (C := Try.checked) false ⟨#[], #[.string .empty], []⟩ 8 (by kernel_rfl) (by kernel_rfl) (by kernel_rfl) (by kernel_rfl)) ?_
  intro W base args ds gs before hval0 hW hcnd _
  have hval : ∀ (j : Nat) t v, Try.f5.params[j]? = some t → args[j]? = some v → Value.okWide Try.prog W .any base t v := hval0
  have hW' := hW
  obtain ⟨p, q, hA0, hV, rfl, hfz, hnd⟩ := hW
  have hA : DataW.TrodAll enc Try.prog W 0 (fun _ => true) true Try.f5.params.toList args.toList ds p := hA0
  rw [Try.params5] at hA hval
  obtain ⟨v0, vs0, d0, ds0, p0, q0, hargs, rfl, rfl, h0, r0⟩ := trodAll_cons hA
  obtain ⟨rfl, rfl, rfl⟩ := trodAll_nil r0
  obtain rfl : args = #[v0] := by cases args; simp_all
  obtain ⟨rfl, rfl⟩ := trodVars_none hV
  obtain ⟨a0, rfl, rfl, rfl, w0⟩ := open_string Try.underlying9 (hval 0 9 v0 rfl rfl) h0
  clear hA0 hval0
  refine (walk a0 W w0).mono fun e W' ⟨he, bel⟩ => ?_
  subst he
  exact ⟨_, rfl, _, _, _, [], _, [], hW', trodAll_mk1 (shut_bool Try.underlying4 _), (trodAll_cons_mk (shut_string Try.underlying9 w0) trodAll_mk0), rfl, bel.frame _, fun h => by cases h⟩

theorem over : Rows.fnExactSplitWordsRow.holds Try.pinned (OpenSpec.ofChange Rows.fnExactSplitWordsSpec) :=
  OpenClaim.holds_of_wide 5 Try.f5 rfl rfl rfl rfl rfl rfl rfl ⟨rfl, rfl, rfl, rfl, rfl⟩ rfl rfl rfl rfl rfl (by kernel_rfl) Try.func5 (by kernel_rfl)
    (of_decide_eq_true (by kernel_rfl)) (by unfold Func.isWrapper; first | (rw [if_pos (by decide +kernel)]; kernel_rfl) | (rw [if_neg (by decide +kernel)]; exact ⟨rfl, rfl⟩))
    (fun os started H enc _ => lifted os started H enc)

theorem proved : Rows.FnExactSplitWordsSaid :=
  over
#print axioms proved
end Go.Proofs.Ytgakfpmeedmodaa.fnExactSplitWords
