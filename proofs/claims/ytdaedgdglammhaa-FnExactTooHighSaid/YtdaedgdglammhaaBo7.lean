/-
  The indices of the numbers for which a condition holds, of the program.
-/
import Derived.Test.YtdaedgdglammhaaBo2
namespace Go.Proofs.Ytdaedgdglammhaa
open Go.ChangeShapes Go.WideShapes Go.ChangeAt Go.RowKit Go.Shelf

set_option linter.unusedVariables false
set_option maxRecDepth 100000
set_option maxHeartbeats 4000000
def idxTo (f : Nat → Bool) (k : Nat) : List Int := ((List.range k).filter f).map fun (i : Nat) => (i : Int)
theorem idxTo_yes (f : Nat → Bool) (k : Nat) (h : f k = true) : idxTo f (k + 1) = idxTo f k ++ [(k : Int)] := by
  unfold idxTo; rw [List.range_succ, List.filter_append, List.map_append]; simp [h]
theorem idxTo_no (f : Nat → Bool) (k : Nat) (h : f k = false) : idxTo f (k + 1) = idxTo f k := by
  unfold idxTo; rw [List.range_succ, List.filter_append, List.map_append]; simp [h]
theorem idxTo_length (f : Nat → Bool) (k : Nat) : (idxTo f k).length ≤ k := by
  unfold idxTo; rw [List.length_map]; exact Nat.le_trans (List.length_filter_le _ _) (by simp)
theorem indicesWhere_any (A : Option Addr) (c : Nat) (zs : List Int) (g : Nat) (fs cp : Array Value) (f : Nat → Bool) (w : World) (eg : ∀ args w, (callFunc g args).run Try.prog w = .ok (.enter g args) w) (h : CellsAt w A (intsV zs)) (hn : zs.length ≤ 16)
    (hF : ∀ (wr : World) (k : Nat), k < zs.length → Below w.heap.size w wr → Calls Try.prog g (fs.push (.int .i64 (zs.getD k 0)) ++ cp) wr fun e w' => e = .returned (.bool (f k)) ∧ Below wr.heap.size wr w') :
    Calls Try.prog 88 #[.slice A zs.length c, .func (.func g) fs cp] w (RetRow 2 (intsV (idxTo f zs.length)) w) := by
  have HB := Lib.hid h
  have HF := Lib.hid hF
  obtain ⟨i0, hi, hz0, hz1, hz2⟩ := info_parts infoI64
  clear h hF
  go_enter Try.func88, Try.ntmps88
  go_wp2_with fail
  go_loopw [5, 10] (fun v i wr => ∃ (k l : Nat) (T : Option Addr) (td : Nat), k ≤ zs.length ∧ l ≤ k ∧ i = .int .i64 k ∧ v = .slice T l td ∧ wr.ownsRow w.heap.size 2 1 (.slice T l td) l (intsV (idxTo f k)) ∧ Below w.heap.size w wr) (fun _ i _ => zs.length - (intOf i).toNat)
  case atStart => exact ⟨0, 0, none, 0, by omega, by omega, rfl, rfl, World.ownsRow_nil _ _ _ _, Below.refl _ _⟩
  case round =>
    obtain ⟨k, l, T, td, hk, hlk, rfl, rfl, hro, hb⟩ := hrel
    by_cases hlt : k < zs.length
    · obtain ⟨b, off, rfl, q0⟩ := intsCell (HB.out.next hb) hlt
      have hk1 : (k : Int) < ((zs.length : Nat) : Int) := by omega
      have HC := Lib.hid (HF.out wr k hlt hb)
      generalize zs.getD k 0 = x at *
      have hl48 : l ≤ 16 := by omega
      by_cases hp : f k = true
      · have HT := Lib.hid (idxTo_yes f k hp)
        have HC := Lib.hid (by have h := HC.out; rw [hp] at h; exact h)
        clear hp
        go_wp2_with fail
        refine HC.out.mono ?_
        rintro e wr2 ⟨rfl, hb'⟩
        have hro1 := owns_below hro hb' (Nat.le_refl _)
        have hb1 := bnext hb hb'
        clear hb'
        go_wp2_with (at_builtin; refine wpList_append_own _ rfl _ _ 31 rfl w.heap.size 2 i0 (.int .i64 0) 1 8 Try.underlying31 hi hz0 hz1 hz2 rfl (by decide) _ _ _ rfl (hro1.alloc _) ⟨wr2.heap.size, 0, none⟩ 1 1 [.int .i64 (k : Int)] rfl rfl (cell_one_new _ _ _) (by simp [Value.oneCell']) ?_ ?_ ?_ ?_; (unfold maxLen; omega); (omega); (have := hb1.size; simp; omega); intro v4 w4 hown4 hgrow4 _; obtain ⟨T4, d4, rfl⟩ := owns_form hown4)
        go_roundw
        case rel => exact ⟨k + 1, l + 1, T4, d4, by omega, by omega, by go_num, rfl, by rw [HT.out, intsV_snoc]; exact hown4, (bal hb1 _).grown hgrow4 (by have := hb1.size; simp; omega) (owns_ge hro)⟩
        case measure => simp [intOf]; omega
      · have hp' : f k = false := by simpa using hp
        have HT := Lib.hid (idxTo_no f k hp')
        have HC := Lib.hid (by have h := HC.out; rw [hp'] at h; exact h)
        clear hp hp'
        go_wp2_with fail
        refine HC.out.mono ?_
        rintro e wr2 ⟨rfl, hb'⟩
        have hro1 := owns_below hro hb' (Nat.le_refl _)
        have hb1 := bnext hb hb'
        clear hb'
        go_wp2
        go_roundw
        case rel => exact ⟨k + 1, l, T, td, by omega, by omega, by go_num, rfl, by rw [HT.out]; exact hro1, hb1⟩
        case measure => simp [intOf]; omega
    · have he : k = zs.length := by omega
      subst he
      have hfin := retRow_mk (vs := intsV (idxTo f zs.length)) (w := w) rfl hro rfl hb
      have HF9 := Lib.hid hfin
      clear hfin hro
      go_wp2
      go_ret
      exact HF9.out
end Go.Proofs.Ytdaedgdglammhaa
