/-
  The laws' own helpers over Substation and lists of them: how great one is, a copy, whether two are the same.
-/
import Derived.Test.YtdaedgdglammhaaSb0
import Derived.Test.YtdaedgdglammhaaGs
import Derived.Deep.RegionHeld3
namespace Go.Proofs.Ytdaedgdglammhaa
open Go.ChangeShapes Go.WideShapes Go.ChangeAt Go.RowKit
set_option linter.unusedVariables false
set_option linter.unusedSimpArgs false
set_option maxRecDepth 100000
set_option linter.unusedVariables false

theorem infoSb : (Try.prog.info? 25).map (fun i => (i.zero, i.size, i.bytes)) = some (some (.agg #[.string .empty, .int .i64 0, .int .i64 0, .int .i64 0, .int .i64 0]), 5, 48) := by kernel_rfl
theorem szSb_any (x : Sb) (m : Int) (w : World) (m0 : 0 ≤ m) (m1 : m ≤ 1048576) (h : x.fine) :
    Calls Try.prog 43 #[.agg #[.string x.id, .int .i64 x.nd, .int .i64 x.tr, .int .i64 x.su, .int .i64 x.re], .int .i64 m] w (SzR 0 m w) := by
  have g0 := h
  unfold Sb.fine at *
  have hm0 : (x.id.size : Int) ≤ 9223372036854775807 := by unfold maxLen at g0; omega
  have hb : Below w.heap.size w (w.alloc (.cells #[.string x.id, .int .i64 x.nd, .int .i64 x.tr, .int .i64 x.su, .int .i64 x.re] 61)) := bal (Below.refl _ _) _
  obtain ⟨n0, n1, n2, n3, n4⟩ := SbO.new w x 61
  by_cases h0 : m - x.id.size < 0
  · go_enter Try.func43, Try.ntmps43
    go_wp2
    go_ret
    exact ⟨-1, rfl, .inl rfl, hb⟩
  have h0' : 0 ≤ m - x.id.size := by omega
  go_enter Try.func43, Try.ntmps43
  go_wp2
  go_ret
  exact ⟨_, rfl, .inr ⟨by omega, by omega⟩, hb⟩
theorem toSb_any (x : Sb) (w : World) :
    Calls Try.prog 45 #[.agg #[.string x.id, .int .i64 x.nd, .int .i64 x.tr, .int .i64 x.su, .int .i64 x.re]] w fun e w' => e = .returned (.agg #[.string x.id, .int .i64 x.nd, .int .i64 x.tr, .int .i64 x.su, .int .i64 x.re]) ∧ Below w.heap.size w w' := by
  go_enter Try.func45, Try.ntmps45
  go_wp2
  exact bodyPost_ret (results_cell_row Try.results45 _ _ (w.heap.size + 1) 25 _ (0, 0) _ rfl (by
    refine ((bal (Below.refl _ _) _).block _ (by simp)).trans ?_
    rw [show w.heap.size + 1 = (w.alloc (.cells #[.string x.id, .int .i64 x.nd, .int .i64 x.tr, .int .i64 x.su, .int .i64 x.re] 61)).heap.size from (World.size_alloc _ _).symm]
    exact heap_alloc_new _ _) Try.underlying25 rfl (by kernel_rfl)) rfl ⟨rfl, bal (bal (bal (Below.refl _ _) _) _) _⟩
/-- a call that returns a new slice of them -/
def RetSbs (xs : List Sb) (w : World) (e : Ending) (w' : World) : Prop :=
  ∃ A c, e = .returned (.slice A xs.length c) ∧ w'.ownsRow w.heap.size 25 5 (.slice A xs.length c) xs.length (rowsF Sb.cs xs) ∧ Below w.heap.size w w'
end Go.Proofs.Ytdaedgdglammhaa
