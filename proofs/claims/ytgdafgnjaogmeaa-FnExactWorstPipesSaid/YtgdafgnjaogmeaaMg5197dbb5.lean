import Derived.Test.YtgdafgnjaogmeaaH8
import Derived.Test.YtgdafgnjaogmeaaH6
import Derived.Deep.RegionHeld3
import Derived.Test.YtgdafgnjaogmeaaP2
/-
  The code that stands ahead of each answer about a network.
-/
namespace Go.Proofs.Ytgdafgnjaogmeaa
open Go.ChangeShapes Go.WideShapes Go.ChangeAt Go.RowKit
set_option maxRecDepth 100000
set_option linter.unusedVariables false

theorem code_any (A B : Option Addr) (c d : Nat) (z : List Int) (ps : List Pp) (r : Bool) (w : World) (h : NetCells w A z B ps) (hn : z.length ≤ 1048576) (hm : ps.length ≤ 1048576) (hid : ∀ p ∈ ps, p.id.size ≤ maxLen) :
    Calls Try.prog 70 #[.agg #[.slice A z.length c, .slice B ps.length d], .bool r] w fun e w' => e = .returned (.int .i64 (argC (netB z ps) r)) ∧ Below w.heap.size w w' := by
  have hb : Below w.heap.size w (w.alloc (.cells #[.slice A z.length c, .slice B ps.length d] 40)) := bal (Below.refl _ _) _
  have HV := Lib.hid (implValidNet_any A z.length c B ps.length d z ps _ rfl rfl hn hm (h.next hb).1 (h.next hb).2 hid)
  clear h hid
  generalize netB z ps = v at *
  go_enter Try.func70, Try.ntmps70
  go_wp2_with fail
  refine HV.out.mono ?_
  rintro e w1 ⟨rfl, hb1⟩
  have hb := bnext hb hb1
  go_wp2_with fail
  refine (argumentCode_any v r _).mono ?_
  rintro e w2 ⟨rfl, rfl⟩
  go_wp2
  go_ret
  exact ⟨rfl, hb⟩

end Go.Proofs.Ytgdafgnjaogmeaa

/-
  Drops, water, losses: what both sides answer of a valid pipe; bounds of its numbers.
-/
namespace Go.Proofs.Ytgdafgnjaogmeaa
open Go.ChangeShapes Go.WideShapes Go.ChangeAt Go.RowKit Go.Shelf
set_option linter.unusedSimpArgs false


theorem Drawn.below {w w' : World} (h : Drawn w w') : Below w.heap.size w w' := by
  obtain ⟨n, rfl⟩ := h
  exact below_drewN (Below.refl _ _) _
theorem okP_bd (id : ByteArray) (f t L d s : Int) (h : okP id f t L d s = true) : nameL id.data.toList = true ∧ (0 ≤ f ∧ f ≤ 15) ∧ (0 ≤ t ∧ t ≤ 15) ∧ f ≠ t ∧ (1 ≤ L ∧ L ≤ 10000) ∧ (20 ≤ d ∧ d ≤ 1000) ∧ (0 ≤ s ∧ s ≤ 5000) := by
  unfold okP at h
  simp only [Bool.and_eq_true, inB_iff, Bool.not_eq_true', decide_eq_false_iff_not] at h
  obtain ⟨a, b, c, e, g, i, j⟩ := h
  exact ⟨a, b, c, e, g, i, j⟩

def dropOV (id : ByteArray) (f t L d s : Int) (q : Int) : Int := if okP id f t L d s && inB q (-100000) 100000 && inB (dropI L d q) (-100000000) 100000000 then (dropI L d q) else 0
def dropOC (id : ByteArray) (f t L d s : Int) (q : Int) : Int := if okP id f t L d s then (if inB q (-100000) 100000 then (if inB (dropI L d q) (-100000000) 100000000 then 0 else 6) else 2) else 1

theorem lostHeat_any (id : ByteArray) (f t L d s : Int) (a c : Int) (w : World) (s0 : 0 ≤ s) (s1 : s ≤ 5000) (l0 : 0 ≤ L) (l1 : L ≤ 10000) (a0 : -5000 ≤ a) (a1 : a ≤ 20000) (b0 : -5000 ≤ c) (b1 : c ≤ 20000) : Calls Try.prog 122 #[.agg #[.string id, .int .i64 f, .int .i64 t, .int .i64 L, .int .i64 d, .int .i64 s], .int .i64 a, .int .i64 c] w fun e w' => e = .returned (.int .i64 (lossI s L a c)) ∧ Below w.heap.size w w' := by
  have k := loss_num s L a c s0 s1 l0 l1 a0 a1 b0 b1
  unfold lossI
  have hp := PipeAt.new w id f t L d s 29
  have hb : Below w.heap.size w (w.alloc (.cells #[.string id, .int .i64 f, .int .i64 t, .int .i64 L, .int .i64 d, .int .i64 s] 29)) := bal (Below.refl _ _) _
  have ⟨p0, p1, p2, p3, p4, p5⟩ := hp
  go_enter Try.func122, Try.ntmps122
  go_wp2_with ((go_at_call 60; refine (nearest_any _ _ _ (by omega) (by omega) (by omega) (by omega) (by omega)).mono ?_; rintro e w' ⟨rfl, ⟨nq, rfl⟩⟩; have hb := below_drewN hb nq))
  go_ret
  first | exact ⟨rfl, hb⟩ | exact ⟨rfl, (bal hb _)⟩ | exact ⟨rfl, (bal (bal hb _) _)⟩ | exact ⟨rfl, (bal (bal (bal hb _) _) _)⟩ | exact ⟨rfl, (bal (bal (bal (bal hb _) _) _) _)⟩ | exact ⟨rfl, (bal (bal (bal (bal (bal hb _) _) _) _) _)⟩

end Go.Proofs.Ytgdafgnjaogmeaa
