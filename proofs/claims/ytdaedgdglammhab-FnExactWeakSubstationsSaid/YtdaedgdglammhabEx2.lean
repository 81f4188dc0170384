/-
  An exchanger in memory; its methods of the program: the mean difference, what is given off and what can be carried,
  the lesser one.
-/
import Derived.Test.YtdaedgdglammhabEx1
import Derived.Lib.MinMax
import Derived.Deep.RegionHeld3
import Derived.Test.YtdaedgdglammhabP3
namespace Go.Proofs.Ytdaedgdglammhab
open Go.ChangeShapes Go.WideShapes Go.ChangeAt Go.RowKit

set_option linter.unusedVariables false
set_option maxRecDepth 100000
/-- an exchanger in block b -/
def ExO (w : World) (b : Nat) (x : Sb) (p : Int) : Prop :=
  w.cell? ⟨b, 0, none⟩ = some (.string x.id) ∧ w.cell? ⟨b, 1, none⟩ = some (.int .i64 x.nd) ∧ w.cell? ⟨b, 2, none⟩ = some (.int .i64 x.tr) ∧ w.cell? ⟨b, 3, none⟩ = some (.int .i64 x.su) ∧ w.cell? ⟨b, 4, none⟩ = some (.int .i64 x.re) ∧ w.cell? ⟨b, 5, none⟩ = some (.int .i64 p)
theorem ExO.lies {w : World} {b : Nat} {x : Sb} {p : Int} (h : ExO w b x p) : b < w.heap.size := World.block_lt_of_cell? _ _ h.1
theorem ExO.keep {w w' : World} {b : Nat} {x : Sb} {p : Int} (h : ExO w b x p) (k : w'.heap[b]? = w.heap[b]?) : ExO w' b x p := by
  have e : ∀ j, w'.cell? ⟨b, j, none⟩ = w.cell? ⟨b, j, none⟩ := fun j => World.cell?_of_block k
  unfold ExO
  rw [e, e, e, e, e, e]
  exact h
theorem ExO.next {w w' : World} {b : Nat} {x : Sb} {p : Int} (h : ExO w b x p) (hb : Below w.heap.size w w') : ExO w' b x p := h.keep (hb.block _ h.lies)
theorem ExO.alloc {w : World} {b : Nat} {x : Sb} {p : Int} (h : ExO w b x p) (O : Obj) : ExO (w.alloc O) b x p := h.next (bal (Below.refl _ _) O)
theorem ExO.new (w : World) (x : Sb) (p : Int) (T : TypeId) : ExO (w.alloc (.cells #[.string x.id, .int .i64 x.nd, .int .i64 x.tr, .int .i64 x.su, .int .i64 x.re, .int .i64 p] T)) w.heap.size x p := by
  unfold ExO
  simp
/-- the numbers of an exchanger keep their limits -/
def exB (x : Sb) (p : Int) : Prop := (0 ≤ x.tr ∧ x.tr ≤ 100000) ∧ (0 ≤ x.su ∧ x.su ≤ 18000) ∧ (0 ≤ x.re ∧ x.re ≤ 18000) ∧ 0 ≤ p ∧ p ≤ 18000

theorem meanDifference_any (x : Sb) (p b : Int) (w : World) (h : exB x p) (b0 : 0 ≤ b) (b1 : b ≤ 18000) :
    Calls Try.prog 63 #[.agg #[.string x.id, .int .i64 x.nd, .int .i64 x.tr, .int .i64 x.su, .int .i64 x.re, .int .i64 p], .int .i64 b] w fun e w' => e = .returned (.int .i64 (meanI x.su x.re p b)) ∧ Below w.heap.size w w' := by
  obtain ⟨ht, hs, hr, hp0⟩ := h
  unfold meanI
  have hp := ExO.new w x p 60
  have ⟨p0, p1, p2, p3, p4, p5⟩ := hp
  have hb : Below w.heap.size w (w.alloc (.cells #[.string x.id, .int .i64 x.nd, .int .i64 x.tr, .int .i64 x.su, .int .i64 x.re, .int .i64 p] 60)) := bal (Below.refl _ _) _
  go_enter Try.func63, Try.ntmps63
  go_wp2_with ((go_at_call 88; refine (nearest_any _ _ _ (by omega) (by omega) (by omega) (by omega) (by omega)).mono ?_; rintro e w' ⟨rfl, hd'⟩; have hb' := Drawn.below hd'; first | (have hb := bnext hb hb'; have hp := ExO.next hp hb'; have ⟨p0, p1, p2, p3, p4, p5⟩ := hp) | (have hb := bnext (bal hb _) hb'; have hp := ExO.next (ExO.alloc hp _) hb'; have ⟨p0, p1, p2, p3, p4, p5⟩ := hp) | (have hb := bnext (bal (bal hb _) _) hb'; have hp := ExO.next (ExO.alloc (ExO.alloc hp _) _) hb'; have ⟨p0, p1, p2, p3, p4, p5⟩ := hp) | (have hb := bnext (bal (bal (bal hb _) _) _) hb'; have hp := ExO.next (ExO.alloc (ExO.alloc (ExO.alloc hp _) _) _) hb'; have ⟨p0, p1, p2, p3, p4, p5⟩ := hp)))
  go_ret
  first | exact ⟨rfl, hb⟩ | exact ⟨rfl, (bal hb _)⟩ | exact ⟨rfl, (bal (bal hb _) _)⟩ | exact ⟨rfl, (bal (bal (bal hb _) _) _)⟩ | exact ⟨rfl, (bal (bal (bal (bal hb _) _) _) _)⟩ | exact ⟨rfl, (bal (bal (bal (bal (bal hb _) _) _) _) _)⟩

theorem given_any (x : Sb) (p q b : Int) (w : World) (h : exB x p) (q0 : 0 ≤ q) (q1 : q ≤ 100000) (b0 : 0 ≤ b) (b1 : b ≤ 18000) :
    Calls Try.prog 81 #[.agg #[.string x.id, .int .i64 x.nd, .int .i64 x.tr, .int .i64 x.su, .int .i64 x.re, .int .i64 p], .int .i64 q, .int .i64 b] w fun e w' => e = .returned (.int .i64 (givI p q b)) ∧ Below w.heap.size w w' := by
  obtain ⟨ht, hs, hr, hp0⟩ := h
  unfold givI
  have hp := ExO.new w x p 60
  have ⟨p0, p1, p2, p3, p4, p5⟩ := hp
  have hb : Below w.heap.size w (w.alloc (.cells #[.string x.id, .int .i64 x.nd, .int .i64 x.tr, .int .i64 x.su, .int .i64 x.re, .int .i64 p] 60)) := bal (Below.refl _ _) _
  go_enter Try.func81, Try.ntmps81
  go_wp2_with ((go_at_call 96; refine (wattsOf_any _ _ _ (by omega) (by omega) (by omega) (by omega)).mono ?_; rintro e w' ⟨rfl, hd'⟩; have hb' := Drawn.below hd'; first | (have hb := bnext hb hb'; have hp := ExO.next hp hb'; have ⟨p0, p1, p2, p3, p4, p5⟩ := hp) | (have hb := bnext (bal hb _) hb'; have hp := ExO.next (ExO.alloc hp _) hb'; have ⟨p0, p1, p2, p3, p4, p5⟩ := hp) | (have hb := bnext (bal (bal hb _) _) hb'; have hp := ExO.next (ExO.alloc (ExO.alloc hp _) _) hb'; have ⟨p0, p1, p2, p3, p4, p5⟩ := hp) | (have hb := bnext (bal (bal (bal hb _) _) _) hb'; have hp := ExO.next (ExO.alloc (ExO.alloc (ExO.alloc hp _) _) _) hb'; have ⟨p0, p1, p2, p3, p4, p5⟩ := hp)))
  go_ret
  first | exact ⟨rfl, hb⟩ | exact ⟨rfl, (bal hb _)⟩ | exact ⟨rfl, (bal (bal hb _) _)⟩ | exact ⟨rfl, (bal (bal (bal hb _) _) _)⟩ | exact ⟨rfl, (bal (bal (bal (bal hb _) _) _) _)⟩ | exact ⟨rfl, (bal (bal (bal (bal (bal hb _) _) _) _) _)⟩

theorem carried_any (x : Sb) (p b : Int) (w : World) (h : exB x p) (b0 : 0 ≤ b) (b1 : b ≤ 18000) :
    Calls Try.prog 80 #[.agg #[.string x.id, .int .i64 x.nd, .int .i64 x.tr, .int .i64 x.su, .int .i64 x.re, .int .i64 p], .int .i64 b] w fun e w' => e = .returned (.int .i64 (carI x.tr x.su x.re p b)) ∧ Below w.heap.size w w' := by
  have HM := Lib.hid (fun W => meanDifference_any x p b W h b0 b1)
  obtain ⟨ht, hs, hr, hp0⟩ := h
  have hm := mean_bd x.su x.re p b (by omega) (by omega)
  have hn := carnum_bd x.tr _ ht.1 ht.2 hm.1 hm.2
  unfold carI
  generalize meanI x.su x.re p b = m at *
  have hN : ∀ W, Calls Try.prog 88 #[.int .i64 (IntKind.i64.wrap (x.tr * m)), .int .i64 100] W fun e w' => e = .returned (.int .i64 (nearI (x.tr * m) 100)) ∧ Drawn W w' := fun W => by
    rw [IntWalk.i64_in _ (by omega)]
    exact nearest_any _ _ _ (by omega) (by omega) (by omega) (by omega) (by omega)
  have HN := Lib.hid hN
  clear hN
  have hp := ExO.new w x p 60
  have ⟨p0, p1, p2, p3, p4, p5⟩ := hp
  have hb : Below w.heap.size w (w.alloc (.cells #[.string x.id, .int .i64 x.nd, .int .i64 x.tr, .int .i64 x.su, .int .i64 x.re, .int .i64 p] 60)) := bal (Below.refl _ _) _
  go_enter Try.func80, Try.ntmps80
  go_wp2_with fail
  go_region_held3 (fun w' => w'.cell? ⟨w.heap.size, 0, none⟩ = some (.string x.id) ∧ w'.cell? ⟨w.heap.size, 1, none⟩ = some (.int .i64 x.nd) ∧ w'.cell? ⟨w.heap.size, 2, none⟩ = some (.int .i64 x.tr) ∧ w'.cell? ⟨w.heap.size, 3, none⟩ = some (.int .i64 x.su) ∧ w'.cell? ⟨w.heap.size, 4, none⟩ = some (.int .i64 x.re) ∧ w'.cell? ⟨w.heap.size, 5, none⟩ = some (.int .i64 p) ∧ Below w.heap.size w w')
    (first | assumption | exact ⟨p0, p1, p2, p3, p4, p5, below_drewN hb 1⟩ | (go_split_ands; have hq := ExO.next (x := x) (p := p) ⟨by assumption, by assumption, by assumption, by assumption, by assumption, by assumption⟩ hb'; exact ⟨hq.1, hq.2.1, hq.2.2.1, hq.2.2.2.1, hq.2.2.2.2.1, hq.2.2.2.2.2, bnext (by assumption) hb'⟩))
    (first | (go_at_call 63; refine (HM.out _).mono ?_; rintro e w' ⟨rfl, hb'⟩) | (go_at_call 88; refine (HN.out _).mono ?_; rintro e w' ⟨rfl, hd'⟩; have hb' := Drawn.below hd'))
  all_goals go_wp2
  all_goals go_ret
  all_goals (go_split_ands; exact ⟨rfl, by assumption⟩)


theorem lowI_min (a b : Int) : lowI a b = min a b := by unfold lowI; omega
theorem topI_max (a b : Int) : topI a b = max a b := by unfold topI; omega
theorem lesser_any (x : Sb) (p q b : Int) (w : World) (h : exB x p) (q0 : 0 ≤ q) (q1 : q ≤ 100000) (b0 : 0 ≤ b) (b1 : b ≤ 18000) :
    Calls Try.prog 82 #[.agg #[.string x.id, .int .i64 x.nd, .int .i64 x.tr, .int .i64 x.su, .int .i64 x.re, .int .i64 p], .int .i64 q, .int .i64 b] w fun e w' => e = .returned (.int .i64 (min (givI p q b) (carI x.tr x.su x.re p b))) ∧ Below w.heap.size w w' := by
  have HG := Lib.hid (fun W => given_any x p q b W h q0 q1 b0 b1)
  have HC := Lib.hid (fun W => carried_any x p b W h b0 b1)
  generalize givI p q b = g at *
  generalize carI x.tr x.su x.re p b = c at *
  have hp := ExO.new w x p 60
  have ⟨p0, p1, p2, p3, p4, p5⟩ := hp
  have hb : Below w.heap.size w (w.alloc (.cells #[.string x.id, .int .i64 x.nd, .int .i64 x.tr, .int .i64 x.su, .int .i64 x.re, .int .i64 p] 60)) := bal (Below.refl _ _) _
  go_enter Try.func82, Try.ntmps82
  go_wp2_with fail
  go_region_held3 (fun w' => w'.cell? ⟨w.heap.size, 0, none⟩ = some (.string x.id) ∧ w'.cell? ⟨w.heap.size, 1, none⟩ = some (.int .i64 x.nd) ∧ w'.cell? ⟨w.heap.size, 2, none⟩ = some (.int .i64 x.tr) ∧ w'.cell? ⟨w.heap.size, 3, none⟩ = some (.int .i64 x.su) ∧ w'.cell? ⟨w.heap.size, 4, none⟩ = some (.int .i64 x.re) ∧ w'.cell? ⟨w.heap.size, 5, none⟩ = some (.int .i64 p) ∧ Below w.heap.size w w')
    (first | assumption | exact ⟨p0, p1, p2, p3, p4, p5, below_drewN hb 1⟩ | (go_split_ands; have hq := ExO.next (x := x) (p := p) ⟨by assumption, by assumption, by assumption, by assumption, by assumption, by assumption⟩ hb'; exact ⟨hq.1, hq.2.1, hq.2.2.1, hq.2.2.2.1, hq.2.2.2.2.1, hq.2.2.2.2.2, bnext (by assumption) hb'⟩))
    (first | (go_at_call 81; refine (HG.out _).mono ?_; rintro e w' ⟨rfl, hb'⟩) | (go_at_call 80; refine (HC.out _).mono ?_; rintro e w' ⟨rfl, hb'⟩))
  all_goals go_wp2
  all_goals go_ret
  all_goals (go_split_ands; exact ⟨rfl, by assumption⟩)

end Go.Proofs.Ytdaedgdglammhab
