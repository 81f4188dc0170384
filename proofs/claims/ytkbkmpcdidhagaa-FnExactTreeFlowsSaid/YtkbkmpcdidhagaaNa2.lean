/-
  BalanceAt on both sides.
-/
import Derived.Test.YtkbkmpcdidhagaaNa1
namespace Go.Proofs.Ytkbkmpcdidhagaa
open Go.ChangeShapes Go.WideShapes Go.ChangeAt Go.RowKit
set_option maxRecDepth 100000
set_option linter.unusedVariables false

def balB (z : List Int) (ps : List Pp) (q : List Int) (node : Int) : Bool := netB z ps && (inB node 0 ((z.length : Int) - 1) && flB (-100000) 100000 ps.length q)
def balV (z : List Int) (ps : List Pp) (q : List Int) (node : Int) : Int := if balB z ps q node then balTo ps q node ps.length else 0
def balC (z : List Int) (ps : List Pp) (q : List Int) (node : Int) : Int := if netB z ps then (if inB node 0 ((z.length : Int) - 1) then (if flB (-100000) 100000 ps.length q then 0 else 7) else 2) else 1
theorem flB_parts {lo hi : Int} {m : Nat} {q : List Int} (h : flB lo hi m q = true) : q.length = m ∧ allIn lo hi q = true := by
  unfold flB at h
  rw [Bool.and_eq_true] at h
  exact ⟨of_decide_eq_true h.1, h.2⟩

theorem exits_in {ps : List Pp} {node : Int} : ∀ (k : Nat), k ≤ ps.length → ∀ e ∈ exitsTo (closedBy []) ps node k, e.1 ≠ 0 ∧ absI e.1 ≤ ps.length
  | 0, _ => fun e he => by cases he
  | k + 1, hk => fun e he => by
    have hp : ps[k]? = some (ps[k]'(by omega)) := List.getElem?_eq_getElem (by omega)
    rw [exitsTo_at hp, if_neg (by simp [closedBy])] at he
    have ih := exits_in (ps := ps) (node := node) k (by omega) e
    split at he
    · rw [List.mem_append, List.mem_singleton] at he
      rcases he with he | rfl
      · exact ih he
      · refine ⟨by simp; omega, ?_⟩
        unfold absI; split <;> simp <;> omega
    · split at he
      · rw [List.mem_append, List.mem_singleton] at he
        rcases he with he | rfl
        · exact ih he
        · refine ⟨by simp; omega, ?_⟩
          unfold absI; split <;> simp <;> omega
      · exact ih he
theorem cellNext {w w' : World} {b o : Nat} {v : Value} (h : w.cell? ⟨b, o, none⟩ = some v) (hb : Below w.heap.size w w') : w'.cell? ⟨b, o, none⟩ = some v :=
  (hb.cell (p := ⟨b, o, none⟩) (World.block_lt_of_cell? _ _ h)).trans h
end Go.Proofs.Ytkbkmpcdidhagaa
