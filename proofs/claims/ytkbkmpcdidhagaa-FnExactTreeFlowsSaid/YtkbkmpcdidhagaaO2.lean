/-
  PipesAt of both sides.
-/
import Derived.Test.YtkbkmpcdidhagaaO1
import Derived.Test.YtkbkmpcdidhagaaH8
import Derived.Deep.RegionHeld3
namespace Go.Proofs.Ytkbkmpcdidhagaa
open Go.ChangeShapes Go.WideShapes Go.ChangeAt Go.RowKit
set_option maxRecDepth 100000
set_option linter.unusedVariables false

theorem code_any (A B : Option Addr) (c d : Nat) (z : List Int) (ps : List Pp) (r : Bool) (w : World) (h : NetCells w A z B ps) (hn : z.length ≤ 1048576) (hm : ps.length ≤ 1048576) (hid : ∀ p ∈ ps, p.id.size ≤ maxLen) :
    Calls Try.prog 77 #[.agg #[.slice A z.length c, .slice B ps.length d], .bool r] w fun e w' => e = .returned (.int .i64 (argC (netB z ps) r)) ∧ Below w.heap.size w w' := by
  have hb : Below w.heap.size w (w.alloc (.cells #[.slice A z.length c, .slice B ps.length d] 31)) := bal (Below.refl _ _) _
  have HV := Lib.hid (implValidNet_any A z.length c B ps.length d z ps _ rfl rfl hn hm (h.next hb).1 (h.next hb).2 hid)
  clear h hid
  generalize netB z ps = v at *
  go_enter Try.func77, Try.ntmps77
  go_wp2_with fail
  refine HV.out.mono ?_
  rintro e w1 ⟨rfl, hb1⟩
  have hb := bnext hb hb1
  go_wp2_with fail
  refine (argumentCode_any v r _).mono ?_
  rintro e w2 ⟨rfl, rfl⟩
  go_wp2
  go_ret
  exact ⟨rfl, hb⟩

/-- the pipes at a node among the first k -/
def pipesAtTo (ps : List Pp) (node : Int) : Nat → List Int
  | 0 => []
  | k + 1 => match ps[k]? with
    | some p => if p.f = node ∨ p.t = node then pipesAtTo ps node k ++ [(k : Int)] else pipesAtTo ps node k
    | none => pipesAtTo ps node k
theorem pipesAtTo_at {ps : List Pp} {node : Int} {k : Nat} {p : Pp} (h : ps[k]? = some p) : pipesAtTo ps node (k + 1) = if p.f = node ∨ p.t = node then pipesAtTo ps node k ++ [(k : Int)] else pipesAtTo ps node k := by
  show (match ps[k]? with | some p => _ | none => _) = _
  rw [h]
theorem pipesAtTo_short (ps : List Pp) (node : Int) (k : Nat) : (pipesAtTo ps node k).length ≤ k := by
  induction k with
  | zero => exact Nat.le_refl _
  | succ k ih =>
    unfold pipesAtTo
    split
    · split
      · rw [List.length_append, List.length_singleton]; omega
      · omega
    · omega
/-- an exit's pipe -/
def pipeOf (e : Int × Int) : Int := absI e.1 - 1
theorem exits_pipes (ps : List Pp) (node : Int) (k : Nat) : (exitsTo (closedBy []) ps node k).map pipeOf = pipesAtTo ps node k := by
  induction k with
  | zero => rfl
  | succ k ih =>
    cases h : ps[k]? with
    | none =>
      have e1 : exitsTo (closedBy []) ps node (k + 1) = exitsTo (closedBy []) ps node k := by
        show (match ps[k]? with | some p => _ | none => _) = _
        rw [h]
      have e2 : pipesAtTo ps node (k + 1) = pipesAtTo ps node k := by
        show (match ps[k]? with | some p => _ | none => _) = _
        rw [h]
      rw [e1, e2, ih]
    | some p =>
      rw [exitsTo_at h, pipesAtTo_at h]
      rw [if_neg (show ¬ (closedBy [] k = true) from by unfold closedBy; simp)]
      have a1 : pipeOf ((k : Int) + 1, p.t) = k := by unfold pipeOf absI; rw [if_neg (by omega)]; show (k : Int) + 1 - 1 = _; omega
      have a2 : pipeOf (-((k : Int) + 1), p.f) = k := by unfold pipeOf absI; rw [if_pos (by show -((k : Int) + 1) < 0; omega)]; show - -((k : Int) + 1) - 1 = _; omega
      by_cases hf : p.f = node
      · rw [if_pos hf, if_pos (.inl hf), List.map_append, ih, List.map_singleton, a1]
      · rw [if_neg hf]
        by_cases ht : p.t = node
        · rw [if_pos ht, if_pos (.inr ht), List.map_append, ih, List.map_singleton, a2]
        · rw [if_neg ht, if_neg (by rintro (h | h); exact hf h; exact ht h), ih]
theorem exits_bd (cl : Nat → Bool) (ps : List Pp) (node : Int) (k : Nat) : ∀ e ∈ exitsTo cl ps node k, -(k : Int) ≤ e.1 ∧ e.1 ≤ k := by
  induction k with
  | zero => intro e he; cases he
  | succ k ih =>
    intro e he
    have hst : ∀ e ∈ exitsTo cl ps node k, -((k + 1 : Nat) : Int) ≤ e.1 ∧ e.1 ≤ ((k + 1 : Nat) : Int) := fun e he => by have := ih e he; omega
    unfold exitsTo at he
    split at he
    · split at he
      · exact hst e he
      · split at he
        · rcases List.mem_append.1 he with h | h
          · exact hst e h
          · rw [List.mem_singleton.1 h]; show _ ≤ (k : Int) + 1 ∧ (k : Int) + 1 ≤ _; omega
        · split at he
          · rcases List.mem_append.1 he with h | h
            · exact hst e h
            · rw [List.mem_singleton.1 h]; show _ ≤ -((k : Int) + 1) ∧ -((k : Int) + 1) ≤ _; omega
          · exact hst e he
    · exact hst e he
def pipesAtX (z : List Int) (ps : List Pp) (node : Int) : List Int := if netB z ps && inB node 0 ((z.length : Int) - 1) then pipesAtTo ps node ps.length else []
def pipesAtC (z : List Int) (ps : List Pp) (node : Int) : Int := argC (netB z ps) (inB node 0 ((z.length : Int) - 1))
theorem pipesAtX_short (z : List Int) (ps : List Pp) (node : Int) (hn : z.length ≤ 1048576) (hm : ps.length ≤ 1048576) : (pipesAtX z ps node).length ≤ 1048576 := by
  unfold pipesAtX
  split
  · exact Nat.le_trans (pipesAtTo_short _ _ _) hm
  · simp

theorem l04Node_any (bn : Nat) (A : Option Addr) (n c : Nat) (B : Option Addr) (m d : Nat) (node : Int) (w : World) (hN : NetAt w bn A n c B m d) (hn : n ≤ 1048576) :
    Calls Try.prog 100 #[.pointer (some ⟨bn, 0, none⟩), .int .i64 node] w fun e w' => e = .returned (.bool (inB node 0 ((n : Int) - 1))) ∧ w = w' := by
  obtain ⟨n0, n1⟩ := hN
  go_enter Try.func100, Try.ntmps100
  go_wp2_with fail
  refine (in_any node 0 ((n : Int) - 1) _).mono ?_
  rintro e w' ⟨rfl, rfl⟩
  go_wp2
  go_ret
  exact ⟨rfl, rfl⟩
end Go.Proofs.Ytkbkmpcdidhagaa
