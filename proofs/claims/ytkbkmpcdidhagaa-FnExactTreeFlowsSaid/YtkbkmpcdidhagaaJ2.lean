/-
  A grid: made of a network, its open pipes joined.
-/
import Derived.Test.YtkbkmpcdidhagaaJ1
namespace Go.Proofs.Ytkbkmpcdidhagaa
open Go.ChangeShapes Go.WideShapes Go.ChangeAt Go.RowKit
set_option maxRecDepth 100000
set_option linter.unusedVariables false

/-- a grid in memory: a network, and which of twenty pipes are closed -/
def GridAt (w : World) (b : Nat) (A : Option Addr) (n c : Nat) (B : Option Addr) (m d : Nat) (cl : Nat → Bool) : Prop :=
  NetAt w b A n c B m d ∧ ∀ j, j < 20 → w.cell? ⟨b, 2 + j, none⟩ = some (.bool (cl j)) ∧ w.frozen? ⟨b, 2 + j, none⟩ = false
theorem GridAt.keep {w w' : World} {b : Nat} {A : Option Addr} {n c : Nat} {B : Option Addr} {m d : Nat} {cl : Nat → Bool} (h : GridAt w b A n c B m d cl) (k : w'.heap[b]? = w.heap[b]?) : GridAt w' b A n c B m d cl :=
  ⟨h.1.keep k, fun j hj => ⟨(World.cell?_of_block (a := ⟨b, 2 + j, none⟩) k).trans (h.2 j hj).1, (World.frozen?_of_block (a := ⟨b, 2 + j, none⟩) k).trans (h.2 j hj).2⟩⟩
theorem GridAt.next {w w' : World} {b : Nat} {A : Option Addr} {n c : Nat} {B : Option Addr} {m d : Nat} {cl : Nat → Bool} (h : GridAt w b A n c B m d cl) (hb : Below w.heap.size w w') : GridAt w' b A n c B m d cl :=
  h.keep (hb.block _ h.1.lies)
theorem false20 (a b : Value) : ∀ j, j < 20 → (#[a, b, .bool false, .bool false, .bool false, .bool false, .bool false, .bool false, .bool false, .bool false, .bool false, .bool false, .bool false, .bool false, .bool false, .bool false, .bool false, .bool false, .bool false, .bool false, .bool false, .bool false] : Array Value)[2 + j]? = some (.bool false)
  | 0, _ => rfl
  | 1, _ => rfl
  | 2, _ => rfl
  | 3, _ => rfl
  | 4, _ => rfl
  | 5, _ => rfl
  | 6, _ => rfl
  | 7, _ => rfl
  | 8, _ => rfl
  | 9, _ => rfl
  | 10, _ => rfl
  | 11, _ => rfl
  | 12, _ => rfl
  | 13, _ => rfl
  | 14, _ => rfl
  | 15, _ => rfl
  | 16, _ => rfl
  | 17, _ => rfl
  | 18, _ => rfl
  | 19, _ => rfl
  | k + 20, h => absurd h (by omega)
theorem GridAt.new (w : World) (A : Option Addr) (n c : Nat) (B : Option Addr) (m d : Nat) (T : TypeId) (b : Nat) (hb : b = w.heap.size) : GridAt (w.alloc (.cells #[.slice A n c, .slice B m d, .bool false, .bool false, .bool false, .bool false, .bool false, .bool false, .bool false, .bool false, .bool false, .bool false, .bool false, .bool false, .bool false, .bool false, .bool false, .bool false, .bool false, .bool false, .bool false, .bool false] T)) b A n c B m d (fun _ => false) := by
  subst hb
  have hh := heap_alloc_new w (.cells #[.slice A n c, .slice B m d, .bool false, .bool false, .bool false, .bool false, .bool false, .bool false, .bool false, .bool false, .bool false, .bool false, .bool false, .bool false, .bool false, .bool false, .bool false, .bool false, .bool false, .bool false, .bool false, .bool false] T)
  have hc := fun j => cell_of_row _ w.heap.size j _ _ _ hh
  refine ⟨⟨(hc 0).trans rfl, (hc 1).trans rfl⟩, fun j hj => ⟨(hc (2 + j)).trans (false20 _ _ j hj), frozen_new9 _ _ _ _⟩⟩
/-- which pipes a list closes -/
def closedBy (cs : List Int) (k : Nat) : Bool := cs.any fun c => c == (k : Int)
theorem GridAt.close {w : World} {b : Nat} {A : Option Addr} {n c : Nat} {B : Option Addr} {m d : Nat} {cl : Nat → Bool} (h : GridAt w b A n c B m d cl) (k : Nat) (hk : k < 20) (v : Bool) (cl' : Nat → Bool) (hcl : ∀ j, cl' j = if j = k then v else cl j) : GridAt (w.setCell ⟨b, 2 + k, none⟩ (.bool v)) b A n c B m d cl' := by
  refine ⟨⟨cell_set_other h.1.1 (.inr (by omega)), cell_set_other h.1.2 (.inr (by omega))⟩, fun j hj => ⟨?_, by rw [World.frozen?_setCell]; exact (h.2 j hj).2⟩⟩
  rw [hcl]
  by_cases e : j = k
  · subst e
    rw [if_pos rfl]
    exact World.cell?_setCell_same _ _ _ (h.2 j hj).1
  · rw [if_neg e]
    exact cell_set_other (h.2 j hj).1 (.inr (by omega))
theorem newGrid_any (A : Option Addr) (n c : Nat) (B : Option Addr) (m d : Nat) (K : Option Addr) (kc : Nat) (cs : List Int) (w : World) (hk : cs.length ≤ 1048576) (hK : CellsAt w K (intsV cs)) (hc : ∀ x ∈ cs, 0 ≤ x ∧ x < 20) :
    Calls Try.prog 102 #[.agg #[.slice A n c, .slice B m d], .slice K cs.length kc] w fun e w' => ∃ b, e = .returned (.pointer (some ⟨b, 0, none⟩)) ∧ w.heap.size ≤ b ∧ GridAt w' b A n c B m d (closedBy cs) ∧ Below w.heap.size w w' := by
  let W1 := w.alloc (.cells #[.slice A n c, .slice B m d] 31)
  have s1 : W1.heap.size = w.heap.size + 1 := by simp [W1]
  have hG := GridAt.new W1 A n c B m d 172 (w.heap.size + 1) s1.symm
  have hb := bal (bal (Below.refl w.heap.size w) (.cells #[.slice A n c, .slice B m d] 31)) (.cells #[.slice A n c, .slice B m d, .bool false, .bool false, .bool false, .bool false, .bool false, .bool false, .bool false, .bool false, .bool false, .bool false, .bool false, .bool false, .bool false, .bool false, .bool false, .bool false, .bool false, .bool false, .bool false, .bool false] 172)
  have HK := Lib.hid hK
  have HC := Lib.hid hc
  have hm : cs.length ≤ 9223372036854775807 := by omega
  have hG := Lib.hid hG
  have hb := Lib.hid hb
  clear hK hc s1
  go_enter Try.func102, Try.ntmps102
  go_wp2
  go_loopw [13] (fun i wr => ∃ k : Nat, k ≤ cs.length ∧ i = .int .i64 k ∧ GridAt wr (w.heap.size + 1) A n c B m d (closedBy (cs.take k)) ∧ Below w.heap.size w wr) (fun i _ => cs.length - (intOf i).toNat)
  case atStart => exact ⟨0, Nat.zero_le _, rfl, hG.out, hb.out⟩
  case round =>
    clear hG hb
    obtain ⟨k, hk', rfl, hg, hb⟩ := hrel
    by_cases hlt : k < cs.length
    · obtain ⟨b1, o1, rfl, h1⟩ := HK.out (by rw [intsV_length]; omega)
      have g1 : wr.cell? ⟨b1, o1 + k, none⟩ = some (.int .i64 cs[k]) := by
        rw [hb.cell (p := ⟨b1, o1 + k, none⟩) (CellsAt.lies HK.out (by rw [intsV_length]; omega)), h1 k (by rw [intsV_length]; exact hlt), intsV_at _ _ hlt]
      have hx := HC.out _ (List.getElem_mem hlt)
      obtain ⟨x, hxe⟩ := Int.eq_ofNat_of_zero_le hx.1
      rw [hxe] at g1
      have hx20 : x < 20 := by omega
      have hx20' : (x : Int) < 20 := by omega
      have hcl : ∀ j, closedBy (cs.take (k + 1)) j = if j = x then true else closedBy (cs.take k) j := fun j => by
        unfold closedBy
        rw [List.take_succ_eq_append_getElem hlt, List.any_append, hxe]
        by_cases e : j = x
        · subst e; simp
        · rw [if_neg e]
          have : ((x : Int) == (j : Int)) = false := by simp; omega
          simp [this]
      have hg2 := hg.close x hx20 true _ hcl
      obtain ⟨q1, q2⟩ := hg.2 x hx20
      have HG := Lib.hid hg2
      clear hg hg2 hcl hxe hx h1
      go_wp2
      go_roundw
      case rel => exact ⟨k + 1, by omega, by go_num, HG.out, hb.setCell (by simp) _⟩
      case measure => simp [intOf]; omega
    · rw [List.take_of_length_le (by omega)] at hg
      have HG := Lib.hid hg
      clear hg
      go_wp2
      go_ret
      exact ⟨w.heap.size + 1, rfl, by omega, HG.out, hb⟩

end Go.Proofs.Ytkbkmpcdidhagaa
