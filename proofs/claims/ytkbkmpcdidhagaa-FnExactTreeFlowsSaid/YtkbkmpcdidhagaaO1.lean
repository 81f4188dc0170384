/-
  The exits of a node of a grid.
-/
import Derived.Test.YtkbkmpcdidhagaaJ2
namespace Go.Proofs.Ytkbkmpcdidhagaa
open Go.ChangeShapes Go.WideShapes Go.ChangeAt Go.RowKit
set_option maxRecDepth 100000
set_option linter.unusedVariables false

/-- exits as cells, two each -/
def rowsE (l : List (Int × Int)) : List Value := l.flatMap fun e => [.int .i64 e.1, .int .i64 e.2]
theorem rowsE_nil : rowsE [] = [] := rfl
theorem rowsE_cons (e : Int × Int) (l : List (Int × Int)) : rowsE (e :: l) = .int .i64 e.1 :: .int .i64 e.2 :: rowsE l := rfl
theorem rowsE_length (l : List (Int × Int)) : (rowsE l).length = l.length * 2 := by
  induction l with
  | nil => rfl
  | cons e r ih => rw [rowsE_cons, List.length_cons, List.length_cons, ih, List.length_cons]; omega
theorem rowsE_snoc (l : List (Int × Int)) (e : Int × Int) : rowsE (l ++ [e]) = rowsE l ++ [.int .i64 e.1, .int .i64 e.2] := by
  unfold rowsE; rw [List.flatMap_append]; rfl
theorem rowsE_at (l : List (Int × Int)) : ∀ (k : Nat) (e : Int × Int), l[k]? = some e → (rowsE l)[k * 2]? = some (.int .i64 e.1) ∧ (rowsE l)[k * 2 + 1]? = some (.int .i64 e.2) := by
  induction l with
  | nil => intro k e h; simp at h
  | cons a r ih =>
    intro k e h
    rw [rowsE_cons]
    cases k with
    | zero =>
      obtain rfl : a = e := by simpa using h
      exact ⟨rfl, rfl⟩
    | succ k =>
      have := ih k e (by simpa using h)
      rw [show (k + 1) * 2 = k * 2 + 1 + 1 by omega, show k * 2 + 1 + 1 + 1 = k * 2 + 1 + 1 + 1 by omega]
      simpa using this
/-- the open pipes at a node among the first k: the number that a walk has for each, and the node to which it leads -/
def exitsTo (cl : Nat → Bool) (ps : List Pp) (node : Int) : Nat → List (Int × Int)
  | 0 => []
  | k + 1 => match ps[k]? with
    | some p => if cl k then exitsTo cl ps node k else if p.f = node then exitsTo cl ps node k ++ [((k : Int) + 1, p.t)] else if p.t = node then exitsTo cl ps node k ++ [(-((k : Int) + 1), p.f)] else exitsTo cl ps node k
    | none => exitsTo cl ps node k
theorem exitsTo_at {cl : Nat → Bool} {ps : List Pp} {node : Int} {k : Nat} {p : Pp} (h : ps[k]? = some p) : exitsTo cl ps node (k + 1) = if cl k then exitsTo cl ps node k else if p.f = node then exitsTo cl ps node k ++ [((k : Int) + 1, p.t)] else if p.t = node then exitsTo cl ps node k ++ [(-((k : Int) + 1), p.f)] else exitsTo cl ps node k := by
  show (match ps[k]? with | some p => _ | none => _) = _
  rw [h]
theorem exitsTo_short (cl : Nat → Bool) (ps : List Pp) (node : Int) (k : Nat) : (exitsTo cl ps node k).length ≤ k := by
  induction k with
  | zero => exact Nat.le_refl _
  | succ k ih =>
    unfold exitsTo
    split
    · split
      · omega
      · split
        · rw [List.length_append, List.length_singleton]; omega
        · split
          · rw [List.length_append, List.length_singleton]; omega
          · omega
    · omega
/-- a call that returns a new slice of exits -/
def RetExits (l : List (Int × Int)) (w : World) (e : Ending) (w' : World) : Prop :=
  ∃ A c, e = .returned (.slice A l.length c) ∧ w'.ownsRow w.heap.size 154 2 (.slice A l.length c) l.length (rowsE l) ∧ Below w.heap.size w w'
theorem infoExit : (Try.prog.info? 154).map (fun i => (i.zero, i.size, i.bytes)) = some (some (.agg #[.int .i64 0, .int .i64 0]), 2, 16) := by kernel_rfl
theorem owns_form2 {w : World} {base : Nat} {E : TypeId} {s : Nat} {v : Value} {n : Nat} {vs : List Value} (h : w.ownsRow base E s v n vs) : ∃ A c, v = .slice A n c := by
  rcases h.2 with ⟨rfl, rfl⟩ | ⟨g, cap, cur, hv, _⟩
  · exact ⟨none, 0, rfl⟩
  · exact ⟨_, _, hv⟩

set_option maxHeartbeats 1000000 in
theorem exits_any (A : Option Addr) (n c : Nat) (B : Option Addr) (m d : Nat) (gb : Nat) (ps : List Pp) (cl : Nat → Bool) (node : Int) (w : World) (hl : ps.length = m) (hm : m ≤ 20) (hg : GridAt w gb A n c B m d cl) (hB : CellsAt w B (rowsP ps)) :
    Calls Try.prog 156 #[.pointer (some ⟨gb, 0, none⟩), .int .i64 node] w (RetExits (exitsTo cl ps node m) w) := by
  subst hl
  obtain ⟨i0, hi, hz0, hz1, hz2⟩ := info_parts infoExit
  have hgl : gb < w.heap.size := hg.1.lies
  have ⟨n0, n1⟩ := hg.1
  have HG := Lib.hid hg
  have HB := Lib.hid hB
  clear hg hB
  go_enter Try.func156, Try.ntmps156
  go_wp2
  go_loopw [5, 15] (fun v i wr => ∃ (k : Nat) (T : Option Addr) (L td : Nat), k ≤ ps.length ∧ i = .int .i64 k ∧ v = .slice T L td ∧ wr.ownsRow w.heap.size 154 2 (.slice T L td) L (rowsE (exitsTo cl ps node k)) ∧ Below w.heap.size w wr) (fun _ i _ => ps.length - (intOf i).toNat)
  case atStart => exact ⟨0, none, 0, 0, Nat.zero_le _, rfl, rfl, World.ownsRow_nil _ _ _ _, Below.refl _ _⟩
  case round =>
    clear n0 n1
    obtain ⟨k, T, L, td, hk, rfl, rfl, hro, hb⟩ := hrel
    by_cases hlt : k < ps.length
    · obtain ⟨b, off, rfl, hrow⟩ := pipe_at (HB.out.next hb) (by omega)
      have hp := List.getElem?_eq_getElem hlt
      have P := hrow k _ hp
      have hst := exitsTo_at (cl := cl) (node := node) hp
      generalize ps[k] = p at *
      have ⟨p0, p1, p2, p3, p4, p5⟩ := P
      have hG := (HG.out.next hb).next (bal (Below.refl _ _) (.cells #[.string p.id, .int .i64 p.f, .int .i64 p.t, .int .i64 p.L, .int .i64 p.d, .int .i64 p.s] 71))
      obtain ⟨hc1, _⟩ := hG.2 k (by omega)
      have hk20 : (k : Int) < 20 := by omega
      have hro1 := hro.alloc (.cells #[.string p.id, .int .i64 p.f, .int .i64 p.t, .int .i64 p.L, .int .i64 p.d, .int .i64 p.s] 71)
      have hb1 := bal hb (.cells #[.string p.id, .int .i64 p.f, .int .i64 p.t, .int .i64 p.L, .int .i64 p.d, .int .i64 p.s] 71)
      have hL : L ≤ 20 := by
        have h1 := hro.1
        rw [rowsE_length] at h1
        have := exitsTo_short cl ps node k
        omega
      have HR1 := Lib.hid hro1
      have HB1 := Lib.hid hb1
      have HST := Lib.hid hst
      clear hp hrow P hG hro1 hb1 hro hst
      by_cases hcl : cl k = true
      · have HN := Lib.hid (HST.out.trans (if_pos hcl))
        rw [hcl] at hc1
        clear hcl
        go_wp2
        go_roundw
        case rel => exact ⟨k + 1, T, L, td, by omega, by go_num, rfl, by rw [HN.out]; exact HR1.out, HB1.out⟩
        case measure => simp [intOf]; omega
      · have hcl' : cl k = false := by simpa using hcl
        have h1 := HST.out.trans (if_neg hcl)
        rw [hcl'] at hc1
        clear hcl hcl'
        by_cases hf : p.f = node
        · have HN := Lib.hid (h1.trans (if_pos hf))
          have hf1 : (p.f == node) = true := by simpa using hf
          clear h1 hf
          go_wp2_with (at_builtin; refine wpList_append_own _ rfl _ _ 186 rfl w.heap.size 154 i0 (.agg #[.int .i64 0, .int .i64 0]) 2 16 Try.underlying186 hi hz0 hz1 hz2 rfl (by decide) _ _ _ rfl (HR1.out.alloc _) ⟨wr.heap.size + 1, 0, none⟩ 1 1 [.int .i64 ((k : Int) + 1), .int .i64 p.t] rfl rfl ?_ (by simp [Value.oneCell']) ?_ ?_ ?_ ?_; (have := cell_two_new (wr.alloc (.cells #[.string p.id, .int .i64 p.f, .int .i64 p.t, .int .i64 p.L, .int .i64 p.d, .int .i64 p.s] 71)) (.int .i64 ((k : Int) + 1)) (.int .i64 p.t) 154; rw [World.size_alloc] at this; exact this); (unfold maxLen; omega); (omega); (have := hb.size; simp; omega); intro v4 w4 hown4 hgrow4 _)
          obtain ⟨T4, d4, rfl⟩ := owns_form2 hown4
          go_roundw
          case rel => exact ⟨k + 1, T4, L + 1, d4, by omega, by go_num, rfl, by rw [HN.out, rowsE_snoc]; exact hown4, (bal HB1.out _).grown hgrow4 (by have := hb.size; simp; omega) (fun q hq => (HR1.out.lt q hq).1)⟩
          case measure => simp [intOf]; omega
        · have h2 := h1.trans (if_neg hf)
          have hf1 : (p.f == node) = false := by simpa using hf
          clear h1 hf
          by_cases ht : p.t = node
          · have HN := Lib.hid (h2.trans (if_pos ht))
            have ht1 : (p.t == node) = true := by simpa using ht
            clear h2 ht
            go_wp2_with (at_builtin; refine wpList_append_own _ rfl _ _ 186 rfl w.heap.size 154 i0 (.agg #[.int .i64 0, .int .i64 0]) 2 16 Try.underlying186 hi hz0 hz1 hz2 rfl (by decide) _ _ _ rfl (HR1.out.alloc _) ⟨wr.heap.size + 1, 0, none⟩ 1 1 [.int .i64 (-((k : Int) + 1)), .int .i64 p.f] rfl rfl ?_ (by simp [Value.oneCell']) ?_ ?_ ?_ ?_; (have := cell_two_new (wr.alloc (.cells #[.string p.id, .int .i64 p.f, .int .i64 p.t, .int .i64 p.L, .int .i64 p.d, .int .i64 p.s] 71)) (.int .i64 (-((k : Int) + 1))) (.int .i64 p.f) 154; rw [World.size_alloc] at this; exact this); (unfold maxLen; omega); (omega); (have := hb.size; simp; omega); intro v4 w4 hown4 hgrow4 _)
            obtain ⟨T4, d4, rfl⟩ := owns_form2 hown4
            go_roundw
            case rel => exact ⟨k + 1, T4, L + 1, d4, by omega, by go_num, rfl, by rw [HN.out, rowsE_snoc]; exact hown4, (bal HB1.out _).grown hgrow4 (by have := hb.size; simp; omega) (fun q hq => (HR1.out.lt q hq).1)⟩
            case measure => simp [intOf]; omega
          · have HN := Lib.hid (h2.trans (if_neg ht))
            have ht1 : (p.t == node) = false := by simpa using ht
            clear h2 ht
            go_wp2
            go_roundw
            case rel => exact ⟨k + 1, T, L, td, by omega, by go_num, rfl, by rw [HN.out]; exact HR1.out, HB1.out⟩
            case measure => simp [intOf]; omega
    · obtain rfl : k = ps.length := by omega
      go_wp2
      go_ret
      have h1 := hro.1
      rw [rowsE_length] at h1
      obtain rfl : L = (exitsTo cl ps node ps.length).length := by omega
      exact ⟨T, td, rfl, hro, hb⟩

end Go.Proofs.Ytkbkmpcdidhagaa
