/-
  Whether a pipe is a bridge: the program's, which opens the pipe again behind its answer.
-/
import Derived.Test.YtmopnkkpcgiafaaJ3
import Derived.Defers
import Derived.Deep.RegionHeld3
namespace Go.Proofs.Ytmopnkkpcgiafaa
open Go.ChangeShapes Go.WideShapes Go.ChangeAt Go.RowKit
set_option maxRecDepth 100000
set_option linter.unusedVariables false

theorem two_boxes (w : World) (x y : Value) (T U : TypeId) (N : Nat) (hN : w.heap.size = N) : ((w.alloc (.cells #[x] T)).alloc (.cells #[y] U)).cell? ⟨N, 0, none⟩ = some x ∧ ((w.alloc (.cells #[x] T)).alloc (.cells #[y] U)).cell? ⟨N + 1, 0, none⟩ = some y := by
  subst hN
  have s1 : (w.alloc (.cells #[x] T)).heap.size = w.heap.size + 1 := by simp
  have b2 : Below (w.alloc (.cells #[x] T)).heap.size (w.alloc (.cells #[x] T)) ((w.alloc (.cells #[x] T)).alloc (.cells #[y] U)) := bal (Below.refl _ _) _
  refine ⟨(b2.cell (p := ⟨w.heap.size, 0, none⟩) (by simp)).trans (by simp), ?_⟩
  rw [← s1]
  simp
theorem reopen_d (N gb k : Nat) (v : Value) (u : FrameMode) (w : World) (h0 : w.cell? ⟨N, 0, none⟩ = some (.pointer (some ⟨gb, 0, none⟩))) (h1 : w.cell? ⟨N + 1, 0, none⟩ = some (.int .i64 k)) (hc : w.cell? ⟨gb, 2 + k, none⟩ = some v) (hf : w.frozen? ⟨gb, 2 + k, none⟩ = false) (hk : (k : Int) < 20) (hg : gb < N) :
    CallsD Try.prog 109 #[.pointer (some ⟨N, 0, none⟩), .pointer (some ⟨N + 1, 0, none⟩)] u w fun e u' w' => u' = u ∧ (e = .returned (.tuple #[]) ∧ w' = (w.setCell ⟨gb, 2 + k, none⟩ (.bool false)).drew) := by
  have z0 : (w.setCell ⟨gb, 2 + k, none⟩ (.bool false)).cell? ⟨N, 0, none⟩ = some (.pointer (some ⟨gb, 0, none⟩)) := cell_set_other h0 (.inl (by omega))
  have z1 : (w.setCell ⟨gb, 2 + k, none⟩ (.bool false)).cell? ⟨N + 1, 0, none⟩ = some (.int .i64 k) := cell_set_other h1 (.inl (by omega))
  go_enter_d Try.func109, Try.ntmps109
  go_wp2_with fail
  go_region_held3 (fun w' => w'.cell? ⟨N, 0, none⟩ = some (.pointer (some ⟨gb, 0, none⟩)) ∧ w'.cell? ⟨N + 1, 0, none⟩ = some (.int .i64 k)) (first | exact ⟨h0, h1⟩ | exact ⟨z0, z1⟩) (fail)
  go_end0
  exact ⟨rfl, rfl⟩
theorem isBridge_any (A : Option Addr) (n c : Nat) (B : Option Addr) (m d : Nat) (gb : Nat) (ps : List Pp) (p : Pp) (k : Nat) (w : World) (hn0 : 0 < n) (hn : n ≤ 1048576) (hl : ps.length = m) (hm : m ≤ 20) (hk : ps[k]? = some p) (hg : GridAt w gb A n c B m d (closedBy [])) (hB : CellsAt w B (rowsP ps)) (hfit : ps.all (fitB n) = true) (hgB : ∀ b o, B = some ⟨b, o, none⟩ → b ≠ gb) :
    Calls Try.prog 87 #[.pointer (some ⟨gb, 0, none⟩), .int .i64 k] w fun e w' => e = .returned (.bool (getI (partsTo (closedBy [(k : Int)]) n ps m) p.f != getI (partsTo (closedBy [(k : Int)]) n ps m) p.t)) ∧ GridAt w' gb A n c B m d (closedBy []) ∧ w.grownBy w' (some gb) := by
  subst hl
  have hkl : k < ps.length := (List.getElem?_eq_some_iff.1 hk).1
  have hk20 : (k : Int) < 20 := by omega
  have hgl := hg.1.lies
  let W1 := w.alloc (.cells #[.pointer (some ⟨gb, 0, none⟩)] 85)
  let W2 := W1.alloc (.cells #[.int .i64 k] 3)
  have s1 : W1.heap.size = w.heap.size + 1 := by simp [W1]
  have b2 : Below W1.heap.size W1 W2 := bal (Below.refl _ _) _
  have hb : Below w.heap.size w W2 := bal (bal (Below.refl _ _) _) _
  have q0 : W2.cell? ⟨w.heap.size, 0, none⟩ = some (.pointer (some ⟨gb, 0, none⟩)) := (b2.cell (p := ⟨w.heap.size, 0, none⟩) (by simp [W1])).trans (by simp [W1])
  have q1 : W2.cell? ⟨w.heap.size + 1, 0, none⟩ = some (.int .i64 k) := by rw [← s1]; simp [W2]
  have hG2 := hg.next hb
  have hcl : ∀ j, closedBy [(k : Int)] j = if j = k then true else closedBy [] j := fun j => by
    unfold closedBy
    by_cases e : j = k
    · subst e; simp
    · rw [if_neg e]; simp; omega
  have hG3 := hG2.close k (by omega) true _ hcl
  have hc1 : ((w.alloc (.cells #[.pointer (some ⟨gb, 0, none⟩)] 85)).alloc (.cells #[.int .i64 k] 3)).cell? ⟨gb, 2 + k, none⟩ = some (.bool (closedBy [] k)) := (hG2.2 k (by omega)).1
  have hf1 : ((w.alloc (.cells #[.pointer (some ⟨gb, 0, none⟩)] 85)).alloc (.cells #[.int .i64 k] 3)).frozen? ⟨gb, 2 + k, none⟩ = false := (hG2.2 k (by omega)).2
  have q0 : ((w.alloc (.cells #[.pointer (some ⟨gb, 0, none⟩)] 85)).alloc (.cells #[.int .i64 k] 3)).cell? ⟨w.heap.size, 0, none⟩ = some (.pointer (some ⟨gb, 0, none⟩)) := q0
  have q1 : ((w.alloc (.cells #[.pointer (some ⟨gb, 0, none⟩)] 85)).alloc (.cells #[.int .i64 k] 3)).cell? ⟨w.heap.size + 1, 0, none⟩ = some (.int .i64 k) := q1
  have z0 := (two_boxes (w.setCell ⟨gb, 2 + k, none⟩ (.bool true)) (.pointer (some ⟨gb, 0, none⟩)) (.int .i64 k) 85 3 w.heap.size (by simp)).1
  have z1 := (two_boxes (w.setCell ⟨gb, 2 + k, none⟩ (.bool true)) (.pointer (some ⟨gb, 0, none⟩)) (.int .i64 k) 85 3 w.heap.size (by simp)).2
  have bz : Below (w.setCell ⟨gb, 2 + k, none⟩ (.bool true)).heap.size (w.setCell ⟨gb, 2 + k, none⟩ (.bool true)) (((w.setCell ⟨gb, 2 + k, none⟩ (.bool true)).alloc (.cells #[.pointer (some ⟨gb, 0, none⟩)] 85)).alloc (.cells #[.int .i64 k] 3)).drew := below_drewN (bal (bal (Below.refl _ _) _) _) 1
  have hG4 := (hg.close k (by omega) true _ hcl).next bz
  have hB4 : CellsAt (((w.setCell ⟨gb, 2 + k, none⟩ (.bool true)).alloc (.cells #[.pointer (some ⟨gb, 0, none⟩)] 85)).alloc (.cells #[.int .i64 k] 3)).drew B (rowsP ps) := (hB.keep (fun b o e => heap_setCell_other w ⟨gb, 2 + k, none⟩ b (.bool true) (hgB b o e))).next bz
  have HG4 := Lib.hid hG4
  have HB4 := Lib.hid hB4
  have hgrow : w.grownBy (((w.setCell ⟨gb, 2 + k, none⟩ (.bool true)).alloc (.cells #[.pointer (some ⟨gb, 0, none⟩)] 85)).alloc (.cells #[.int .i64 k] 3)).drew (some gb) := grown_below (grown_set (grown_refl _ _) _ _ _) bz
  have HGR := Lib.hid hgrow
  have HFit := Lib.hid hfit
  have Hk := Lib.hid hk
  have hsz : (((w.setCell ⟨gb, 2 + k, none⟩ (.bool true)).alloc (.cells #[.pointer (some ⟨gb, 0, none⟩)] 85)).alloc (.cells #[.int .i64 k] 3)).drew.heap.size = w.heap.size + 1 + 1 := by simp
  have HSZ := Lib.hid hsz
  clear hsz hgrow hG4 hB4 bz hG2 hG3 hcl hb b2 hg hB hfit hk
  go_enter_defers Try.func87, Try.ntmps87
  go_wp2_with fail
  go_region_held3 (fun w' => w'.cell? ⟨w.heap.size, 0, none⟩ = some (.pointer (some ⟨gb, 0, none⟩)) ∧ w'.cell? ⟨w.heap.size + 1, 0, none⟩ = some (.int .i64 k)) (first | exact ⟨q0, q1⟩ | exact ⟨z0, z1⟩) (fail)
  go_wp2_with fail
  refine (joined_any A n c B ps.length d gb ps (closedBy [(k : Int)]) _ hn0 hn rfl hm HG4.out HB4.out HFit.out).mono ?_
  rintro e w4 ⟨A3, c3, B3, d3, rfl, o3, q3, hb3⟩
  rw [partsTo_length] at o3
  rw [partsTo_length]
  have hG5 := HG4.out.next hb3
  have hB5 := HB4.out.next hb3
  have z0 := (hb3.cell (p := ⟨w.heap.size, 0, none⟩) (by rw [HSZ.out]; show w.heap.size < _; omega)).trans z0
  have z1 := (hb3.cell (p := ⟨w.heap.size + 1, 0, none⟩) (by rw [HSZ.out]; show w.heap.size + 1 < _; omega)).trans z1
  have hgr5 := grown_below HGR.out hb3
  have hf := fitB_parts (fitB_at HFit.out k p Hk.out)
  have he := okP_ends hf.1
  obtain ⟨x, hx⟩ := Int.eq_ofNat_of_zero_le he.1.1
  obtain ⟨y, hy⟩ := Int.eq_ofNat_of_zero_le he.2.1.1
  have hxn : x < n := by have := hf.2.1; omega
  have hyn : y < n := by have := hf.2.2; omega
  obtain ⟨g, rfl⟩ : ∃ g, A3 = some ⟨g, 0, none⟩ := by
    rcases o3.2 with ⟨hv, hn'⟩ | ⟨g, cap, cur, hv, _⟩
    · omega
    · injection hv with hA; exact ⟨g, hA⟩
  obtain ⟨b, off, rfl, hrow⟩ := pipe_at hB5 (by omega)
  obtain ⟨p0, p1, p2, p3, p4, p5⟩ := hrow k p Hk.out
  have hPl := partsTo_length (closedBy [(k : Int)]) n ps ps.length
  have c1 := o3.cellAt x (by omega)
  have c2 := o3.cellAt y (by omega)
  rw [intsV_at _ _ (by rw [hPl]; exact hxn)] at c1
  rw [intsV_at _ _ (by rw [hPl]; exact hyn)] at c2
  rw [hx] at p1
  rw [hy] at p2
  have e1 : getI (partsTo (closedBy [(k : Int)]) n ps ps.length) p.f = (partsTo (closedBy [(k : Int)]) n ps ps.length)[x]'(by rw [hPl]; exact hxn) := by
    rw [hx]; unfold getI; simp [List.getD, hPl, hxn]
  have e2 : getI (partsTo (closedBy [(k : Int)]) n ps ps.length) p.t = (partsTo (closedBy [(k : Int)]) n ps ps.length)[y]'(by rw [hPl]; exact hyn) := by
    rw [hy]; unfold getI; simp [List.getD, hPl, hyn]
  generalize (partsTo (closedBy [(k : Int)]) n ps ps.length)[x]'(by rw [hPl]; exact hxn) = u at *
  generalize (partsTo (closedBy [(k : Int)]) n ps ps.length)[y]'(by rw [hPl]; exact hyn) = v at *
  have ⟨n0, n1⟩ := hG5.1
  have ⟨k0, k1⟩ := hG5.2 k (by omega)
  have HG5 := Lib.hid hG5
  have HGR5 := Lib.hid hgr5
  have HE1 := Lib.hid e1
  have HE2 := Lib.hid e2
  clear e1 e2 hx hy he hf hPl hrow p0 p3 p4 p5 o3 q3 hb3 hB5 hG5 hgr5 q0 q1 hc1 hf1
  go_wp2_with fail
  go_quiet (fail)
  go_wp2_with fail
  refine leaves_cons (f := 109) (args := #[.pointer (some ⟨w.heap.size, 0, none⟩), .pointer (some ⟨w.heap.size + 1, 0, none⟩)]) (by simp) (by simp [go_sem]) ?_
  refine (reopen_d w.heap.size gb k _ .returning (w4.drewN nq) z0 z1 k0 k1 hk20 hgl).mono ?_
  rintro e u' w'' ⟨rfl, rfl, rfl⟩
  refine ⟨_, results_tmp rfl _ _ _, ?_, ?_, ?_⟩
  · rw [HE1.out, HE2.out]; rfl
  · have hcl2 : ∀ j, closedBy [] j = if j = k then false else closedBy [(k : Int)] j := fun j => by
      unfold closedBy
      by_cases e : j = k
      · rw [if_pos e]; rfl
      · rw [if_neg e]; simp; omega
    exact ((HG5.out.keep (w' := w4.drewN nq) rfl).close k (by omega) false _ hcl2).keep rfl
  · exact grown_drew (grown_set (grown_drew HGR5.out nq) _ _ _) 1

end Go.Proofs.Ytmopnkkpcgiafaa
