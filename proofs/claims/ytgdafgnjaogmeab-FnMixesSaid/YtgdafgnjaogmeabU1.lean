/-
  The model's source of choices where only bounds of the choices matter: pick, one, among; the draws of chapter 2.
-/
import Derived.Test.YtgdafgnjaogmeabQ1
import Derived.Test.YtgdafgnjaogmeabN3
namespace Go.Proofs.Ytgdafgnjaogmeab
open Go.ChangeShapes Go.WideShapes Go.ChangeAt Go.RowKit
set_option maxRecDepth 100000

/-- a source that has given T choices at most -/
def SrcUp (B : Nat) (w : World) (b : Nat) (T : Int) : Prop := ∃ t, t ≤ T ∧ SrcOf B w b t
theorem SrcUp.next {B : Nat} {w w' : World} {b : Nat} {T : Int} (h : SrcUp B w b T) (hw : Below B w w') : SrcUp B w' b T := by
  obtain ⟨t, ht, hs⟩ := h
  exact ⟨t, ht, SrcOf.next hs hw⟩
theorem SrcUp.lt {B : Nat} {w : World} {b : Nat} {T : Int} (h : SrcUp B w b T) : b < B := by
  obtain ⟨t, _, hs⟩ := h
  exact hs.2.1
theorem SrcUp.mono {B : Nat} {w : World} {b : Nat} {T U : Int} (h : SrcUp B w b T) (hu : T ≤ U) : SrcUp B w b U := by
  obtain ⟨t, ht, hs⟩ := h
  exact ⟨t, by omega, hs⟩
theorem pickUp_any (B b : Nat) (T n : Int) (w : World) (h : SrcUp B w b T) (hT : T ≤ 900) (hn : 1 < n) (hn1 : n ≤ 60000) :
    Calls Try.prog 76 #[.pointer (some ⟨b, 0, none⟩), .int .i64 n] w fun e w' => ∃ x : Int, e = .returned (.int .i64 x) ∧ 0 ≤ x ∧ x < n ∧ SrcUp B w' b (T + 2) ∧ w.grownBy w' (some b) := by
  obtain ⟨t, ht, hs⟩ := h
  by_cases h2 : 200 < n
  · refine (pickOf_any B b t n w hs (by omega) h2 hn1).mono ?_
    rintro e w' ⟨x, he, h0, h1, h3, h4⟩
    exact ⟨x, he, h0, h1, ⟨_, by omega, h3⟩, h4⟩
  · refine (pickSmall_any B b t n w hs (by omega) hn (by omega)).mono ?_
    rintro e w' ⟨x, he, h0, h1, h3, h4⟩
    exact ⟨x, he, h0, h1, ⟨_, by omega, h3⟩, h4⟩
theorem oneUp_any (B b : Nat) (T n : Int) (w : World) (h : SrcUp B w b T) (hT : T ≤ 900) (hn : 1 < n) (hn1 : n ≤ 60000) :
    Calls Try.prog 82 #[.pointer (some ⟨b, 0, none⟩), .int .i64 n] w fun e w' => ∃ q : Bool, e = .returned (.bool q) ∧ SrcUp B w' b (T + 2) ∧ w.grownBy w' (some b) := by
  go_enter Try.func82, Try.ntmps82
  go_wp2_with fail
  refine (pickUp_any B b T n _ h hT hn hn1).mono ?_
  rintro e w1 ⟨x, rfl, hx0, hx1, hs1, hg1⟩
  go_wp2
  go_ret
  exact ⟨_, rfl, hs1, hg1⟩
theorem amongUp_any (B b : Nat) (T : Int) (A : Option Addr) (n c : Nat) (zs : List Int) (w : World) (h : SrcUp B w b T) (hT : T ≤ 900) (hz : zs.length = n) (hn : 1 < n) (hn1 : n ≤ 200) (hA : CellsAt w A (intsV zs)) (hne : ∀ b' o', A = some ⟨b', o', none⟩ → b' ≠ b) :
    Calls Try.prog 79 #[.pointer (some ⟨b, 0, none⟩), .slice A n c] w fun e w' => ∃ x : Int, e = .returned (.int .i64 x) ∧ x ∈ zs ∧ SrcUp B w' b (T + 2) ∧ w.grownBy w' (some b) := by
  go_enter Try.func79, Try.ntmps79
  go_wp2_with fail
  refine (pickUp_any B b T n _ h hT (by omega) (by omega)).mono ?_
  rintro e w1 ⟨x, rfl, hx0, hx1, hs1, hg1⟩
  obtain ⟨k, rfl⟩ := Int.eq_ofNat_of_zero_le hx0
  have hkl : k < zs.length := by omega
  obtain ⟨b', o, rfl, hc⟩ := hA (by rw [intsV_length]; omega)
  have g0 := hc k (by rw [intsV_length]; exact hkl)
  have hl := World.block_lt_of_cell? w ⟨b', o + 0, none⟩ (hc 0 (by rw [intsV_length]; omega) |>.trans (by rw [intsV_at _ _ (by omega)]))
  have g1 : w1.cell? ⟨b', o + k, none⟩ = some (.int .i64 zs[k]) := by
    rw [World.cell?_of_block (hg1.block b' hl (by have := hne b' o rfl; simpa using this)), g0, intsV_at _ _ hkl]
  have hm := List.getElem_mem hkl
  generalize zs[k] = z at *
  clear g0 hc
  go_wp2
  go_ret
  exact ⟨z, rfl, hm, hs1, hg1⟩
theorem cells_lit (w : World) (zs : List Int) (E : TypeId) : CellsAt (w.alloc (.cells (zs.map (Value.int .i64)).toArray E)) (some ⟨w.heap.size, 0, none⟩) (intsV zs) := by
  intro _
  refine ⟨_, _, rfl, fun j hj => ?_⟩
  rw [intsV_length] at hj
  rw [intsV_at _ _ hj]
  simp [hj]

theorem drawDegrees_any (B b : Nat) (T : Int) (w : World) (h : SrcUp B w b T) (hB : B ≤ w.heap.size) (hT : T ≤ 800) :
    Calls Try.prog 78 #[.pointer (some ⟨b, 0, none⟩)] w fun e w' => ∃ x : Int, e = .returned (.int .i64 x) ∧ -1 ≤ x ∧ x ≤ 18001 ∧ SrcUp B w' b (T + 4) ∧ w.grownBy w' (some b) := by
  have hbB := h.lt
  go_enter Try.func78, Try.ntmps78
  go_wp2_with fail
  refine (oneUp_any B b T _ _ h (by omega) (by omega) (by omega)).mono ?_
  rintro e w1 ⟨q, rfl, hs1, hg1⟩
  cases q with
  | true =>
    go_wp2_with fail
    have hx := bal (Below.refl _ w1) (.cells #[.int .i64 (-1), .int .i64 0, .int .i64 18000, .int .i64 18001, .int .i64 2000, .int .i64 10000] 2)
    have hz := hg1.size
    refine (amongUp_any B b (T + 2) _ 6 _ [-1, 0, 18000, 18001, 2000, 10000] _ (hs1.next (hx.mono (by omega))) (by omega) rfl (by omega) (by omega) (cells_lit w1 [-1, 0, 18000, 18001, 2000, 10000] _) (fun b' o' e => by cases e; omega)).mono ?_
    rintro e w2 ⟨x, rfl, hm, hs2, hg2⟩
    go_wp2
    go_ret
    refine ⟨x, rfl, ?_, ?_, hs2.mono (by omega), grown_then (grown_below hg1 hx) hg2⟩
    · simp at hm; omega
    · simp at hm; omega
  | false =>
    go_wp2_with fail
    refine (pickUp_any B b (T + 2) _ _ hs1 (by omega) (by omega) (by omega)).mono ?_
    rintro e w2 ⟨x, rfl, hx0, hx1, hs2, hg2⟩
    go_wp2
    go_ret
    exact ⟨_, rfl, by omega, by omega, hs2.mono (by omega), grown_then hg1 hg2⟩

end Go.Proofs.Ytgdafgnjaogmeab
