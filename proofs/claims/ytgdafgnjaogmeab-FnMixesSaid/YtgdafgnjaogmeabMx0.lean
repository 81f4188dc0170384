/-
  Draws of heights, powers, litres.
-/
import Derived.Test.YtgdafgnjaogmeabU2
namespace Go.Proofs.Ytgdafgnjaogmeab
open Go.ChangeShapes Go.WideShapes Go.ChangeAt Go.RowKit Go.Shelf
set_option linter.unusedSimpArgs false
set_option maxRecDepth 100000
set_option maxHeartbeats 1600000
set_option linter.unusedVariables false


theorem drawDrawExpandedVolume_any (A : Option Addr) (n c : Nat) (zs : List Int) (w : World) (h : SliceIn .u8 w A n zs) :
    Calls Try.prog 29 #[.slice A n c] w fun e w' => ∃ x y z : Int, e = .returned (.tuple #[.int .i64 x, .int .i64 y, .int .i64 z]) ∧ ((-1 ≤ x ∧ x ≤ 1000000001) ∧ (-1 ≤ y ∧ y ≤ 18001) ∧ (-1 ≤ z ∧ z ≤ 18001)) ∧ Below w.heap.size w w' := by
  go_enter Try.func29, Try.ntmps29
  go_wp2_with fail
  refine (fromUp_any A n c zs _ h).mono ?_
  rintro e w1 ⟨b, rfl, hb, hs1, hw⟩
  have hbl := hs1.lt
  go_wp2_with fail
  refine (pickUp_any _ b _ 5000 _ hs1 (by omega) (by omega) (by omega)).mono ?_
  rintro e w2 ⟨x, rfl, x0, x1, hs2, hg2⟩
  have hG2 := hg2
  go_wp2_with fail
  refine (oneUp_any _ b _ 9 _ hs2 (by omega) (by omega) (by omega)).mono ?_
  rintro e w3 ⟨q, rfl, hs3, hg3⟩
  have hG3 := grown_then hG2 hg3
  cases q
  · go_wp2_with fail
    refine (drawDegrees_any _ b _ _ hs3 (by have := hG3.size; omega) (by omega)).mono ?_
    rintro e w4 ⟨y, rfl, y0, y1, hs4, hg4⟩
    have hG4 := grown_then hG3 hg4
    go_wp2_with fail
    refine (drawDegrees_any _ b _ _ hs4 (by have := hG4.size; omega) (by omega)).mono ?_
    rintro e w5 ⟨z, rfl, z0, z1, hs5, hg5⟩
    have hG5 := grown_then hG4 hg5
    go_wp2
    go_ret3
    exact ⟨1000 * x, y, z, rfl, by omega, draws_below hw hb hG5⟩
  · go_wp2_with fail
    have hx3 := bal (Below.refl _ w3) (.cells #[.int .i64 (-1), .int .i64 0, .int .i64 1000000000, .int .i64 1000000001] 2)
    have hz3 := hG3.size
    refine (amongUp_any _ b _ _ 4 _ [-1, 0, 1000000000, 1000000001] _ (hs3.next (hx3.mono (by omega))) (by omega) rfl (by omega) (by omega) (cells_lit w3 [-1, 0, 1000000000, 1000000001] _) (fun b' o' e => by cases e; omega)).mono ?_
    rintro e w4 ⟨u, rfl, um, hs4, hg4⟩
    have hG4 := grown_then hG3 (grown_then (grown_below (grown_refl _ _) hx3) hg4)
    simp only [List.mem_cons, List.not_mem_nil, or_false] at um
    go_wp2_with fail
    refine (drawDegrees_any _ b _ _ hs4 (by have := hG4.size; omega) (by omega)).mono ?_
    rintro e w5 ⟨y, rfl, y0, y1, hs5, hg5⟩
    have hG5 := grown_then hG4 hg5
    go_wp2_with fail
    refine (drawDegrees_any _ b _ _ hs5 (by have := hG5.size; omega) (by omega)).mono ?_
    rintro e w6 ⟨z, rfl, z0, z1, hs6, hg6⟩
    have hG6 := grown_then hG5 hg6
    go_wp2
    go_ret3
    exact ⟨u, y, z, rfl, by omega, draws_below hw hb hG6⟩
theorem drawDrawHeadPressure_any (A : Option Addr) (n c : Nat) (zs : List Int) (w : World) (h : SliceIn .u8 w A n zs) :
    Calls Try.prog 31 #[.slice A n c] w fun e w' => ∃ x y : Int, e = .returned (.tuple #[.int .i64 x, .int .i64 y]) ∧ ((-200001 ≤ x ∧ x ≤ 200001) ∧ (-1 ≤ y ∧ y ≤ 18001)) ∧ Below w.heap.size w w' := by
  go_enter Try.func31, Try.ntmps31
  go_wp2_with fail
  refine (fromUp_any A n c zs _ h).mono ?_
  rintro e w1 ⟨b, rfl, hb, hs1, hw⟩
  have hbl := hs1.lt
  go_wp2_with fail
  refine (pickUp_any _ b _ 2000 _ hs1 (by omega) (by omega) (by omega)).mono ?_
  rintro e w2 ⟨x, rfl, x0, x1, hs2, hg2⟩
  have hG2 := hg2
  go_wp2_with fail
  refine (oneUp_any _ b _ 9 _ hs2 (by omega) (by omega) (by omega)).mono ?_
  rintro e w3 ⟨q, rfl, hs3, hg3⟩
  have hG3 := grown_then hG2 hg3
  cases q
  · go_wp2_with fail
    refine (drawDegrees_any _ b _ _ hs3 (by have := hG3.size; omega) (by omega)).mono ?_
    rintro e w4 ⟨y, rfl, y0, y1, hs4, hg4⟩
    have hG4 := grown_then hG3 hg4
    go_wp2
    go_ret2
    exact ⟨10 * x - 8000, y, rfl, by omega, draws_below hw hb hG4⟩
  · go_wp2_with fail
    have hx3 := bal (Below.refl _ w3) (.cells #[.int .i64 (-200001), .int .i64 (-200000), .int .i64 200000, .int .i64 200001] 2)
    have hz3 := hG3.size
    refine (amongUp_any _ b _ _ 4 _ [-200001, -200000, 200000, 200001] _ (hs3.next (hx3.mono (by omega))) (by omega) rfl (by omega) (by omega) (cells_lit w3 [-200001, -200000, 200000, 200001] _) (fun b' o' e => by cases e; omega)).mono ?_
    rintro e w4 ⟨u, rfl, um, hs4, hg4⟩
    have hG4 := grown_then hG3 (grown_then (grown_below (grown_refl _ _) hx3) hg4)
    simp only [List.mem_cons, List.not_mem_nil, or_false] at um
    go_wp2_with fail
    refine (drawDegrees_any _ b _ _ hs4 (by have := hG4.size; omega) (by omega)).mono ?_
    rintro e w5 ⟨y, rfl, y0, y1, hs5, hg5⟩
    have hG5 := grown_then hG4 hg5
    go_wp2
    go_ret2
    exact ⟨u, y, rfl, by omega, draws_below hw hb hG5⟩
theorem drawDrawEnergyOf_any (A : Option Addr) (n c : Nat) (zs : List Int) (w : World) (h : SliceIn .u8 w A n zs) :
    Calls Try.prog 33 #[.slice A n c] w fun e w' => ∃ x y : Int, e = .returned (.tuple #[.int .i64 x, .int .i64 y]) ∧ ((-1 ≤ x ∧ x ≤ 100000001) ∧ (-1 ≤ y ∧ y ≤ 1000001)) ∧ Below w.heap.size w w' := by
  go_enter Try.func33, Try.ntmps33
  go_wp2_with fail
  refine (fromUp_any A n c zs _ h).mono ?_
  rintro e w1 ⟨b, rfl, hb, hs1, hw⟩
  have hbl := hs1.lt
  go_wp2_with fail
  refine (pickUp_any _ b _ 9000 _ hs1 (by omega) (by omega) (by omega)).mono ?_
  rintro e w2 ⟨x, rfl, x0, x1, hs2, hg2⟩
  have hG2 := hg2
  go_wp2_with fail
  refine (oneUp_any _ b _ 9 _ hs2 (by omega) (by omega) (by omega)).mono ?_
  rintro e w3 ⟨q, rfl, hs3, hg3⟩
  have hG3 := grown_then hG2 hg3
  cases q
  · go_wp2_with fail
    have hx3 := bal (Below.refl _ w3) (.cells #[.int .i64 0, .int .i64 1, .int .i64 15, .int .i64 60, .int .i64 1440, .int .i64 1000000, .int .i64 1000001, .int .i64 (-1)] 2)
    have hz3 := hG3.size
    refine (amongUp_any _ b _ _ 8 _ [0, 1, 15, 60, 1440, 1000000, 1000001, -1] _ (hs3.next (hx3.mono (by omega))) (by omega) rfl (by omega) (by omega) (cells_lit w3 [0, 1, 15, 60, 1440, 1000000, 1000001, -1] _) (fun b' o' e => by cases e; omega)).mono ?_
    rintro e w4 ⟨y, rfl, ym, hs4, hg4⟩
    have hG4 := grown_then hG3 (grown_then (grown_below (grown_refl _ _) hx3) hg4)
    simp only [List.mem_cons, List.not_mem_nil, or_false] at ym
    go_wp2
    go_ret2
    exact ⟨500 * x, y, rfl, by omega, draws_below hw hb hG4⟩
  · go_wp2_with fail
    have hx3 := bal (Below.refl _ w3) (.cells #[.int .i64 (-1), .int .i64 100000000, .int .i64 100000001] 2)
    have hz3 := hG3.size
    refine (amongUp_any _ b _ _ 3 _ [-1, 100000000, 100000001] _ (hs3.next (hx3.mono (by omega))) (by omega) rfl (by omega) (by omega) (cells_lit w3 [-1, 100000000, 100000001] _) (fun b' o' e => by cases e; omega)).mono ?_
    rintro e w4 ⟨u, rfl, um, hs4, hg4⟩
    have hG4 := grown_then hG3 (grown_then (grown_below (grown_refl _ _) hx3) hg4)
    simp only [List.mem_cons, List.not_mem_nil, or_false] at um
    go_wp2_with fail
    have hx4 := bal (Below.refl _ w4) (.cells #[.int .i64 0, .int .i64 1, .int .i64 15, .int .i64 60, .int .i64 1440, .int .i64 1000000, .int .i64 1000001, .int .i64 (-1)] 2)
    have hz4 := hG4.size
    refine (amongUp_any _ b _ _ 8 _ [0, 1, 15, 60, 1440, 1000000, 1000001, -1] _ (hs4.next (hx4.mono (by omega))) (by omega) rfl (by omega) (by omega) (cells_lit w4 [0, 1, 15, 60, 1440, 1000000, 1000001, -1] _) (fun b' o' e => by cases e; omega)).mono ?_
    rintro e w5 ⟨y, rfl, ym, hs5, hg5⟩
    have hG5 := grown_then hG4 (grown_then (grown_below (grown_refl _ _) hx4) hg5)
    simp only [List.mem_cons, List.not_mem_nil, or_false] at ym
    go_wp2
    go_ret2
    exact ⟨u, y, rfl, by omega, draws_below hw hb hG5⟩
end Go.Proofs.Ytgdafgnjaogmeab
