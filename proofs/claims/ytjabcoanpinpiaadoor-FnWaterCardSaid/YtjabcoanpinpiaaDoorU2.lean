/-
  The draws of FnWater: numbers within bounds.
-/
import Derived.Test.YtjabcoanpinpiaaDoorU1
namespace Go.Proofs.YtjabcoanpinpiaaDoor
open Go.ChangeShapes Go.WideShapes Go.ChangeAt Go.RowKit
set_option maxRecDepth 100000

theorem fromUp_any (A : Option Addr) (n c : Nat) (zs : List Int) (w : World) (h : SliceIn .u8 w A n zs) :
    Calls Tryd.prog 16 #[.slice A n c] w fun e w' => ∃ b : Nat, e = .returned (.pointer (some ⟨b, 0, none⟩)) ∧ w.heap.size ≤ b ∧ SrcUp w'.heap.size w' b 0 ∧ Below w.heap.size w w' :=
  (fromOf_any A n c zs w h).mono fun _ _ ⟨b, he, hb, hs, hw⟩ => ⟨b, he, hb, ⟨0, Int.le_refl _, hs⟩, hw⟩
/-- what is built on a new source leaves older memory as it was -/
theorem draws_below {w a c : World} {b : Nat} (h1 : Below w.heap.size w a) (hb : w.heap.size ≤ b) (hg : a.grownBy c (some b)) : Below w.heap.size w c :=
  h1.grown hg h1.size fun k hk => by
    have : k = b := by simpa using hk.symm
    omega
theorem drawWaterDensity_any (A : Option Addr) (n c : Nat) (zs : List Int) (w : World) (h : SliceIn .u8 w A n zs) :
    Calls Tryd.prog 5 #[.slice A n c] w fun e w' => ∃ x : Int, e = .returned (.int .i64 x) ∧ -1 ≤ x ∧ x ≤ 18001 ∧ Below w.heap.size w w' := by
  go_enter Tryd.func5, Tryd.ntmps5
  go_wp2_with fail
  refine (fromUp_any A n c zs _ h).mono ?_
  rintro e w1 ⟨b, rfl, hb, hs, hw⟩
  go_wp2_with fail
  refine (drawDegrees_any _ b 0 _ hs (Nat.le_refl _) (by omega)).mono ?_
  rintro e w2 ⟨x, rfl, hx0, hx1, hs2, hg⟩
  go_wp2
  go_ret
  exact ⟨x, rfl, hx0, hx1, draws_below hw hb hg⟩
theorem drawDegreesText_any (A : Option Addr) (n c : Nat) (zs : List Int) (w : World) (h : SliceIn .u8 w A n zs) :
    Calls Tryd.prog 13 #[.slice A n c] w fun e w' => ∃ x : Int, e = .returned (.int .i64 x) ∧ -100000 ≤ x ∧ x ≤ 100000 ∧ Below w.heap.size w w' := by
  go_enter Tryd.func13, Tryd.ntmps13
  go_wp2_with fail
  refine (fromUp_any A n c zs _ h).mono ?_
  rintro e w1 ⟨b, rfl, hb, hs, hw⟩
  go_wp2_with fail
  refine (pickUp_any _ b 0 _ _ hs (by omega) (by omega) (by omega)).mono ?_
  rintro e w2 ⟨x, rfl, hx0, hx1, hs2, hg⟩
  go_wp2_with fail
  have hy := bal (Below.refl _ w2) (.cells #[.int .i64 x, .int .i64 (-x), .int .i64 5, .int .i64 (-5), .int .i64 0, .int .i64 99999, .int .i64 100000, .int .i64 (-99999), .int .i64 (-100000)] 2)
  have hz := hg.size
  have hbB := hs.lt
  refine (amongUp_any _ b (0 + 2) _ 9 _ [x, -x, 5, -5, 0, 99999, 100000, -99999, -100000] _ (hs2.next (hy.mono (by omega))) (by omega) rfl (by omega) (by omega) (cells_lit w2 [x, -x, 5, -5, 0, 99999, 100000, -99999, -100000] _) (fun b' o' e => by cases e; omega)).mono ?_
  rintro e w3 ⟨z, rfl, hm, hs3, hg3⟩
  go_wp2
  go_ret
  refine ⟨z, rfl, ?_, ?_, draws_below hw hb (grown_then (grown_below hg hy) hg3)⟩
  · simp at hm; omega
  · simp at hm; omega
theorem half_low (a : Int) (h : -1 ≤ a) : -1 ≤ a.tdiv 2 := by
  by_cases h0 : 0 ≤ a
  · have := Int.tdiv_nonneg h0 (by omega : (0 : Int) ≤ 2)
    omega
  · have : a = -1 := by omega
    subst this
    decide
theorem drawFlowForPower_any (A : Option Addr) (n c : Nat) (zs : List Int) (w : World) (h : SliceIn .u8 w A n zs) :
    Calls Tryd.prog 10 #[.slice A n c] w fun e w' => ∃ p a d : Int, e = .returned (.tuple #[.int .i64 p, .int .i64 a, .int .i64 d]) ∧ (-1 ≤ p ∧ p ≤ 100000001) ∧ (-1 ≤ a ∧ a ≤ 18001) ∧ (-1 ≤ d ∧ d ≤ 18001) ∧ Below w.heap.size w w' := by
  go_enter Tryd.func10, Tryd.ntmps10
  go_wp2_with fail
  refine (fromUp_any A n c zs _ h).mono ?_
  rintro e w1 ⟨b, rfl, hb, hs, hw⟩
  go_wp2_with fail
  refine (pickUp_any _ b 0 _ _ hs (by omega) (by omega) (by omega)).mono ?_
  rintro e w2 ⟨x, rfl, hx0, hx1, hs2, hg⟩
  have hp0 : -1 ≤ 1000 * x := by omega
  have hp1 : 1000 * x ≤ 100000001 := by omega
  go_wp2_with fail
  refine (oneUp_any _ b (0 + 2) _ _ hs2 (by omega) (by omega) (by omega)).mono ?_
  rintro e w3 ⟨q, rfl, hs3, hg3⟩
  have hG3 := grown_then hg hg3
  cases q with
  | true =>
    go_wp2_with fail
    have hy := bal (Below.refl _ w3) (.cells #[.int .i64 (-1), .int .i64 0, .int .i64 100000000, .int .i64 100000001] 2)
    have hz := hG3.size
    have hbB := hs.lt
    refine (amongUp_any _ b (0 + 2 + 2) _ 4 _ [-1, 0, 100000000, 100000001] _ (hs3.next (hy.mono (by omega))) (by omega) rfl (by omega) (by omega) (cells_lit w3 [-1, 0, 100000000, 100000001] _) (fun b' o' e => by cases e; omega)).mono ?_
    rintro e w4 ⟨p, rfl, hm, hs4, hg4⟩
    have hG4 := grown_then (grown_below hG3 hy) hg4
    have hq0 : -1 ≤ p := by simp at hm; omega
    have hq1 : p ≤ 100000001 := by simp at hm; omega
    clear hm
    go_wp2_with fail
    refine (drawDegrees_any _ b (0 + 2 + 2 + 2) _ hs4 (by have := hG4.size; omega) (by omega)).mono ?_
    rintro e w5 ⟨a, rfl, ha0, ha1, hs5, hg5⟩
    have hG5 := grown_then hG4 hg5
    go_wp2_with fail
    refine (oneUp_any _ b (0 + 2 + 2 + 2 + 4) _ _ hs5 (by omega) (by omega) (by omega)).mono ?_
    rintro e w6 ⟨r, rfl, hs6, hg6⟩
    have hG6 := grown_then hG5 hg6
    cases r with
    | true =>
      go_wp2_with fail
      refine (drawDegrees_any _ b (0 + 2 + 2 + 2 + 4 + 2) _ hs6 (by have := hG6.size; omega) (by omega)).mono ?_
      rintro e w7 ⟨d, rfl, hd0, hd1, hs7, hg7⟩
      go_wp2
      go_ret3
      exact ⟨_, a, d, rfl, ⟨hq0, hq1⟩, ⟨ha0, ha1⟩, ⟨hd0, hd1⟩, draws_below hw hb (grown_then hG6 hg7)⟩
    | false =>
      have hd := tdiv_bd a 2 18001 (by omega) (by omega)
      have ht : -1 ≤ a.tdiv 2 ∧ a.tdiv 2 ≤ 18001 := ⟨half_low a ha0, hd.2⟩
      go_wp2
      go_ret3
      exact ⟨_, a, _, rfl, ⟨hq0, hq1⟩, ⟨ha0, ha1⟩, ht, draws_below hw hb hG6⟩
  | false =>
    skip
    go_wp2_with fail
    refine (drawDegrees_any _ b (0 + 2 + 2) _ hs3 (by have := hG3.size; omega) (by omega)).mono ?_
    rintro e w5 ⟨a, rfl, ha0, ha1, hs5, hg5⟩
    have hG5 := grown_then hG3 hg5
    go_wp2_with fail
    refine (oneUp_any _ b (0 + 2 + 2 + 4) _ _ hs5 (by omega) (by omega) (by omega)).mono ?_
    rintro e w6 ⟨r, rfl, hs6, hg6⟩
    have hG6 := grown_then hG5 hg6
    cases r with
    | true =>
      go_wp2_with fail
      refine (drawDegrees_any _ b (0 + 2 + 2 + 4 + 2) _ hs6 (by have := hG6.size; omega) (by omega)).mono ?_
      rintro e w7 ⟨d, rfl, hd0, hd1, hs7, hg7⟩
      go_wp2
      go_ret3
      exact ⟨_, a, d, rfl, ⟨hp0, hp1⟩, ⟨ha0, ha1⟩, ⟨hd0, hd1⟩, draws_below hw hb (grown_then hG6 hg7)⟩
    | false =>
      have hd := tdiv_bd a 2 18001 (by omega) (by omega)
      have ht : -1 ≤ a.tdiv 2 ∧ a.tdiv 2 ≤ 18001 := ⟨half_low a ha0, hd.2⟩
      go_wp2
      go_ret3
      exact ⟨_, a, _, rfl, ⟨hp0, hp1⟩, ⟨ha0, ha1⟩, ht, draws_below hw hb hG6⟩

end Go.Proofs.YtjabcoanpinpiaaDoor
