/-
  Building as an argument of a law, opened.
-/
import Derived.Test.YthidaoemonjemabDoorBd0
import Derived.Test.YthidaoemonjemabDoorGs
namespace Go.Proofs.YthidaoemonjemabDoor
open Go.ChangeShapes Go.WideShapes Go.ChangeAt Go.RowKit
set_option linter.unusedSimpArgs false
set_option maxRecDepth 100000

section
variable {H : Type} {enc : TypeId × Value → H} {W : World} {base : Nat} {spare : Nat → Bool} {held : Bool}
theorem trod_Bd {fuel : Nat} {cs : List Value} {x : DataW H × List MemPlace} (h : DataW.trod enc Tryd.prog W base spare held fuel 24 cs = some x) (hl : cs.length = 6) :
    ∃ p : Bd, cs = p.cs ∧ p.fine W := by
  match cs, hl with
  | [c0, c1, c2, c3, c4, c5], _ =>
    obtain ⟨xs, n, hn, hx, hl, hlen, hg⟩ := DataW.trod_struct Tryd.underlying24 h
    have o9 : Tryd.prog.cellsOf 9 = 1 := by kernel_rfl
    have o2 : Tryd.prog.cellsOf 2 = 1 := by kernel_rfl
    have o3 : Tryd.prog.cellsOf 22 = 1 := by kernel_rfl
    match xs, hlen with
    | [y0, y1, y2, y3, y4, y5], _ =>
      have g0 := hg 0 _ rfl
      have g1 := hg 1 _ rfl
      have g2 := hg 2 _ rfl
      have g3 := hg 3 _ rfl
      have g4 := hg 4 _ rfl
      have g5 := hg 5 _ rfl
      simp [o9, o2, o3] at g0 g1 g2 g3 g4 g5
      obtain ⟨id, e0, z0, hs0⟩ := DataW.trod_string Tryd.underlying9 g0
      obtain rfl := List.cons.inj e0 |>.1
      obtain ⟨nd, e1, z1, -⟩ := DataW.trod_int Tryd.underlying2 g1
      obtain rfl := List.cons.inj e1 |>.1
      obtain ⟨ba, e2, z2, -⟩ := DataW.trod_int Tryd.underlying2 g2
      obtain rfl := List.cons.inj e2 |>.1
      obtain ⟨sl, e3, z3, -⟩ := DataW.trod_int Tryd.underlying2 g3
      obtain rfl := List.cons.inj e3 |>.1
      obtain ⟨li, e4, z4, -⟩ := DataW.trod_int Tryd.underlying2 g4
      obtain rfl := List.cons.inj e4 |>.1
      obtain ⟨A5, n5, k5, pr, rfl, hz5⟩ := trod_nodes g5
      obtain rfl := hz5.1
      exact ⟨⟨⟨id, nd, ba, sl, li, pr⟩, A5, k5⟩, rfl, hs0, hz5⟩
theorem open_Bd {r : Reach} {b0 : Nat} {v : Value} {dd : DataW H} {pl : List MemPlace}
    (hv : Value.okWide Tryd.prog W r b0 24 v) (h : DataW.Trod enc Tryd.prog W base spare held 24 v dd pl) :
    ∃ x : Bd, v = .agg #[.string x.d.id, .int .i64 x.d.nd, .int .i64 x.d.ba, .int .i64 x.d.sl, .int .i64 x.d.li, .slice x.prA x.d.pr.length x.prc] ∧ x.fine W := by
  obtain ⟨cs, rfl, hsz⟩ := okWide_struct Tryd.underlying24 hv
  have hC : Tryd.prog.cellsOf 24 = 6 := by kernel_rfl
  obtain ⟨l⟩ := cs
  obtain ⟨fuel, hf⟩ := h
  obtain ⟨p, e, hp⟩ := trod_Bd (cs := l) hf (hsz.trans hC)
  subst e
  exact ⟨p, rfl, hp⟩
end
end Go.Proofs.YthidaoemonjemabDoor
