/-
  Building as an argument of a law, opened.
-/
import Derived.Test.YthidaoemonjemabBd0
import Derived.Test.YthidaoemonjemabGs
namespace Go.Proofs.Ythidaoemonjemab
open Go.ChangeShapes Go.WideShapes Go.ChangeAt Go.RowKit
set_option linter.unusedSimpArgs false
set_option maxRecDepth 100000

section
variable {H : Type} {enc : TypeId × Value → H} {W : World} {base : Nat} {spare : Nat → Bool} {held : Bool}
theorem trod_Bd {fuel : Nat} {cs : List Value} {x : DataW H × List MemPlace} (h : DataW.trod enc Try.prog W base spare held fuel 58 cs = some x) (hl : cs.length = 6) :
    ∃ p : Bd, cs = p.cs ∧ p.fine W := by
  match cs, hl with
  | [c0, c1, c2, c3, c4, c5], _ =>
    obtain ⟨xs, n, hn, hx, hl, hlen, hg⟩ := DataW.trod_struct Try.underlying58 h
    have o9 : Try.prog.cellsOf 9 = 1 := by kernel_rfl
    have o2 : Try.prog.cellsOf 2 = 1 := by kernel_rfl
    have o3 : Try.prog.cellsOf 23 = 1 := by kernel_rfl
    match xs, hlen with
    | [y0, y1, y2, y3, y4, y5], _ =>
      have g0 := hg 0 _ rfl
      have g1 := hg 1 _ rfl
      have g2 := hg 2 _ rfl
      have g3 := hg 3 _ rfl
      have g4 := hg 4 _ rfl
      have g5 := hg 5 _ rfl
      simp [o9, o2, o3] at g0 g1 g2 g3 g4 g5
      obtain ⟨id, e0, z0, hs0⟩ := DataW.trod_string Try.underlying9 g0
      obtain rfl := List.cons.inj e0 |>.1
      obtain ⟨nd, e1, z1, -⟩ := DataW.trod_int Try.underlying2 g1
      obtain rfl := List.cons.inj e1 |>.1
      obtain ⟨ba, e2, z2, -⟩ := DataW.trod_int Try.underlying2 g2
      obtain rfl := List.cons.inj e2 |>.1
      obtain ⟨sl, e3, z3, -⟩ := DataW.trod_int Try.underlying2 g3
      obtain rfl := List.cons.inj e3 |>.1
      obtain ⟨li, e4, z4, -⟩ := DataW.trod_int Try.underlying2 g4
      obtain rfl := List.cons.inj e4 |>.1
      obtain ⟨A5, n5, k5, pr, rfl, hz5⟩ := trod_nodes g5
      obtain rfl := hz5.1
      exact ⟨⟨⟨id, nd, ba, sl, li, pr⟩, A5, k5⟩, rfl, hs0, hz5⟩
theorem trod_Bds {fuel : Nat} {v : Value} {x : DataW H × List MemPlace} (h : DataW.trod enc Try.prog W base spare held fuel 22 [v] = some x) :
    ∃ (A : Option Addr) (n c : Nat) (ps : List Bd), v = .slice A n c ∧ BdsIn W A n ps := by
  have o6 : Try.prog.cellsOf 58 = 6 := by kernel_rfl
  rcases Go.Deep.open_slice Try.underlying22 h with ⟨hcs, _⟩ | ⟨a, len, cap, m, n, D, Pl, hcs, _, hl, hm, hmm, _, hi⟩
  · obtain rfl := List.cons.inj hcs |>.1
    exact ⟨none, 0, 0, [], rfl, BdsIn.nil _⟩
  · obtain rfl := List.cons.inj hcs |>.1
    have hlm : len ≤ m := by rw [hmm]; split <;> omega
    obtain ⟨ps, hpl, hps⟩ := list_of len (fun i (p : Bd) => (∀ j, j < 6 → W.cell? (a.add (i * 6 + j)) = p.cs[j]?) ∧ p.fine W) fun i hil => by
      obtain ⟨cs', hc, ht⟩ := hi i (by omega)
      rw [o6] at hc
      obtain ⟨_, hcl, hat⟩ := World.cells?_some hc
      obtain ⟨p, rfl, hs⟩ := trod_Bd ht hcl
      exact ⟨p, fun j hj => by rw [← hat j hj, Go.Deep.add_add], hs⟩
    refine ⟨some a, len, cap, ps, rfl, hpl, by omega, fun h0 => ?_, fun p hp => ?_⟩
    · rw [rowsBd_length, hpl] at h0
      obtain ⟨b, off, rfl, hj⟩ := cells_plain (n := len * 6) (vs := rowsBd ps) (by rw [rowsBd_length]; omega) (fun q hq => rowsBd_of ps (fun q => W.cell? (a.add q)) (fun k p hk j hj => (hps k p hk).1 j hj) q (by omega)) (by omega)
      exact ⟨b, off, rfl, fun j hjl => hj j (by rw [rowsBd_length] at hjl; omega)⟩
    · obtain ⟨i, hil, rfl⟩ := List.getElem_of_mem hp
      exact (hps i _ (List.getElem?_eq_getElem hil)).2
theorem open_Bd {r : Reach} {b0 : Nat} {v : Value} {dd : DataW H} {pl : List MemPlace}
    (hv : Value.okWide Try.prog W r b0 58 v) (h : DataW.Trod enc Try.prog W base spare held 58 v dd pl) :
    ∃ x : Bd, v = .agg #[.string x.d.id, .int .i64 x.d.nd, .int .i64 x.d.ba, .int .i64 x.d.sl, .int .i64 x.d.li, .slice x.prA x.d.pr.length x.prc] ∧ x.fine W := by
  obtain ⟨cs, rfl, hsz⟩ := okWide_struct Try.underlying58 hv
  have hC : Try.prog.cellsOf 58 = 6 := by kernel_rfl
  obtain ⟨l⟩ := cs
  obtain ⟨fuel, hf⟩ := h
  obtain ⟨p, e, hp⟩ := trod_Bd (cs := l) hf (hsz.trans hC)
  subst e
  exact ⟨p, rfl, hp⟩
theorem open_Bds {r : Reach} {b0 : Nat} {v : Value} {dd : DataW H} {pl : List MemPlace}
    (hv : Value.okWide Try.prog W r b0 22 v) (h : DataW.Trod enc Try.prog W base spare held 22 v dd pl) :
    ∃ (A : Option Addr) (n c : Nat) (xs : List Bd), v = .slice A n c ∧ BdsIn W A n xs := by
  obtain ⟨a, l, c, rfl⟩ := okWide_slice Try.underlying22 hv
  obtain ⟨fuel, hf⟩ := h
  exact trod_Bds hf
end
end Go.Proofs.Ythidaoemonjemab
