/-
  Reading as an argument of a law, opened.
-/
import Derived.Test.YthidaoemonjemacRg0
import Derived.Test.YthidaoemonjemacGs
namespace Go.Proofs.Ythidaoemonjemac
open Go.ChangeShapes Go.WideShapes Go.ChangeAt Go.RowKit
set_option linter.unusedVariables false
set_option linter.unusedSimpArgs false
set_option linter.unusedSimpArgs false
set_option maxRecDepth 100000

section
variable {H : Type} {enc : TypeId × Value → H} {W : World} {base : Nat} {spare : Nat → Bool} {held : Bool}
theorem trod_Rg {fuel : Nat} {cs : List Value} {x : DataW H × List MemPlace} (h : DataW.trod enc Try.prog W base spare held fuel 42 cs = some x) (hl : cs.length = 2) :
    ∃ p : Rg, cs = p.cs ∧ p.fine ∧ x.2 = [] := by
  match cs, hl with
  | [c0, c1], _ =>
    obtain ⟨xs, n, hn, hx, hl, hlen, hg⟩ := DataW.trod_struct Try.underlying42 h
    have oint : Try.prog.cellsOf 2 = 1 := by kernel_rfl
    match xs, hlen with
    | [y0, y1], _ =>
      have g0 := hg 0 _ rfl
      have g1 := hg 1 _ rfl
      simp [oint] at g0 g1
      obtain ⟨h_, e0, z0, -⟩ := DataW.trod_int Try.underlying2 g0
      obtain rfl := List.cons.inj e0 |>.1
      obtain ⟨c_, e1, z1, -⟩ := DataW.trod_int Try.underlying2 g1
      obtain rfl := List.cons.inj e1 |>.1
      refine ⟨⟨h_, c_⟩, rfl, trivial, ?_⟩
      have := (Prod.mk.inj hx).2
      rw [this]
      simp [z0, z1]
theorem trod_Rgs {fuel : Nat} {v : Value} {x : DataW H × List MemPlace} (h : DataW.trod enc Try.prog W base spare held fuel 22 [v] = some x) :
    ∃ (A : Option Addr) (n c : Nat) (ps : List Rg), v = .slice A n c ∧ RgsIn W A n ps := by
  have o6 : Try.prog.cellsOf 42 = 2 := by kernel_rfl
  rcases Go.Deep.open_slice Try.underlying22 h with ⟨hcs, _⟩ | ⟨a, len, cap, m, n, D, Pl, hcs, _, hl, hm, hmm, _, hi⟩
  · obtain rfl := List.cons.inj hcs |>.1
    exact ⟨none, 0, 0, [], rfl, RgsIn.nil _⟩
  · obtain rfl := List.cons.inj hcs |>.1
    have hlm : len ≤ m := by rw [hmm]; split <;> omega
    obtain ⟨ps, hpl, hps⟩ := list_of len (fun i (p : Rg) => (∀ j, j < 2 → W.cell? (a.add (i * 2 + j)) = p.cs[j]?) ∧ p.fine) fun i hil => by
      obtain ⟨cs', hc, ht⟩ := hi i (by omega)
      rw [o6] at hc
      obtain ⟨_, hcl, hat⟩ := World.cells?_some hc
      obtain ⟨p, rfl, hs, -⟩ := trod_Rg ht hcl
      exact ⟨p, fun j hj => by rw [← hat j hj, Go.Deep.add_add], hs⟩
    refine ⟨some a, len, cap, ps, rfl, hpl, by omega, fun h0 => ?_, fun p hp => ?_⟩
    · rw [rowsF_length Rg.csL, hpl] at h0
      obtain ⟨b, off, rfl, hj⟩ := cells_plain (n := len * 2) (vs := rowsF Rg.cs ps) (by rw [rowsF_length Rg.csL]; omega) (fun q hq => rowsF_of Rg.csL (by omega) ps (fun q => W.cell? (a.add q)) (fun k p hk j hj => (hps k p hk).1 j hj) q (by omega)) (by omega)
      exact ⟨b, off, rfl, fun j hjl => hj j (by rw [rowsF_length Rg.csL] at hjl; omega)⟩
    · obtain ⟨i, hil, rfl⟩ := List.getElem_of_mem hp
      exact (hps i _ (List.getElem?_eq_getElem hil)).2
theorem open_Rg {r : Reach} {b0 : Nat} {v : Value} {dd : DataW H} {pl : List MemPlace}
    (hv : Value.okWide Try.prog W r b0 42 v) (h : DataW.Trod enc Try.prog W base spare held 42 v dd pl) :
    ∃ x : Rg, v = .agg #[.int .i64 x.h, .int .i64 x.c] ∧ x.fine ∧ pl = [] := by
  obtain ⟨cs, rfl, hsz⟩ := okWide_struct Try.underlying42 hv
  have hC : Try.prog.cellsOf 42 = 2 := by kernel_rfl
  obtain ⟨l⟩ := cs
  obtain ⟨fuel, hf⟩ := h
  obtain ⟨p, e, hp, hpl⟩ := trod_Rg (cs := l) hf (hsz.trans hC)
  subst e
  exact ⟨p, rfl, hp, hpl⟩
theorem open_Rgs {r : Reach} {b0 : Nat} {v : Value} {dd : DataW H} {pl : List MemPlace}
    (hv : Value.okWide Try.prog W r b0 22 v) (h : DataW.Trod enc Try.prog W base spare held 22 v dd pl) :
    ∃ (A : Option Addr) (n c : Nat) (xs : List Rg), v = .slice A n c ∧ RgsIn W A n xs := by
  obtain ⟨a, l, c, rfl⟩ := okWide_slice Try.underlying22 hv
  obtain ⟨fuel, hf⟩ := h
  exact trod_Rgs hf
end
end Go.Proofs.Ythidaoemonjemac
