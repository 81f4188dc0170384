/-
  Substation as an argument of a law, opened.
-/
import Derived.Test.YtdaedgdglammhabSb0
import Derived.Test.YtdaedgdglammhabGs
namespace Go.Proofs.Ytdaedgdglammhab
open Go.ChangeShapes Go.WideShapes Go.ChangeAt Go.RowKit
set_option linter.unusedVariables false
set_option linter.unusedSimpArgs false
set_option linter.unusedSimpArgs false
set_option maxRecDepth 100000

section
variable {H : Type} {enc : TypeId × Value → H} {W : World} {base : Nat} {spare : Nat → Bool} {held : Bool}
theorem trod_Sb {fuel : Nat} {cs : List Value} {x : DataW H × List MemPlace} (h : DataW.trod enc Try.prog W base spare held fuel 30 cs = some x) (hl : cs.length = 5) :
    ∃ p : Sb, cs = p.cs ∧ p.fine ∧ x.2 = [] := by
  match cs, hl with
  | [c0, c1, c2, c3, c4], _ =>
    obtain ⟨xs, n, hn, hx, hl, hlen, hg⟩ := DataW.trod_struct Try.underlying30 h
    have ostr : Try.prog.cellsOf 9 = 1 := by kernel_rfl
    have oint : Try.prog.cellsOf 2 = 1 := by kernel_rfl
    match xs, hlen with
    | [y0, y1, y2, y3, y4], _ =>
      have g0 := hg 0 _ rfl
      have g1 := hg 1 _ rfl
      have g2 := hg 2 _ rfl
      have g3 := hg 3 _ rfl
      have g4 := hg 4 _ rfl
      simp [ostr, oint] at g0 g1 g2 g3 g4
      obtain ⟨id_, e0, z0, hs0⟩ := DataW.trod_string Try.underlying9 g0
      obtain rfl := List.cons.inj e0 |>.1
      obtain ⟨nd_, e1, z1, -⟩ := DataW.trod_int Try.underlying2 g1
      obtain rfl := List.cons.inj e1 |>.1
      obtain ⟨tr_, e2, z2, -⟩ := DataW.trod_int Try.underlying2 g2
      obtain rfl := List.cons.inj e2 |>.1
      obtain ⟨su_, e3, z3, -⟩ := DataW.trod_int Try.underlying2 g3
      obtain rfl := List.cons.inj e3 |>.1
      obtain ⟨re_, e4, z4, -⟩ := DataW.trod_int Try.underlying2 g4
      obtain rfl := List.cons.inj e4 |>.1
      refine ⟨⟨id_, nd_, tr_, su_, re_⟩, rfl, hs0, ?_⟩
      have := (Prod.mk.inj hx).2
      rw [this]
      simp [z0, z1, z2, z3, z4]
theorem trod_Sbs {fuel : Nat} {v : Value} {x : DataW H × List MemPlace} (h : DataW.trod enc Try.prog W base spare held fuel 22 [v] = some x) :
    ∃ (A : Option Addr) (n c : Nat) (ps : List Sb), v = .slice A n c ∧ SbsIn W A n ps := by
  have o6 : Try.prog.cellsOf 30 = 5 := by kernel_rfl
  rcases Go.Deep.open_slice Try.underlying22 h with ⟨hcs, _⟩ | ⟨a, len, cap, m, n, D, Pl, hcs, _, hl, hm, hmm, _, hi⟩
  · obtain rfl := List.cons.inj hcs |>.1
    exact ⟨none, 0, 0, [], rfl, SbsIn.nil _⟩
  · obtain rfl := List.cons.inj hcs |>.1
    have hlm : len ≤ m := by rw [hmm]; split <;> omega
    obtain ⟨ps, hpl, hps⟩ := list_of len (fun i (p : Sb) => (∀ j, j < 5 → W.cell? (a.add (i * 5 + j)) = p.cs[j]?) ∧ p.fine) fun i hil => by
      obtain ⟨cs', hc, ht⟩ := hi i (by omega)
      rw [o6] at hc
      obtain ⟨_, hcl, hat⟩ := World.cells?_some hc
      obtain ⟨p, rfl, hs, -⟩ := trod_Sb ht hcl
      exact ⟨p, fun j hj => by rw [← hat j hj, Go.Deep.add_add], hs⟩
    refine ⟨some a, len, cap, ps, rfl, hpl, by omega, fun h0 => ?_, fun p hp => ?_⟩
    · rw [rowsF_length Sb.csL, hpl] at h0
      obtain ⟨b, off, rfl, hj⟩ := cells_plain (n := len * 5) (vs := rowsF Sb.cs ps) (by rw [rowsF_length Sb.csL]; omega) (fun q hq => rowsF_of Sb.csL (by omega) ps (fun q => W.cell? (a.add q)) (fun k p hk j hj => (hps k p hk).1 j hj) q (by omega)) (by omega)
      exact ⟨b, off, rfl, fun j hjl => hj j (by rw [rowsF_length Sb.csL] at hjl; omega)⟩
    · obtain ⟨i, hil, rfl⟩ := List.getElem_of_mem hp
      exact (hps i _ (List.getElem?_eq_getElem hil)).2
theorem open_Sb {r : Reach} {b0 : Nat} {v : Value} {dd : DataW H} {pl : List MemPlace}
    (hv : Value.okWide Try.prog W r b0 30 v) (h : DataW.Trod enc Try.prog W base spare held 30 v dd pl) :
    ∃ x : Sb, v = .agg #[.string x.id, .int .i64 x.nd, .int .i64 x.tr, .int .i64 x.su, .int .i64 x.re] ∧ x.fine ∧ pl = [] := by
  obtain ⟨cs, rfl, hsz⟩ := okWide_struct Try.underlying30 hv
  have hC : Try.prog.cellsOf 30 = 5 := by kernel_rfl
  obtain ⟨l⟩ := cs
  obtain ⟨fuel, hf⟩ := h
  obtain ⟨p, e, hp, hpl⟩ := trod_Sb (cs := l) hf (hsz.trans hC)
  subst e
  exact ⟨p, rfl, hp, hpl⟩
theorem open_Sbs {r : Reach} {b0 : Nat} {v : Value} {dd : DataW H} {pl : List MemPlace}
    (hv : Value.okWide Try.prog W r b0 22 v) (h : DataW.Trod enc Try.prog W base spare held 22 v dd pl) :
    ∃ (A : Option Addr) (n c : Nat) (xs : List Sb), v = .slice A n c ∧ SbsIn W A n xs := by
  obtain ⟨a, l, c, rfl⟩ := okWide_slice Try.underlying22 hv
  obtain ⟨fuel, hf⟩ := h
  exact trod_Sbs hf
end
end Go.Proofs.Ytdaedgdglammhab
