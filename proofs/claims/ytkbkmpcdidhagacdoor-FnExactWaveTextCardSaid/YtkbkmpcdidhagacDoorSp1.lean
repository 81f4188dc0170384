/-
  Step as an argument of a law, opened.
-/
import Derived.Test.YtkbkmpcdidhagacDoorSp0
import Derived.Test.YtkbkmpcdidhagacDoorGs
namespace Go.Proofs.YtkbkmpcdidhagacDoor
open Go.ChangeShapes Go.WideShapes Go.ChangeAt Go.RowKit
set_option linter.unusedVariables false
set_option linter.unusedSimpArgs false
set_option linter.unusedSimpArgs false
set_option maxRecDepth 100000

section
variable {H : Type} {enc : TypeId × Value → H} {W : World} {base : Nat} {spare : Nat → Bool} {held : Bool}
theorem trod_Sp {fuel : Nat} {cs : List Value} {x : DataW H × List MemPlace} (h : DataW.trod enc Tryd.prog W base spare held fuel 37 cs = some x) (hl : cs.length = 2) :
    ∃ p : Sp, cs = p.cs ∧ p.fine ∧ x.2 = [] := by
  match cs, hl with
  | [c0, c1], _ =>
    obtain ⟨xs, n, hn, hx, hl, hlen, hg⟩ := DataW.trod_struct Tryd.underlying37 h
    have oint : Tryd.prog.cellsOf 2 = 1 := by kernel_rfl
    match xs, hlen with
    | [y0, y1], _ =>
      have g0 := hg 0 _ rfl
      have g1 := hg 1 _ rfl
      simp [oint] at g0 g1
      obtain ⟨t_, e0, z0, -⟩ := DataW.trod_int Tryd.underlying2 g0
      obtain rfl := List.cons.inj e0 |>.1
      obtain ⟨d_, e1, z1, -⟩ := DataW.trod_int Tryd.underlying2 g1
      obtain rfl := List.cons.inj e1 |>.1
      refine ⟨⟨t_, d_⟩, rfl, trivial, ?_⟩
      have := (Prod.mk.inj hx).2
      rw [this]
      simp [z0, z1]
theorem trod_Sps {fuel : Nat} {v : Value} {x : DataW H × List MemPlace} (h : DataW.trod enc Tryd.prog W base spare held fuel 22 [v] = some x) :
    ∃ (A : Option Addr) (n c : Nat) (ps : List Sp), v = .slice A n c ∧ SpsIn W A n ps := by
  have o6 : Tryd.prog.cellsOf 37 = 2 := by kernel_rfl
  rcases Go.Deep.open_slice Tryd.underlying22 h with ⟨hcs, _⟩ | ⟨a, len, cap, m, n, D, Pl, hcs, _, hl, hm, hmm, _, hi⟩
  · obtain rfl := List.cons.inj hcs |>.1
    exact ⟨none, 0, 0, [], rfl, SpsIn.nil _⟩
  · obtain rfl := List.cons.inj hcs |>.1
    have hlm : len ≤ m := by rw [hmm]; split <;> omega
    obtain ⟨ps, hpl, hps⟩ := list_of len (fun i (p : Sp) => (∀ j, j < 2 → W.cell? (a.add (i * 2 + j)) = p.cs[j]?) ∧ p.fine) fun i hil => by
      obtain ⟨cs', hc, ht⟩ := hi i (by omega)
      rw [o6] at hc
      obtain ⟨_, hcl, hat⟩ := World.cells?_some hc
      obtain ⟨p, rfl, hs, -⟩ := trod_Sp ht hcl
      exact ⟨p, fun j hj => by rw [← hat j hj, Go.Deep.add_add], hs⟩
    refine ⟨some a, len, cap, ps, rfl, hpl, by omega, fun h0 => ?_, fun p hp => ?_⟩
    · rw [rowsF_length Sp.csL, hpl] at h0
      obtain ⟨b, off, rfl, hj⟩ := cells_plain (n := len * 2) (vs := rowsF Sp.cs ps) (by rw [rowsF_length Sp.csL]; omega) (fun q hq => rowsF_of Sp.csL (by omega) ps (fun q => W.cell? (a.add q)) (fun k p hk j hj => (hps k p hk).1 j hj) q (by omega)) (by omega)
      exact ⟨b, off, rfl, fun j hjl => hj j (by rw [rowsF_length Sp.csL] at hjl; omega)⟩
    · obtain ⟨i, hil, rfl⟩ := List.getElem_of_mem hp
      exact (hps i _ (List.getElem?_eq_getElem hil)).2
theorem open_Sp {r : Reach} {b0 : Nat} {v : Value} {dd : DataW H} {pl : List MemPlace}
    (hv : Value.okWide Tryd.prog W r b0 37 v) (h : DataW.Trod enc Tryd.prog W base spare held 37 v dd pl) :
    ∃ x : Sp, v = .agg #[.int .i64 x.t, .int .i64 x.d] ∧ x.fine ∧ pl = [] := by
  obtain ⟨cs, rfl, hsz⟩ := okWide_struct Tryd.underlying37 hv
  have hC : Tryd.prog.cellsOf 37 = 2 := by kernel_rfl
  obtain ⟨l⟩ := cs
  obtain ⟨fuel, hf⟩ := h
  obtain ⟨p, e, hp, hpl⟩ := trod_Sp (cs := l) hf (hsz.trans hC)
  subst e
  exact ⟨p, rfl, hp, hpl⟩
theorem open_Sps {r : Reach} {b0 : Nat} {v : Value} {dd : DataW H} {pl : List MemPlace}
    (hv : Value.okWide Tryd.prog W r b0 22 v) (h : DataW.Trod enc Tryd.prog W base spare held 22 v dd pl) :
    ∃ (A : Option Addr) (n c : Nat) (xs : List Sp), v = .slice A n c ∧ SpsIn W A n xs := by
  obtain ⟨a, l, c, rfl⟩ := okWide_slice Tryd.underlying22 hv
  obtain ⟨fuel, hf⟩ := h
  exact trod_Sps hf
end
end Go.Proofs.YtkbkmpcdidhagacDoor
