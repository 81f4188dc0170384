/-
  A network as an argument of a law, opened.
-/
import Derived.Test.YtdaedgdglammhaaGs
import Derived.Test.YtdaedgdglammhaaH0
import Derived.Lib.SmallJoins
import Derived.Deep.Slices
import Derived.Deep.Fields
import Derived.ShutString
import Derived.Carry
namespace Go.Proofs.Ytdaedgdglammhaa
open Go.ChangeShapes Go.WideShapes Go.ChangeAt Go.RowKit Go.Shelf
set_option linter.unusedSimpArgs false
set_option maxRecDepth 100000

section
variable {H : Type} {enc : TypeId × Value → H} {W : World} {base : Nat} {spare : Nat → Bool} {held : Bool}
theorem trod_pipe {fuel : Nat} {cs : List Value} {x : DataW H × List MemPlace} (h : DataW.trod enc Try.prog W base spare held fuel 116 cs = some x) (hl : cs.length = 6) :
    ∃ p : Pp, cs = p.cs ∧ p.id.size ≤ maxLen := by
  match cs, hl with
  | [c0, c1, c2, c3, c4, c5], _ =>
    obtain ⟨xs, n, hn, hx, hl, hlen, hg⟩ := DataW.trod_struct Try.underlying116 h
    have o9 : Try.prog.cellsOf 9 = 1 := by kernel_rfl
    have o2 : Try.prog.cellsOf 2 = 1 := by kernel_rfl
    match xs, hlen with
    | [y0, y1, y2, y3, y4, y5], _ =>
      have g0 := hg 0 _ rfl
      have g1 := hg 1 _ rfl
      have g2 := hg 2 _ rfl
      have g3 := hg 3 _ rfl
      have g4 := hg 4 _ rfl
      have g5 := hg 5 _ rfl
      simp [o9] at g0
      simp [o2] at g1 g2 g3 g4 g5
      obtain ⟨id, e0, z0, hs⟩ := DataW.trod_string Try.underlying9 g0
      obtain ⟨f, e1, z1, -⟩ := DataW.trod_int Try.underlying2 g1
      obtain ⟨t, e2, z2, -⟩ := DataW.trod_int Try.underlying2 g2
      obtain ⟨L, e3, z3, -⟩ := DataW.trod_int Try.underlying2 g3
      obtain ⟨d, e4, z4, -⟩ := DataW.trod_int Try.underlying2 g4
      obtain ⟨s, e5, z5, -⟩ := DataW.trod_int Try.underlying2 g5
      obtain rfl := List.cons.inj e0 |>.1
      obtain rfl := List.cons.inj e1 |>.1
      obtain rfl := List.cons.inj e2 |>.1
      obtain rfl := List.cons.inj e3 |>.1
      obtain rfl := List.cons.inj e4 |>.1
      obtain rfl := List.cons.inj e5 |>.1
      exact ⟨⟨id, f, t, L, d, s⟩, rfl, hs⟩
theorem trod_pipes {fuel : Nat} {v : Value} {x : DataW H × List MemPlace} (h : DataW.trod enc Try.prog W base spare held fuel 32 [v] = some x) :
    ∃ (A : Option Addr) (n c : Nat) (ps : List Pp), v = .slice A n c ∧ PipesIn W A n ps := by
  have o6 : Try.prog.cellsOf 116 = 6 := by kernel_rfl
  rcases Go.Deep.open_slice Try.underlying32 h with ⟨hcs, _⟩ | ⟨a, len, cap, m, n, D, Pl, hcs, _, hl, hm, hmm, _, hi⟩
  · obtain rfl := List.cons.inj hcs |>.1
    exact ⟨none, 0, 0, [], rfl, PipesIn.nil _⟩
  · obtain rfl := List.cons.inj hcs |>.1
    have hlm : len ≤ m := by rw [hmm]; split <;> omega
    obtain ⟨ps, hpl, hps⟩ := list_of len (fun i (p : Pp) => (∀ j, j < 6 → W.cell? (a.add (i * 6 + j)) = p.cs[j]?) ∧ p.id.size ≤ maxLen) fun i hil => by
      obtain ⟨cs', hc, ht⟩ := hi i (by omega)
      rw [o6] at hc
      obtain ⟨_, hcl, hat⟩ := World.cells?_some hc
      obtain ⟨p, rfl, hs⟩ := trod_pipe ht hcl
      exact ⟨p, fun j hj => by rw [← hat j hj, Go.Deep.add_add], hs⟩
    refine ⟨some a, len, cap, ps, rfl, hpl, by omega, fun h0 => ?_, fun p hp => ?_⟩
    · rw [rowsP_length, hpl] at h0
      obtain ⟨b, off, rfl, hj⟩ := cells_plain (n := len * 6) (vs := rowsP ps) (by rw [rowsP_length]; omega) (fun q hq => rowsP_of ps (fun q => W.cell? (a.add q)) (fun k p hk j hj => (hps k p hk).1 j hj) q (by omega)) (by omega)
      exact ⟨b, off, rfl, fun j hjl => hj j (by rw [rowsP_length] at hjl; omega)⟩
    · obtain ⟨i, hil, rfl⟩ := List.getElem_of_mem hp
      exact (hps i _ (List.getElem?_eq_getElem hil)).2
theorem open_net {r : Reach} {b0 : Nat} {v : Value} {dd : DataW H} {pl : List MemPlace}
    (hv : Value.okWide Try.prog W r b0 34 v) (h : DataW.Trod enc Try.prog W base spare held 34 v dd pl) :
    ∃ (A : Option Addr) (n c : Nat) (zs : List Int) (B : Option Addr) (m d : Nat) (ps : List Pp), v = .agg #[.slice A n c, .slice B m d] ∧ SliceIn .i64 W A n zs ∧ PipesIn W B m ps := by
  obtain ⟨v0, v1, y0, y1, n, rfl, _, _, t0, t1⟩ := Go.Joins.open_agg2 Try.underlying34 (by kernel_rfl) (by kernel_rfl) hv h
  obtain ⟨A, n, c, zs, rfl, hz⟩ := trod_nodes t0
  obtain ⟨B, m, d, ps, rfl, hp⟩ := trod_pipes t1
  exact ⟨A, n, c, zs, B, m, d, ps, rfl, hz, hp⟩
end
end Go.Proofs.Ytdaedgdglammhaa
