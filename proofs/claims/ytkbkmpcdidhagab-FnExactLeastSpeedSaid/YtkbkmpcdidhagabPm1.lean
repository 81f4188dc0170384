/-
  A Pump as an argument of a law, opened.
-/
import Derived.Test.YtkbkmpcdidhagabPm0
import Derived.Test.YtkbkmpcdidhagabGs
namespace Go.Proofs.Ytkbkmpcdidhagab
open Go.ChangeShapes Go.WideShapes Go.ChangeAt Go.RowKit
set_option linter.unusedVariables false
set_option linter.unusedSimpArgs false
set_option maxRecDepth 100000

section
variable {H : Type} {enc : TypeId × Value → H} {W : World} {base : Nat} {spare : Nat → Bool} {held : Bool}
theorem trod_rws {fuel : Nat} {v : Value} {x : DataW H × List MemPlace} (h : DataW.trod enc Try.prog W base spare held fuel 22 [v] = some x) :
    ∃ (A : Option Addr) (n c : Nat) (rs : List Rw), v = .slice A n c ∧ RwsIn W A n rs := by
  have o1 : Try.prog.cellsOf 49 = 1 := by kernel_rfl
  rcases Go.Deep.open_slice Try.underlying22 h with ⟨hcs, _⟩ | ⟨a, len, cap, m, n, D, Pl, hcs, _, hl, hm, hmm, _, hi⟩
  · obtain rfl := List.cons.inj hcs |>.1
    exact ⟨none, 0, 0, [], rfl, RwsIn.nil _⟩
  · obtain rfl := List.cons.inj hcs |>.1
    have hlm : len ≤ m := by rw [hmm]; split <;> omega
    obtain ⟨rs, hpl, hrs⟩ := list_of len (fun i (r : Rw) => W.cell? (a.add i) = some r.v ∧ r.fine W) fun i hil => by
      obtain ⟨cs', hc, ht⟩ := hi i (by omega)
      rw [o1, Nat.mul_one] at hc
      obtain ⟨_, hcl, hat⟩ := World.cells?_some hc
      match cs', hcl with
      | [u], _ =>
        obtain ⟨A', n', c', zs, rfl, hz⟩ := trod_nodes ht
        obtain rfl := hz.1
        exact ⟨⟨A', c', zs⟩, by have := hat 0 (by omega); rw [Go.Deep.add_add, Nat.add_zero] at this; exact this, hz⟩
    refine ⟨some a, len, cap, rs, rfl, hpl, by omega, fun h0 => ?_, fun r hr => ?_⟩
    · rw [rwsV_length, hpl] at h0
      obtain ⟨b, off, rfl, hj⟩ := cells_plain (n := len) (vs := rwsV rs) (by rw [rwsV_length]; omega) (fun q hq => by
        have e := List.getElem?_eq_getElem (show q < rs.length by omega)
        rw [(hrs q _ e).1, rwsV_at e]) (by omega)
      exact ⟨b, off, rfl, fun j hjl => hj j (by rw [rwsV_length] at hjl; omega)⟩
    · obtain ⟨i, hil, rfl⟩ := List.getElem_of_mem hr
      exact (hrs i _ (List.getElem?_eq_getElem hil)).2
theorem trod_Pm {fuel : Nat} {cs : List Value} {x : DataW H × List MemPlace} (h : DataW.trod enc Try.prog W base spare held fuel 24 cs = some x) (hl : cs.length = 2) :
    ∃ p : Pm, cs = [.string p.d.id, .slice p.cvA p.d.cv.length p.cvc] ∧ p.fine W := by
  match cs, hl with
  | [c0, c1], _ =>
    obtain ⟨xs, n, hn, hx, hl, hlen, hg⟩ := DataW.trod_struct Try.underlying24 h
    have o9 : Try.prog.cellsOf 9 = 1 := by kernel_rfl
    have o3 : Try.prog.cellsOf 22 = 1 := by kernel_rfl
    match xs, hlen with
    | [y0, y1], _ =>
      have g0 := hg 0 _ rfl
      have g1 := hg 1 _ rfl
      simp [o9, o3] at g0 g1
      obtain ⟨id, e0, z0, hs0⟩ := DataW.trod_string Try.underlying9 g0
      obtain rfl := List.cons.inj e0 |>.1
      obtain ⟨A, n5, c5, rs, rfl, hr⟩ := trod_rws g1
      have hl5 : (rs.map Rw.z).length = n5 := by rw [List.length_map]; exact hr.1
      subst hl5
      exact ⟨⟨⟨id, rs.map Rw.z⟩, A, c5, rs⟩, rfl, hs0, rfl, hr⟩
theorem open_Pm {r : Reach} {b0 : Nat} {v : Value} {dd : DataW H} {pl : List MemPlace}
    (hv : Value.okWide Try.prog W r b0 24 v) (h : DataW.Trod enc Try.prog W base spare held 24 v dd pl) :
    ∃ x : Pm, v = .agg #[.string x.d.id, .slice x.cvA x.d.cv.length x.cvc] ∧ x.fine W := by
  obtain ⟨cs, rfl, hsz⟩ := okWide_struct Try.underlying24 hv
  have hC : Try.prog.cellsOf 24 = 2 := by kernel_rfl
  obtain ⟨l⟩ := cs
  obtain ⟨fuel, hf⟩ := h
  obtain ⟨p, e, hp⟩ := trod_Pm (cs := l) hf (hsz.trans hC)
  subst e
  exact ⟨p, rfl, hp⟩
end
end Go.Proofs.Ytkbkmpcdidhagab
