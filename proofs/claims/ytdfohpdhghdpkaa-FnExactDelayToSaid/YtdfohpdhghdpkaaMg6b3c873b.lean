import Derived.Test.YtdfohpdhghdpkaaGs
import Derived.Test.YtdfohpdhghdpkaaH9
import Derived.Test.YtdfohpdhghdpkaaH0
import Derived.Lib.SmallJoins
import Derived.Deep.Slices
import Derived.Deep.Fields
import Derived.ShutString
import Derived.Carry
import Derived.Test.YtdfohpdhghdpkaaM2
import Derived.Test.YtdfohpdhghdpkaaB1
/-
  What an exact law on networks keeps while it marks: slices apart from those that are written stay as they were.
-/
namespace Go.Proofs.Ytdfohpdhghdpkaa
open Go.ChangeShapes Go.WideShapes Go.ChangeAt Go.RowKit
set_option linter.unusedVariables false

theorem NetAt.keep {w w' : World} {b : Nat} {A : Option Addr} {n c : Nat} {B : Option Addr} {m d : Nat} (h : NetAt w b A n c B m d) (k : w'.heap[b]? = w.heap[b]?) : NetAt w' b A n c B m d :=
  ⟨(World.cell?_of_block (a := ⟨b, 0, none⟩) k).trans h.1, (World.cell?_of_block (a := ⟨b, 1, none⟩) k).trans h.2⟩
theorem owns_lies6 {w : World} {base : Nat} {E : TypeId} {A : Option Addr} {n c : Nat} {vs : List Value} (h : w.ownsRow base E 6 (.slice A n c) n vs) : LiesIn w.heap.size A := by
  rintro b off rfl
  exact (h.lt b rfl).2
/-- what stays while two slices of the law's own are written -/
theorem two_keeps {w0 w w' : World} {A B : Option Addr} {n c m d : Nat} {base lo : Nat} {E E' : TypeId} {xs ys : List Value} (hT : TwoGrown w w' A B n c m d) (hA : w.ownsRow base E 1 (.slice A n c) n xs) (hB : w.ownsRow base E' 6 (.slice B m d) m ys) (lA : LiesIn lo A) (lB : LiesIn lo B) :
    (∀ b, b < base → b < w.heap.size → w'.heap[b]? = w.heap[b]?) ∧ (∀ b, lo ≤ b → b < w.heap.size → w'.heap[b]? = w.heap[b]?) ∧ (∀ B0, B0 ≤ base → B0 ≤ w.heap.size → Below B0 w0 w → Below B0 w0 w') ∧ w.heap.size ≤ w'.heap.size := by
  obtain ⟨wm, g1, g2⟩ := hT
  have hall : ∀ b, b < w.heap.size → some b ≠ (Value.slice A n c).ownBlock → some b ≠ (Value.slice B m d).ownBlock → w'.heap[b]? = w.heap[b]? := fun b hb h1 h2 =>
    (g2.block b (Nat.lt_of_lt_of_le hb g1.size) h2).trans (g1.block b hb h1)
  refine ⟨fun b h1 h2 => hall b h2 (fun e => ?_) (fun e => ?_), fun b h1 h2 => hall b h2 (fun e => ?_) (fun e => ?_), fun B0 h1 h2 hb => ?_, Nat.le_trans g1.size g2.size⟩
  · have := (hA.lt b e.symm).1; omega
  · have := (hB.lt b e.symm).1; omega
  · have := lies_own hA lA b e.symm; omega
  · have := lies_own hB lB b e.symm; omega
  · exact (hb.grown g1 h2 (fun k hk => Nat.le_trans h1 (hA.lt k hk).1)).grown g2 (Nat.le_trans h2 g1.size) (fun k hk => Nat.le_trans h1 (hB.lt k hk).1)
end Go.Proofs.Ytdfohpdhghdpkaa

/-
  A network as an argument of a law, opened.
-/
namespace Go.Proofs.Ytdfohpdhghdpkaa
open Go.ChangeShapes Go.WideShapes Go.ChangeAt Go.RowKit Go.Shelf
set_option linter.unusedSimpArgs false
set_option maxRecDepth 100000

section
variable {H : Type} {enc : TypeId × Value → H} {W : World} {base : Nat} {spare : Nat → Bool} {held : Bool}
theorem trod_pipe {fuel : Nat} {cs : List Value} {x : DataW H × List MemPlace} (h : DataW.trod enc Try.prog W base spare held fuel 156 cs = some x) (hl : cs.length = 6) :
    ∃ p : Pp, cs = p.cs ∧ p.id.size ≤ maxLen := by
  match cs, hl with
  | [c0, c1, c2, c3, c4, c5], _ =>
    obtain ⟨xs, n, hn, hx, hl, hlen, hg⟩ := DataW.trod_struct Try.underlying156 h
    have o9 : Try.prog.cellsOf 9 = 1 := by kernel_rfl
    have o2 : Try.prog.cellsOf 2 = 1 := by kernel_rfl
    match xs, hlen with
    | [y0, y1, y2, y3, y4, y5], _ =>
      have g0 := hg 0 _ rfl
      have g1 := hg 1 _ rfl
      have g2 := hg 2 _ rfl
      have g3 := hg 3 _ rfl
      have g4 := hg 4 _ rfl
      have g5 := hg 5 _ rfl
      simp [o9] at g0
      simp [o2] at g1 g2 g3 g4 g5
      obtain ⟨id, e0, z0, hs⟩ := DataW.trod_string Try.underlying9 g0
      obtain ⟨f, e1, z1, -⟩ := DataW.trod_int Try.underlying2 g1
      obtain ⟨t, e2, z2, -⟩ := DataW.trod_int Try.underlying2 g2
      obtain ⟨L, e3, z3, -⟩ := DataW.trod_int Try.underlying2 g3
      obtain ⟨d, e4, z4, -⟩ := DataW.trod_int Try.underlying2 g4
      obtain ⟨s, e5, z5, -⟩ := DataW.trod_int Try.underlying2 g5
      obtain rfl := List.cons.inj e0 |>.1
      obtain rfl := List.cons.inj e1 |>.1
      obtain rfl := List.cons.inj e2 |>.1
      obtain rfl := List.cons.inj e3 |>.1
      obtain rfl := List.cons.inj e4 |>.1
      obtain rfl := List.cons.inj e5 |>.1
      exact ⟨⟨id, f, t, L, d, s⟩, rfl, hs⟩
theorem trod_pipes {fuel : Nat} {v : Value} {x : DataW H × List MemPlace} (h : DataW.trod enc Try.prog W base spare held fuel 36 [v] = some x) :
    ∃ (A : Option Addr) (n c : Nat) (ps : List Pp), v = .slice A n c ∧ PipesIn W A n ps := by
  have o6 : Try.prog.cellsOf 156 = 6 := by kernel_rfl
  rcases Go.Deep.open_slice Try.underlying36 h with ⟨hcs, _⟩ | ⟨a, len, cap, m, n, D, Pl, hcs, _, hl, hm, hmm, _, hi⟩
  · obtain rfl := List.cons.inj hcs |>.1
    exact ⟨none, 0, 0, [], rfl, PipesIn.nil _⟩
  · obtain rfl := List.cons.inj hcs |>.1
    have hlm : len ≤ m := by rw [hmm]; split <;> omega
    obtain ⟨ps, hpl, hps⟩ := list_of len (fun i (p : Pp) => (∀ j, j < 6 → W.cell? (a.add (i * 6 + j)) = p.cs[j]?) ∧ p.id.size ≤ maxLen) fun i hil => by
      obtain ⟨cs', hc, ht⟩ := hi i (by omega)
      rw [o6] at hc
      obtain ⟨_, hcl, hat⟩ := World.cells?_some hc
      obtain ⟨p, rfl, hs⟩ := trod_pipe ht hcl
      exact ⟨p, fun j hj => by rw [← hat j hj, Go.Deep.add_add], hs⟩
    refine ⟨some a, len, cap, ps, rfl, hpl, by omega, fun h0 => ?_, fun p hp => ?_⟩
    · rw [rowsP_length, hpl] at h0
      obtain ⟨b, off, rfl, hj⟩ := cells_plain (n := len * 6) (vs := rowsP ps) (by rw [rowsP_length]; omega) (fun q hq => rowsP_of ps (fun q => W.cell? (a.add q)) (fun k p hk j hj => (hps k p hk).1 j hj) q (by omega)) (by omega)
      exact ⟨b, off, rfl, fun j hjl => hj j (by rw [rowsP_length] at hjl; omega)⟩
    · obtain ⟨i, hil, rfl⟩ := List.getElem_of_mem hp
      exact (hps i _ (List.getElem?_eq_getElem hil)).2
theorem open_net {r : Reach} {b0 : Nat} {v : Value} {dd : DataW H} {pl : List MemPlace}
    (hv : Value.okWide Try.prog W r b0 38 v) (h : DataW.Trod enc Try.prog W base spare held 38 v dd pl) :
    ∃ (A : Option Addr) (n c : Nat) (zs : List Int) (B : Option Addr) (m d : Nat) (ps : List Pp), v = .agg #[.slice A n c, .slice B m d] ∧ SliceIn .i64 W A n zs ∧ PipesIn W B m ps := by
  obtain ⟨v0, v1, y0, y1, n, rfl, _, _, t0, t1⟩ := Go.Joins.open_agg2 Try.underlying38 (by kernel_rfl) (by kernel_rfl) hv h
  obtain ⟨A, n, c, zs, rfl, hz⟩ := trod_nodes t0
  obtain ⟨B, m, d, ps, rfl, hp⟩ := trod_pipes t1
  exact ⟨A, n, c, zs, B, m, d, ps, rfl, hz, hp⟩
end
end Go.Proofs.Ytdfohpdhghdpkaa

/-
  A slice's numbers within two bounds; one number, whatever the bounds.
-/
namespace Go.Proofs.Ytdfohpdhghdpkaa
open Go.ChangeShapes Go.WideShapes Go.ChangeAt Go.RowKit

theorem within64_none (lo hi : Int) (A : Option Addr) (cap : Nat) (w : World) :
    Calls Try.prog 106 #[.int .i64 lo, .int .i64 hi, .slice A 0 cap] w fun e w' => e = .returned (.bool true) ∧ w = w' := by
  go_enter Try.func106, Try.ntmps106
  go_wp2
  go_loop [11] (fun i => i = .int .i64 0) (fun _ => 0)
  case atStart => rfl
  case round =>
    obtain rfl := hrel
    go_wp2
    go_ret
    exact ⟨rfl, rfl⟩
theorem within64_cells (lo hi : Int) (A : Option Addr) (cap n : Nat) (zs : List Int) (w : World) (hn : zs.length = n) (hbig : n ≤ maxLen) (hc : CellsAt w A (intsV zs)) :
    Calls Try.prog 106 #[.int .i64 lo, .int .i64 hi, .slice A n cap] w fun e w' => e = .returned (.bool (allIn lo hi zs)) ∧ w = w' := by
  subst hn
  by_cases h0 : 0 < zs.length
  · obtain ⟨b, o, rfl, h1⟩ := hc (by rw [intsV_length]; exact h0)
    exact within64_any lo hi b o cap zs w (by unfold maxLen at hbig; omega) fun j hj => by rw [h1 j (by rw [intsV_length]; exact hj), intsV_at _ _ hj]; simp [List.getD, hj]
  · have e : zs = [] := List.length_eq_zero_iff.1 (by omega)
    subst e
    exact within64_none lo hi A cap w

theorem within64_free (lo hi a : Int) (b : Nat) (w : World) (hc : w.cell? ⟨b, 0, none⟩ = some (.int .i64 a)) :
    Calls Try.prog 106 #[.int .i64 lo, .int .i64 hi, .slice (some ⟨b, 0, none⟩) 1 1] w
      fun e w' => e = .returned (.bool (inB a lo hi)) ∧ w = w' := by
  have e := within64_any lo hi b 0 1 [a] w (by simp) (fun j hj => by
    match j, hj with
    | 0, _ => simpa using hc)
  rw [allIn_one] at e
  exact e
theorem one64Free (n : Nat) (lo hi a : Int) (w : World) (t : TypeId) (hn : n = w.heap.size) :
    Calls Try.prog 106 #[.int .i64 lo, .int .i64 hi, .slice (some ⟨n, 0, none⟩) 1 1] (w.alloc (.cells #[.int .i64 a] t))
      fun e w' => e = .returned (.bool (inB a lo hi)) ∧ Below w.heap.size w w' := by
  subst hn
  exact (within64_free lo hi a w.heap.size (w.alloc (.cells #[.int .i64 a] t)) (by simp)).mono fun _ _ ⟨he, hw⟩ => ⟨he, hw ▸ (Below.refl _ _).alloc (Nat.le_refl _) _⟩
theorem oneInt (n : Nat) (lo hi a : Int) (w : World) (t : TypeId) (hn : n = w.heap.size) (h : lo ≤ hi) :
    Calls Try.prog 153 #[.int .i64 lo, .int .i64 hi, .slice (some ⟨n, 0, none⟩) 1 1] (w.alloc (.cells #[.int .i64 a] t))
      fun e w' => e = .returned (.bool (inB a lo hi)) ∧ Below w.heap.size w w' := by
  subst hn
  exact (withinInt_one lo hi a w t h).mono fun _ _ ⟨he, hw⟩ => ⟨he, hw ▸ (Below.refl _ _).alloc (Nat.le_refl _) _⟩
end Go.Proofs.Ytdfohpdhghdpkaa
