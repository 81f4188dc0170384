/-
  The height of the lines between points.
-/
import Derived.Test.YthmnfobhgeamiaaW1
import Derived.Deep.QuietTactic
import Derived.BigQuiet
namespace Go.Proofs.Ythmnfobhgeamiaa
open Go.ChangeShapes Go.WideShapes Go.ChangeAt Go.RowKit Go.Shelf

set_option maxRecDepth 100000
set_option linter.unusedVariables false

theorem balW {w a : World} (h : Below w.heap.size w a) (o : Obj) : Below w.heap.size w (a.alloc o) := h.alloc h.size o
theorem atPlaceC_any (bt ot n d : Nat) (p : Int × Int) (bp bx : Nat) (x : Int) (i : Nat) (w : World) (hi : i < n) (p0 : w.cell? ⟨bt, ot + i * 2, none⟩ = some (.int .i64 p.1))
    (c1 : w.cell? ⟨bp, 0, none⟩ = some (.slice (some ⟨bt, ot, none⟩) n d)) (c2 : w.cell? ⟨bx, 0, none⟩ = some (.int .i64 x)) :
    Calls Try.prog 89 #[.int .i64 i, .pointer (some ⟨bp, 0, none⟩), .pointer (some ⟨bx, 0, none⟩)] w fun e w' => e = .returned (.bool (decide (x ≤ p.1))) ∧ Below w.heap.size w w' := by
  go_enter Try.func89, Try.ntmps89
  go_wp2
  go_quiet (fail)
  go_wp2
  go_ret
  exact ⟨rfl, below_drewN (Below.refl _ _) _⟩
theorem pointsC_any (bt ot n d : Nat) (ps : List (Int × Int)) (x : Int) (w : World) (hl : ps.length = n) (hc : ∀ i, i < n → w.cell? ⟨bt, ot + i * 2, none⟩ = some (.int .i64 (ps.getD i (0, 0)).1) ∧ w.cell? ⟨bt, ot + i * 2 + 1, none⟩ = some (.int .i64 (ps.getD i (0, 0)).2)) (hn2 : 2 ≤ n) (hn8 : n ≤ 1000)
    (hr : ∀ i j, i ≤ j → j < n → (ps.getD i (0, 0)).1 ≤ (ps.getD j (0, 0)).1)
    (hb : ∀ i, i < n → (-536870912 ≤ (ps.getD i (0, 0)).1 ∧ (ps.getD i (0, 0)).1 ≤ 536870912) ∧ (-536870912 ≤ (ps.getD i (0, 0)).2 ∧ (ps.getD i (0, 0)).2 ≤ 536870912)) :
    Calls Try.prog 77 #[.slice (some ⟨bt, ot, none⟩) n d, .int .i64 x] w fun e w' => e = .returned (.int .i64 (curveL ps x)) ∧ Below w.heap.size w w' := by
  have eg : ∀ args w, (callFunc 89 args).run Try.prog w = .ok (.enter 89 args) w := enters_of Try.func89 (by kernel_rfl) rfl
  obtain ⟨W0, hW0⟩ : ∃ W0, W0 = (w.alloc (.cells #[.slice (some ⟨bt, ot, none⟩) n d] 60)).alloc (.cells #[.int .i64 x] 2) := ⟨_, rfl⟩
  have hba : Below w.heap.size w (w.alloc (.cells #[.slice (some ⟨bt, ot, none⟩) n d] 60)) := balW (Below.refl _ _) _
  have hb0 : Below w.heap.size w W0 := by rw [hW0]; exact balW hba _
  have hB1 : W0.cell? ⟨w.heap.size, 0, none⟩ = some (.slice (some ⟨bt, ot, none⟩) n d) := by rw [hW0]; simp
  have hB2 : W0.cell? ⟨w.heap.size + 1, 0, none⟩ = some (.int .i64 x) := by rw [hW0]; simp
  have hs1 : w.heap.size < W0.heap.size := by rw [hW0]; simp; omega
  have hs2 : w.heap.size + 1 < W0.heap.size := by rw [hW0]; simp
  have hbt : bt < w.heap.size := World.block_lt_of_cell? _ _ (hc 0 (by omega)).1
  have hsz : W0.heap.size = w.heap.size + 1 + 1 := by rw [hW0]; simp
  have HW0 := Lib.hid hW0
  have HB0 := Lib.hid hb0
  have HBX := Lib.hid (And.intro hB1 hB2)
  have HLN := Lib.hid hl
  have hF := search_any 89 #[.pointer (some ⟨w.heap.size, 0, none⟩), .pointer (some ⟨w.heap.size + 1, 0, none⟩)] n (fun i => decide (x ≤ (ps.getD i (0, 0)).1)) W0 eg (by omega)
    (fun wr i hi hbr => atPlaceC_any bt ot n d (ps.getD i (0, 0)) w.heap.size (w.heap.size + 1) x i wr hi ((bnext hb0 hbr).cell (p := ⟨bt, ot + i * 2, none⟩) hbt |>.trans (hc i hi).1) ((hbr.cell (p := ⟨w.heap.size, 0, none⟩) hs1).trans hB1) ((hbr.cell (p := ⟨w.heap.size + 1, 0, none⟩) hs2).trans hB2))
    (fun a b hab hb2 ha => by
      have := hr a b hab hb2
      simp only [decide_eq_true_eq] at ha ⊢
      omega)
  have hS := countF_spec (fun i => decide (x ≤ (ps.getD i (0, 0)).1)) n (fun a b hab hb2 ha => by
      have := hr a b hab hb2
      simp only [decide_eq_true_eq] at ha ⊢
      omega)
  generalize countF (fun i => decide (x ≤ (ps.getD i (0, 0)).1)) n = c at *
  obtain ⟨s1, s2, s3⟩ := hS
  obtain ⟨m, hm⟩ : ∃ m, n = m + 1 := ⟨n - 1, by omega⟩
  obtain ⟨k, hk, hk9⟩ : ∃ k : Nat, clampI 1 ((n : Int) - 1) (c : Int) = (k : Int) + 1 ∧ k + 1 ≤ m ∧ (k + 1 = c ∨ c ≤ 1 ∧ k = 0 ∨ c = n ∧ k + 1 = m) := by
    by_cases h1 : c ≤ 1
    · exact ⟨0, by unfold clampI; omega, by omega, by omega⟩
    · by_cases h2 : c = n
      · exact ⟨m - 1, by unfold clampI; omega, by omega, by omega⟩
      · exact ⟨c - 1, by unfold clampI; omega, by omega, by omega⟩
  have hC := curve_at ps x k (by omega) (fun j a b => by
    have := s2 j (by omega)
    simp only [decide_eq_false_iff_not] at this
    omega) (by
    by_cases h : c < n
    · have := s3 (k + 1) (by omega) (by omega)
      simp only [decide_eq_true_eq] at this
      exact .inl this
    · exact .inr (by omega))
  have P1 := hc k (by omega)
  have P2 := hc (k + 1) (by omega)
  obtain ⟨⟨b1, b2⟩, ⟨b3, b4⟩⟩ := hb k (by omega)
  obtain ⟨⟨b5, b6⟩, ⟨b7, b8⟩⟩ := hb (k + 1) (by omega)
  have hcl : ∀ wx, Calls Try.prog 90 #[.int .i64 1, .int .i64 ((n : Int) - 1), .int .i64 c] wx fun e w' => e = .returned (.int .i64 ((k : Int) + 1)) ∧ wx = w' := fun wx => by
    have := clampInt_any 1 ((n : Int) - 1) (c : Int) wx
    rw [hk] at this
    exact this
  have hfin := fun wx => blend_any (ps.getD k (0, 0)).1 (ps.getD k (0, 0)).2 (ps.getD (k + 1) (0, 0)).1 (ps.getD (k + 1) (0, 0)).2 x wx ⟨b1, b2⟩ ⟨b3, b4⟩ ⟨b5, b6⟩ ⟨b7, b8⟩
  rw [← hC] at hfin
  generalize curveL ps x = R at *
  generalize ps.getD k (0, 0) = pa at *
  generalize ps.getD (k + 1) (0, 0) = pb at *
  have HFin := Lib.hid hfin
  have HCl := Lib.hid hcl
  have HS := Lib.hid hF
  have hk8 : k + 1 ≤ m := hk9.1
  have hkn : k + 1 < n := by omega
  have HP := Lib.hid (show (W0.cell? ⟨bt, ot + k * 2, none⟩ = some (.int .i64 pa.1) ∧ W0.cell? ⟨bt, ot + k * 2 + 1, none⟩ = some (.int .i64 pa.2)) ∧ (W0.cell? ⟨bt, ot + (k + 1) * 2, none⟩ = some (.int .i64 pb.1) ∧ W0.cell? ⟨bt, ot + (k + 1) * 2 + 1, none⟩ = some (.int .i64 pb.2)) from ⟨⟨(hb0.cell (p := ⟨bt, ot + k * 2, none⟩) hbt).trans P1.1, (hb0.cell (p := ⟨bt, ot + k * 2 + 1, none⟩) hbt).trans P1.2⟩, ⟨(hb0.cell (p := ⟨bt, ot + (k + 1) * 2, none⟩) hbt).trans P2.1, (hb0.cell (p := ⟨bt, ot + (k + 1) * 2 + 1, none⟩) hbt).trans P2.2⟩⟩)
  have hlt0 : bt < w.heap.size := hbt
  have Hsz := Lib.hid hsz
  have x1 := hB1
  have x2 := hB2
  have HS12 := Lib.hid (And.intro hs1 hs2)
  clear hfin hcl hF hk9 hC s1 s2 s3 hr hb hk hl eg hsz P1 P2 hW0 hba hb0 hB1 hB2 hc hm hs1 hs2 hbt
  go_enter Try.func77, Try.ntmps77
  go_wp2_with fail
  rw [← HW0.out]
  refine HS.out.mono ?_
  rintro e w1 ⟨rfl, hb2⟩
  have hsz1 : w.heap.size + 1 + 1 ≤ w1.heap.size := Hsz.out ▸ hb2.size
  have HB := Lib.hid hb2
  have HX1 := Lib.hid (And.intro ((hb2.cell (p := ⟨w.heap.size, 0, none⟩) HS12.out.1).trans HBX.out.1) ((hb2.cell (p := ⟨w.heap.size + 1, 0, none⟩) HS12.out.2).trans HBX.out.2))
  have hbt0 : bt < W0.heap.size := by have := HS12.out.1; omega
  have P1 := And.intro ((hb2.cell (p := ⟨bt, ot + k * 2, none⟩) hbt0).trans HP.out.1.1) ((hb2.cell (p := ⟨bt, ot + k * 2 + 1, none⟩) hbt0).trans HP.out.1.2)
  have P2 := And.intro ((hb2.cell (p := ⟨bt, ot + (k + 1) * 2, none⟩) hbt0).trans HP.out.2.1) ((hb2.cell (p := ⟨bt, ot + (k + 1) * 2 + 1, none⟩) hbt0).trans HP.out.2.2)
  clear x1 x2 hb2 hbt0
  have x1 := HX1.out.1
  have x2 := HX1.out.2
  have ⟨d1, d2⟩ := P1
  have ⟨d3, d4⟩ := P2
  have m1 : w.heap.size < w1.heap.size := by omega
  have m2 : w.heap.size < w1.heap.size + 1 := by omega
  have m3 : w.heap.size + 1 < w1.heap.size := by omega
  have m4 : w.heap.size + 1 < w1.heap.size + 1 := by omega
  have m5 : bt < w1.heap.size := by omega
  have m6 : bt < w1.heap.size + 1 := by omega
  have hi2 : (0 : Int) ≤ (k : Int) + 1 - 1 := by omega
  have hi6 : (n : Int) ≤ 1000 := by omega
  have hi7 : (2 : Int) ≤ (n : Int) := by omega
  go_wp2_with fail
  refine (HCl.out _).mono ?_
  rintro e w2 ⟨rfl, rfl⟩
  go_wp2_with fail
  go_region
  all_goals go_wp2_with (go_at_call 91; refine (HFin.out _).mono ?_; rintro e w' ⟨rfl, ⟨nn, rfl⟩⟩)
  all_goals go_ret
  all_goals exact ⟨rfl, below_drewN (balW (balW (bnext HB0.out HB.out) _) _) _⟩

end Go.Proofs.Ythmnfobhgeamiaa
