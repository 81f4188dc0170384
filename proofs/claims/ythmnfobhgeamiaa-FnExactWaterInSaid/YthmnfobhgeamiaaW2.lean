/-
  The tables of chapter 2: both sides answer the height of one line through points.
-/
import Derived.Test.YthmnfobhgeamiaaW1
import Derived.Test.YthmnfobhgeamiaaWc
namespace Go.Proofs.Ythmnfobhgeamiaa
open Go.ChangeShapes Go.WideShapes Go.ChangeAt Go.RowKit

theorem l02Blend_any (b d : Nat) (l : List (Int × Int)) (x : Int) (w : World) (hl : l.length = 10)
    (hx : ∀ j, j < 10 → w.cell? ⟨b, j, none⟩ = some (.int .i64 (l.getD j (0, 0)).1)) (hy : ∀ j, j < 10 → w.cell? ⟨d, j, none⟩ = some (.int .i64 (l.getD j (0, 0)).2))
    (hb : ∀ i, i < 10 → (-536870912 ≤ (l.getD i (0, 0)).1 ∧ (l.getD i (0, 0)).1 ≤ 536870912) ∧ (-536870912 ≤ (l.getD i (0, 0)).2 ∧ (l.getD i (0, 0)).2 ≤ 536870912)) :
    Calls Try.prog 76 #[.slice (some ⟨b, 0, none⟩) 10 10, .slice (some ⟨d, 0, none⟩) 10 10, .int .i64 x] w fun e w' => e = .returned (.int .i64 (curveL l x)) ∧ Drawn w w' := by
  have HX := Lib.hid hx
  have HY := Lib.hid hy
  have HB := Lib.hid hb
  have HL := Lib.hid hl
  have HC := Lib.hid (fun k a b c => curve_at l x k a b c)
  clear hx hy hb hl
  generalize curveL l x = R at HC ⊢
  go_enter Try.func76, Try.ntmps76
  go_wp2
  go_loop [7] (fun i => ∃ k : Nat, k + 1 ≤ 9 ∧ i = .int .i64 ((k : Int) + 1) ∧ Hid (∀ j, 1 ≤ j → j ≤ k → (l.getD j (0, 0)).1 < x)) (fun i => 10 - (intOf i).toNat)
  case atStart => exact ⟨0, by omega, rfl, Lib.hid fun j a b => by omega⟩
  case round =>
    obtain ⟨k, hk, rfl, I⟩ := hrel
    have g1 := HX.out (k + 1) (by omega)
    by_cases hlt : k + 1 < 9 ∧ (l.getD (k + 1) (0, 0)).1 < x
    · obtain ⟨h1, h2⟩ := hlt
      obtain ⟨y, hyy⟩ : ∃ y, y = (l.getD (k + 1) (0, 0)).1 := ⟨_, rfl⟩
      rw [← hyy] at g1 h2
      have HY2 := Lib.hid hyy
      clear hyy
      go_wp2
      go_round
      case rel => exact ⟨k + 1, by omega, by go_num, Lib.hid fun j a b => by
        by_cases e : j ≤ k
        · exact I.out j a e
        · obtain rfl : j = k + 1 := by omega
          rw [← HY2.out]
          exact h2⟩
      case measure => simp [intOf]; omega
    · have hC := HC.out k (by rw [HL.out]; omega) (I.out) (by
        rw [HL.out]
        by_cases h1 : k + 1 < 9
        · exact .inl (by omega)
        · exact .inr (by omega))
      have g2 := HX.out k (by omega)
      have g3 := HY.out k (by omega)
      have g4 := HY.out (k + 1) (by omega)
      obtain ⟨⟨b1, b2⟩, ⟨b3, b4⟩⟩ := HB.out k (by omega)
      obtain ⟨⟨b5, b6⟩, ⟨b7, b8⟩⟩ := HB.out (k + 1) (by omega)
      have hfin := fun wx => line_any (l.getD k (0, 0)).1 (l.getD k (0, 0)).2 (l.getD (k + 1) (0, 0)).1 (l.getD (k + 1) (0, 0)).2 x wx ⟨b1, b2⟩ ⟨b3, b4⟩ ⟨b5, b6⟩ ⟨b7, b8⟩
      rw [← hC] at hfin
      have hlt' : k + 1 < 9 → ¬ (l.getD (k + 1) (0, 0)).1 < x := fun a b => hlt ⟨a, b⟩
      generalize (l.getD k (0, 0)).1 = x0 at *
      generalize (l.getD k (0, 0)).2 = y0 at *
      generalize (l.getD (k + 1) (0, 0)).1 = x1 at *
      generalize (l.getD (k + 1) (0, 0)).2 = y1 at *
      have HFin := Lib.hid hfin
      clear hfin hC hlt HX HY HB I HC
      by_cases h1 : k + 1 < 9
      · have h2 := hlt' h1
        have HT := Lib.hid hlt'
        clear hlt'
        go_wp2
        go_quiet ((go_at_call 88; exact quiet_same (HFin.out _)))
        go_wp2
        go_ret
        exact ⟨rfl, ⟨_, rfl⟩⟩
      · obtain rfl : k = 8 := by omega
        have HT := Lib.hid hlt'
        clear hlt'
        go_wp2
        go_quiet ((go_at_call 88; exact quiet_same (HFin.out _)))
        go_wp2
        go_ret
        exact ⟨rfl, ⟨_, rfl⟩⟩

theorem densPts_bd : ∀ i, i < 10 → (-536870912 ≤ (densPts.getD i (0, 0)).1 ∧ (densPts.getD i (0, 0)).1 ≤ 536870912) ∧ (-536870912 ≤ (densPts.getD i (0, 0)).2 ∧ (densPts.getD i (0, 0)).2 ≤ 536870912) := by
  intro i h
  match i, h with
  | 0, _ => decide | 1, _ => decide | 2, _ => decide | 3, _ => decide | 4, _ => decide | 5, _ => decide | 6, _ => decide | 7, _ => decide | 8, _ => decide | 9, _ => decide
theorem densPts_up : ∀ i j, i ≤ j → j < 10 → (densPts.getD i (0, 0)).1 ≤ (densPts.getD j (0, 0)).1 := by
  have h : ∀ i j : Fin 10, i.1 ≤ j.1 → (densPts.getD i.1 (0, 0)).1 ≤ (densPts.getD j.1 (0, 0)).1 := by decide
  exact fun i j a b => h ⟨i, by omega⟩ ⟨j, b⟩ a
theorem l02Density_any (x : Int) (w : World) : Calls Try.prog 42 #[.int .i64 x] w fun e w' => e = .returned (.int .i64 (densI x)) ∧ Below w.heap.size w w' := by
  have HF : Hid (∀ wr, wr = (w.alloc (.cells #[.int .i64 0, .int .i64 2000, .int .i64 4000, .int .i64 6000, .int .i64 8000, .int .i64 10000, .int .i64 12000, .int .i64 14000, .int .i64 16000, .int .i64 18000] 2)).alloc (.cells #[.int .i64 99984, .int .i64 99820, .int .i64 99220, .int .i64 98320, .int .i64 97180, .int .i64 95835, .int .i64 94310, .int .i64 92610, .int .i64 90745, .int .i64 88700] 2) → Calls Try.prog 76 #[.slice (some ⟨w.heap.size, 0, none⟩) 10 10, .slice (some ⟨w.heap.size + 1, 0, none⟩) 10 10, .int .i64 x] wr fun e w' => e = .returned (.int .i64 (densI x)) ∧ Drawn wr w') :=
    Lib.hid fun wr hwr => by
      subst hwr
      exact l02Blend_any w.heap.size (w.heap.size + 1) densPts x _ rfl
        (fun j hj => by
          rw [World.cell?_alloc2_first]
          match j, hj with
          | 0, _ => rfl | 1, _ => rfl | 2, _ => rfl | 3, _ => rfl | 4, _ => rfl | 5, _ => rfl | 6, _ => rfl | 7, _ => rfl | 8, _ => rfl | 9, _ => rfl)
        (fun j hj => by
          rw [World.cell?_alloc2_new]
          match j, hj with
          | 0, _ => rfl | 1, _ => rfl | 2, _ => rfl | 3, _ => rfl | 4, _ => rfl | 5, _ => rfl | 6, _ => rfl | 7, _ => rfl | 8, _ => rfl | 9, _ => rfl) densPts_bd
  generalize densI x = R at HF ⊢
  go_enter Try.func42, Try.ntmps42
  go_wp2_with (go_at_call 76; refine (HF.out _ rfl).mono ?_; rintro e w' ⟨rfl, ⟨n, rfl⟩⟩)
  go_ret
  exact ⟨rfl, below_drewN (((Below.refl _ _).alloc (Nat.le_refl _) _).alloc (by simp) _) _⟩
/-- the program's own table: its method at -/
theorem densAt_any (x : Int) (w : World) : Calls Try.prog 45 #[.agg (ptsV densPts), .int .i64 x] w fun e w' => e = .returned (.int .i64 (densI x)) ∧ Below w.heap.size w w' :=
  at_any densPts x w rfl densPts_up densPts_bd
theorem boilPts_bd : ∀ i, i < 10 → (-536870912 ≤ (boilPts.getD i (0, 0)).1 ∧ (boilPts.getD i (0, 0)).1 ≤ 536870912) ∧ (-536870912 ≤ (boilPts.getD i (0, 0)).2 ∧ (boilPts.getD i (0, 0)).2 ≤ 536870912) := by
  intro i h
  match i, h with
  | 0, _ => decide | 1, _ => decide | 2, _ => decide | 3, _ => decide | 4, _ => decide | 5, _ => decide | 6, _ => decide | 7, _ => decide | 8, _ => decide | 9, _ => decide
theorem boilPts_up : ∀ i j, i ≤ j → j < 10 → (boilPts.getD i (0, 0)).1 ≤ (boilPts.getD j (0, 0)).1 := by
  have h : ∀ i j : Fin 10, i.1 ≤ j.1 → (boilPts.getD i.1 (0, 0)).1 ≤ (boilPts.getD j.1 (0, 0)).1 := by decide
  exact fun i j a b => h ⟨i, by omega⟩ ⟨j, b⟩ a
theorem l02Boiling_any (x : Int) (w : World) : Calls Try.prog 47 #[.int .i64 x] w fun e w' => e = .returned (.int .i64 (boilI x)) ∧ Below w.heap.size w w' := by
  have HF : Hid (∀ wr, wr = (w.alloc (.cells #[.int .i64 1000, .int .i64 2000, .int .i64 10000, .int .i64 50000, .int .i64 101325, .int .i64 200000, .int .i64 400000, .int .i64 600000, .int .i64 1000000, .int .i64 1200000] 2)).alloc (.cells #[.int .i64 700, .int .i64 1750, .int .i64 4580, .int .i64 8135, .int .i64 9961, .int .i64 12023, .int .i64 14361, .int .i64 15883, .int .i64 17988, .int .i64 18796] 2) → Calls Try.prog 76 #[.slice (some ⟨w.heap.size, 0, none⟩) 10 10, .slice (some ⟨w.heap.size + 1, 0, none⟩) 10 10, .int .i64 x] wr fun e w' => e = .returned (.int .i64 (boilI x)) ∧ Drawn wr w') :=
    Lib.hid fun wr hwr => by
      subst hwr
      exact l02Blend_any w.heap.size (w.heap.size + 1) boilPts x _ rfl
        (fun j hj => by
          rw [World.cell?_alloc2_first]
          match j, hj with
          | 0, _ => rfl | 1, _ => rfl | 2, _ => rfl | 3, _ => rfl | 4, _ => rfl | 5, _ => rfl | 6, _ => rfl | 7, _ => rfl | 8, _ => rfl | 9, _ => rfl)
        (fun j hj => by
          rw [World.cell?_alloc2_new]
          match j, hj with
          | 0, _ => rfl | 1, _ => rfl | 2, _ => rfl | 3, _ => rfl | 4, _ => rfl | 5, _ => rfl | 6, _ => rfl | 7, _ => rfl | 8, _ => rfl | 9, _ => rfl) boilPts_bd
  generalize boilI x = R at HF ⊢
  go_enter Try.func47, Try.ntmps47
  go_wp2_with (go_at_call 76; refine (HF.out _ rfl).mono ?_; rintro e w' ⟨rfl, ⟨n, rfl⟩⟩)
  go_ret
  exact ⟨rfl, below_drewN (((Below.refl _ _).alloc (Nat.le_refl _) _).alloc (by simp) _) _⟩
/-- the program's own table: its method at -/
theorem boilAt_any (x : Int) (w : World) : Calls Try.prog 45 #[.agg (ptsV boilPts), .int .i64 x] w fun e w' => e = .returned (.int .i64 (boilI x)) ∧ Below w.heap.size w w' :=
  at_any boilPts x w rfl boilPts_up boilPts_bd
end Go.Proofs.Ythmnfobhgeamiaa
