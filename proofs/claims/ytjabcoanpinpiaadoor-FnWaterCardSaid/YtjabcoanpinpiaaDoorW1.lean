/-
  sort.Search, called with a function that never goes back to false; the program's two tables and the place on one of them.
-/
import Derived.Test.YtjabcoanpinpiaaDoorW0
import Derived.Test.YtjabcoanpinpiaaDoorB1
import Derived.Laws.Tables
import Derived.Deep.WholeRow
import Derived.Deep.Cut
import Derived.Deep.LoopGhost
import Derived.RegionTactic
import Derived.Shelf.Abstract
namespace Go.Proofs.YtjabcoanpinpiaaDoor
open Go.ChangeShapes Go.WideShapes Go.ChangeAt Go.RowKit Go.Shelf

theorem search_any (g : Nat) (cb : Array Value) (n : Nat) (p : Nat → Bool) (w : World) (eg : ∀ args w, (callFunc g args).run Tryd.prog w = .ok (.enter g args) w) (hn : n < 4611686018427387904)
    (hf : ∀ (wr : World) (i : Nat), i < n → Below w.heap.size w wr → Calls Tryd.prog g (#[.int .i64 i] ++ cb) wr fun e w' => e = .returned (.bool (p i)) ∧ Below wr.heap.size wr w')
    (hm : ∀ a b, a ≤ b → b < n → p a = true → p b = true) :
    Calls Tryd.prog 34 #[.int .i64 n, .func (.func g) #[] cb] w fun e w' => e = .returned (.int .i64 (countF p n)) ∧ Below w.heap.size w w' := by
  have HF := Lib.hid hf
  have HC := Lib.hid (countF_spec p n hm)
  have HM := Lib.hid hm
  clear hf hm
  generalize countF p n = c at *
  go_enter Tryd.func34, Tryd.ntmps34
  go_wp2
  go_loopw [5, 6] (fun s5 s6 wr => ∃ lo hi : Nat, s5 = .int .i64 lo ∧ s6 = .int .i64 hi ∧ lo ≤ hi ∧ hi ≤ n ∧ Below w.heap.size w wr ∧
    Hid ((∀ t, t < lo → p t = false) ∧ (∀ t, hi ≤ t → t < n → p t = true))) (fun s5 s6 _ => (intOf s6).toNat - (intOf s5).toNat)
  case atStart => exact ⟨0, n, rfl, rfl, Nat.zero_le _, Nat.le_refl _, Below.refl _ _, Lib.hid ⟨fun t h => by omega, fun t h1 h2 => by omega⟩⟩
  case round =>
    obtain ⟨lo, hi, rfl, rfl, hlh, hin, hb, I⟩ := hrel
    by_cases hlt : lo < hi
    · have hc := HF.out wr ((lo + hi) / 2) (by omega) hb
      rw [show (((lo + hi) / 2 : Nat) : Int) = ((lo : Int) + (hi : Int)) / 2 by omega] at hc
      cases hp : p ((lo + hi) / 2) <;> rw [hp] at hc
      · have HP := Lib.hid hp
        clear hp
        go_wp2_with (go_at_fn g; refine hc.mono ?_; rintro e w' ⟨rfl, hb2⟩)
        go_roundw
        case rel => exact ⟨(lo + hi) / 2 + 1, hi, by rw [show ((lo : Int) + (hi : Int)) / 2 + 1 = (((lo + hi) / 2 + 1 : Nat) : Int) by omega], rfl, by omega, hin, bnext hb hb2, Lib.hid ⟨fun t ht => (by
            cases h : p t with
            | false => rfl
            | true => (have := HM.out t ((lo + hi) / 2) (by omega) (by omega) h; rw [HP.out] at this; exact absurd this (by simp))), I.out.2⟩⟩
        case measure => simp [intOf]; omega
      · have HP := Lib.hid hp
        clear hp
        go_wp2_with (go_at_fn g; refine hc.mono ?_; rintro e w' ⟨rfl, hb2⟩)
        go_roundw
        case rel => exact ⟨lo, (lo + hi) / 2, rfl, by rw [show ((lo : Int) + (hi : Int)) / 2 = (((lo + hi) / 2 : Nat) : Int) by omega], by omega, by omega, bnext hb hb2, Lib.hid ⟨I.out.1, fun t a b => HM.out ((lo + hi) / 2) t a b HP.out⟩⟩
        case measure => simp [intOf]; omega
    · have e : lo = c := by
        obtain ⟨c1, c2, c3⟩ := HC.out
        have i1 := I.out.1
        have i2 := I.out.2
        by_cases h1 : c < lo
        · have a := i1 c h1
          have b := c3 c (Nat.le_refl _) (by omega)
          rw [a] at b
          cases b
        · by_cases h2 : lo < c
          · have a := c2 lo h2
            have b := i2 lo (by omega) (by omega)
            rw [a] at b
            cases b
          · omega
      subst e
      go_wp2
      go_ret
      exact ⟨rfl, hb⟩

/-- the cells of a line through points -/
def ptsV (l : List (Int × Int)) : Array Value := (l.flatMap fun p => [Value.int .i64 p.1, Value.int .i64 p.2]).toArray
theorem ptsV_at (l : List (Int × Int)) (i : Nat) (h : i < l.length) : (ptsV l)[i * 2]? = some (.int .i64 (l.getD i (0, 0)).1) ∧ (ptsV l)[i * 2 + 1]? = some (.int .i64 (l.getD i (0, 0)).2) := by
  unfold ptsV
  induction l generalizing i with
  | nil => exact absurd h (by simp)
  | cons p r ih =>
    cases i with
    | zero => exact ⟨rfl, rfl⟩
    | succ k =>
      have := ih k (by simpa using h)
      simp only [List.getElem?_toArray] at this ⊢
      simp only [List.flatMap_cons, show (k + 1) * 2 = k * 2 + 2 by omega, show k * 2 + 2 + 1 = k * 2 + 1 + 2 by omega, List.cons_append, List.nil_append, List.getElem?_cons_succ, List.getD_cons_succ]
      exact this
theorem wpList_nil_to {P : Program} {ops : Array Oper} {Q : Exit → Act → World → Prop} {a b : Act} {w : World} (e : a = b) (h : Q .normal b w) : wpList P ops Q [] a w := by
  subst e
  exact wpList_nil h
set_option maxRecDepth 100000 in
theorem densities_any (w : World) : Calls Tryd.prog 19 #[] w fun e w' => e = .returned (.agg (ptsV densPts)) ∧ Below w.heap.size w w' := by
  go_enter Tryd.func19, Tryd.ntmps19
  go_upto_region 1 with (fail)
  go_step
  iterate 10 refine wpList_build rfl 40 _ rfl (by kernel_rfl) ?_
  refine wpList_build rfl 42 _ rfl (by kernel_rfl) ?_
  refine wpList_store_row rfl 42 _ _ rfl w.heap.size (ptsV densPts) (by kernel_rfl) (by kernel_rfl) 42 _ (heap_alloc_new w _) (by kernel_rfl) (by kernel_rfl) (by kernel_rfl) ?_
  rw [World.setRow_alloc_new]
  refine wpList_nil_to (b := ⟨#[Value.pointer (some ⟨w.heap.size, 0, none⟩), Value.agg #[.int .i64 0, .int .i64 99984], Value.agg #[.int .i64 2000, .int .i64 99820], Value.agg #[.int .i64 4000, .int .i64 99220], Value.agg #[.int .i64 6000, .int .i64 98320], Value.agg #[.int .i64 8000, .int .i64 97180], Value.agg #[.int .i64 10000, .int .i64 95835], Value.agg #[.int .i64 12000, .int .i64 94310], Value.agg #[.int .i64 14000, .int .i64 92610], Value.agg #[.int .i64 16000, .int .i64 90745], Value.agg #[.int .i64 18000, .int .i64 88700], Value.agg (ptsV densPts)], []⟩) (by kernel_rfl) ?_
  go_wp2
  exact bodyPost_ret (results_cell_row Tryd.results19 _ _ w.heap.size 42 (ptsV densPts) (0, 0) _ rfl (heap_alloc_new w _) Tryd.underlying42 rfl (by kernel_rfl)) rfl ⟨rfl, (Below.refl _ _).alloc (Nat.le_refl _) _⟩
set_option maxRecDepth 100000 in
theorem boilingPoints_any (w : World) : Calls Tryd.prog 22 #[] w fun e w' => e = .returned (.agg (ptsV boilPts)) ∧ Below w.heap.size w w' := by
  go_enter Tryd.func22, Tryd.ntmps22
  go_upto_region 1 with (fail)
  go_step
  iterate 10 refine wpList_build rfl 40 _ rfl (by kernel_rfl) ?_
  refine wpList_build rfl 42 _ rfl (by kernel_rfl) ?_
  refine wpList_store_row rfl 42 _ _ rfl w.heap.size (ptsV boilPts) (by kernel_rfl) (by kernel_rfl) 42 _ (heap_alloc_new w _) (by kernel_rfl) (by kernel_rfl) (by kernel_rfl) ?_
  rw [World.setRow_alloc_new]
  refine wpList_nil_to (b := ⟨#[Value.pointer (some ⟨w.heap.size, 0, none⟩), Value.agg #[.int .i64 1000, .int .i64 700], Value.agg #[.int .i64 2000, .int .i64 1750], Value.agg #[.int .i64 10000, .int .i64 4580], Value.agg #[.int .i64 50000, .int .i64 8135], Value.agg #[.int .i64 101325, .int .i64 9961], Value.agg #[.int .i64 200000, .int .i64 12023], Value.agg #[.int .i64 400000, .int .i64 14361], Value.agg #[.int .i64 600000, .int .i64 15883], Value.agg #[.int .i64 1000000, .int .i64 17988], Value.agg #[.int .i64 1200000, .int .i64 18796], Value.agg (ptsV boilPts)], []⟩) (by kernel_rfl) ?_
  go_wp2
  exact bodyPost_ret (results_cell_row Tryd.results22 _ _ w.heap.size 42 (ptsV boilPts) (0, 0) _ rfl (heap_alloc_new w _) Tryd.underlying42 rfl (by kernel_rfl)) rfl ⟨rfl, (Below.refl _ _).alloc (Nat.le_refl _) _⟩

/-- the test of a place: is it at x or beyond? -/
theorem place_any (b c i : Nat) (h : i < 10) (x y : Int) (w : World) (h1 : w.cell? ⟨b, i * 2, none⟩ = some (.int .i64 y)) (h2 : w.cell? ⟨c, 0, none⟩ = some (.int .i64 x)) :
    Calls Tryd.prog 35 #[.int .i64 i, .pointer (some ⟨b, 0, none⟩), .pointer (some ⟨c, 0, none⟩)] w fun e w' => e = .returned (.bool (decide (x ≤ y))) ∧ Below w.heap.size w w' := by
  go_enter Tryd.func35, Tryd.ntmps35
  go_wp2
  go_quiet (fail)
  go_wp2
  go_ret
  exact ⟨rfl, below_drewN (Below.refl _ _) _⟩

theorem at_any (l : List (Int × Int)) (x : Int) (w : World) (hl : l.length = 10) (hr : ∀ i j, i ≤ j → j < 10 → (l.getD i (0, 0)).1 ≤ (l.getD j (0, 0)).1)
    (hb : ∀ i, i < 10 → (-536870912 ≤ (l.getD i (0, 0)).1 ∧ (l.getD i (0, 0)).1 ≤ 536870912) ∧ (-536870912 ≤ (l.getD i (0, 0)).2 ∧ (l.getD i (0, 0)).2 ≤ 536870912)) :
    Calls Tryd.prog 20 #[.agg (ptsV l), .int .i64 x] w fun e w' => e = .returned (.int .i64 (curveL l x)) ∧ Below w.heap.size w w' := by
  have hP := fun i (h : i < 10) => ptsV_at l i (by omega)
  have eg : ∀ args w, (callFunc 35 args).run Tryd.prog w = .ok (.enter 35 args) w := enters_of Tryd.func35 (by kernel_rfl) rfl
  obtain ⟨W0, hW0⟩ : ∃ W0, W0 = (w.alloc (.cells (ptsV l) 42)).alloc (.cells #[.int .i64 x] 2) := ⟨_, rfl⟩
  have hb1 : Below w.heap.size w W0 := by rw [hW0]; exact ((Below.refl _ _).alloc (Nat.le_refl _) _).alloc (by simp) _
  have c0 : ∀ j, W0.cell? ⟨w.heap.size, j, none⟩ = (ptsV l)[j]? := fun j => by rw [hW0]; simp
  have c1 : W0.cell? ⟨w.heap.size + 1, 0, none⟩ = some (.int .i64 x) := by rw [hW0]; simp
  have hsz : W0.heap.size = w.heap.size + 1 + 1 := by rw [hW0]; simp
  have HW0 := Lib.hid hW0
  clear hW0
  have hl0 : w.heap.size < W0.heap.size := by omega
  have hl1 : w.heap.size + 1 < W0.heap.size := by omega
  have hF := search_any 35 #[.pointer (some ⟨w.heap.size, 0, none⟩), .pointer (some ⟨w.heap.size + 1, 0, none⟩)] 10 (fun i => decide (x ≤ (l.getD i (0, 0)).1)) W0 eg (by omega)
    (fun wr i hi hbr => place_any w.heap.size (w.heap.size + 1) i hi x (l.getD i (0, 0)).1 wr (by rw [hbr.cell (p := ⟨w.heap.size, i * 2, none⟩) hl0, c0, (hP i hi).1]) (by rw [hbr.cell (p := ⟨w.heap.size + 1, 0, none⟩) hl1, c1]))
    (fun a b hab hb2 ha => by
      have := hr a b hab hb2
      simp only [decide_eq_true_eq] at ha ⊢
      omega)
  have hS := countF_spec (fun i => decide (x ≤ (l.getD i (0, 0)).1)) 10 (fun a b hab hb2 ha => by
      have := hr a b hab hb2
      simp only [decide_eq_true_eq] at ha ⊢
      omega)
  generalize countF (fun i => decide (x ≤ (l.getD i (0, 0)).1)) 10 = c at *
  obtain ⟨s1, s2, s3⟩ := hS
  obtain ⟨k, hk, hk9⟩ : ∃ k : Nat, clampI 1 9 (c : Int) = (k : Int) + 1 ∧ k + 1 ≤ 9 ∧ (k + 1 = c ∨ c ≤ 1 ∧ k = 0 ∨ c = 10 ∧ k = 8) := by
    by_cases h1 : c ≤ 1
    · exact ⟨0, by unfold clampI; omega, by omega, by omega⟩
    · by_cases h2 : c = 10
      · exact ⟨8, by unfold clampI; omega, by omega, by omega⟩
      · exact ⟨c - 1, by unfold clampI; omega, by omega, by omega⟩
  have hC := curve_at l x k (by omega) (fun j a b => by
    have := s2 j (by omega)
    simp only [decide_eq_false_iff_not] at this
    omega) (by
    by_cases h : c ≤ 9
    · have := s3 (k + 1) (by omega) (by omega)
      simp only [decide_eq_true_eq] at this
      exact .inl this
    · exact .inr (by omega))
  obtain ⟨p1, p2⟩ := hP k (by omega)
  obtain ⟨p3, p4⟩ := hP (k + 1) (by omega)
  obtain ⟨⟨b1, b2⟩, ⟨b3, b4⟩⟩ := hb k (by omega)
  obtain ⟨⟨b5, b6⟩, ⟨b7, b8⟩⟩ := hb (k + 1) (by omega)
  have hcl : ∀ wx, Calls Tryd.prog 36 #[.int .i64 1, .int .i64 9, .int .i64 c] wx fun e w' => e = .returned (.int .i64 ((k : Int) + 1)) ∧ wx = w' := fun wx => by
    have := clampInt_any 1 9 (c : Int) wx
    rw [hk] at this
    exact this
  have hfin := fun wx => blend_any (l.getD k (0, 0)).1 (l.getD k (0, 0)).2 (l.getD (k + 1) (0, 0)).1 (l.getD (k + 1) (0, 0)).2 x wx ⟨b1, b2⟩ ⟨b3, b4⟩ ⟨b5, b6⟩ ⟨b7, b8⟩
  rw [← hC] at hfin
  generalize curveL l x = R at *
  generalize (l.getD k (0, 0)).1 = x0 at *
  generalize (l.getD k (0, 0)).2 = y0 at *
  generalize (l.getD (k + 1) (0, 0)).1 = x1 at *
  generalize (l.getD (k + 1) (0, 0)).2 = y1 at *
  have HFin := Lib.hid hfin
  have HCl := Lib.hid hcl
  have HS := Lib.hid hF
  have HK := Lib.hid hk9.2
  have hk8 : k + 1 ≤ 9 := hk9.1
  have q1 := (c0 (k * 2)).trans p1
  have q2 := (c0 (k * 2 + 1)).trans p2
  have q3 := (c0 ((k + 1) * 2)).trans p3
  have q4 := (c0 ((k + 1) * 2 + 1)).trans p4
  have Q := Lib.hid (And.intro q1 (And.intro q2 (And.intro q3 (And.intro q4 c1))))
  have Hsz := Lib.hid hsz
  clear hfin hcl hF hk9 q1 q2 q3 q4 c0 c1 p1 p2 p3 p4 hC s1 s2 s3 hP hr hb hk hl eg hsz
  go_enter Tryd.func20, Tryd.ntmps20
  go_wp2_with fail
  rw [← HW0.out]
  refine HS.out.mono ?_
  rintro e w1 ⟨rfl, hb2⟩
  have hsz1 : w.heap.size + 1 + 1 ≤ w1.heap.size := Hsz.out ▸ hb2.size
  have HB := Lib.hid hb2
  obtain ⟨q1, q2, q3, q4, c1⟩ := Q.out
  have d1 := (hb2.cell (p := ⟨w.heap.size, k * 2, none⟩) hl0).trans q1
  have d2 := (hb2.cell (p := ⟨w.heap.size, k * 2 + 1, none⟩) hl0).trans q2
  have d3 := (hb2.cell (p := ⟨w.heap.size, (k + 1) * 2, none⟩) hl0).trans q3
  have d4 := (hb2.cell (p := ⟨w.heap.size, (k + 1) * 2 + 1, none⟩) hl0).trans q4
  have d5 := (hb2.cell (p := ⟨w.heap.size + 1, 0, none⟩) hl1).trans c1
  clear q1 q2 q3 q4 c1 hb2
  have m1 : w.heap.size < w1.heap.size := by omega
  have m2 : w.heap.size < w1.heap.size + 1 := by omega
  have m3 : w.heap.size + 1 < w1.heap.size := by omega
  have m4 : w.heap.size + 1 < w1.heap.size + 1 := by omega
  go_wp2_with fail
  refine (HCl.out _).mono ?_
  rintro e w2 ⟨rfl, rfl⟩
  go_wp2_with fail
  go_region
  all_goals go_wp2_with (go_at_call 37; refine (HFin.out _).mono ?_; rintro e w' ⟨rfl, ⟨n, rfl⟩⟩)
  all_goals go_ret
  all_goals exact ⟨rfl, below_drewN (hb1.trans ((HB.out.mono (by omega)).trans (((Below.refl _ _).alloc (by omega) _).alloc (by simp; omega) _) : Below w.heap.size W0 _)) _⟩
end Go.Proofs.YtjabcoanpinpiaaDoor
