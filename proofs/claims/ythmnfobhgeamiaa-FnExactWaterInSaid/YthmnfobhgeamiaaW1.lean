/-
  sort.Search, called with a function that never goes back to false; the program's two tables and the place on one of them.
-/
import Derived.Test.YthmnfobhgeamiaaW0
import Derived.Test.YthmnfobhgeamiaaB1
import Derived.Laws.Tables
import Derived.Deep.WholeRow
import Derived.Deep.Cut
import Derived.Deep.LoopGhost
import Derived.RegionTactic
import Derived.Shelf.Abstract
namespace Go.Proofs.Ythmnfobhgeamiaa
open Go.ChangeShapes Go.WideShapes Go.ChangeAt Go.RowKit Go.Shelf

theorem search_any (g : Nat) (cb : Array Value) (n : Nat) (p : Nat → Bool) (w : World) (eg : ∀ args w, (callFunc g args).run Try.prog w = .ok (.enter g args) w) (hn : n < 4611686018427387904)
    (hf : ∀ (wr : World) (i : Nat), i < n → Below w.heap.size w wr → Calls Try.prog g (#[.int .i64 i] ++ cb) wr fun e w' => e = .returned (.bool (p i)) ∧ Below wr.heap.size wr w')
    (hm : ∀ a b, a ≤ b → b < n → p a = true → p b = true) :
    Calls Try.prog 79 #[.int .i64 n, .func (.func g) #[] cb] w fun e w' => e = .returned (.int .i64 (countF p n)) ∧ Below w.heap.size w w' := by
  have HF := Lib.hid hf
  have HC := Lib.hid (countF_spec p n hm)
  have HM := Lib.hid hm
  clear hf hm
  generalize countF p n = c at *
  go_enter Try.func79, Try.ntmps79
  go_wp2
  go_loopw [5, 6] (fun s5 s6 wr => ∃ lo hi : Nat, s5 = .int .i64 lo ∧ s6 = .int .i64 hi ∧ lo ≤ hi ∧ hi ≤ n ∧ Below w.heap.size w wr ∧
    Hid ((∀ t, t < lo → p t = false) ∧ (∀ t, hi ≤ t → t < n → p t = true))) (fun s5 s6 _ => (intOf s6).toNat - (intOf s5).toNat)
  case atStart => exact ⟨0, n, rfl, rfl, Nat.zero_le _, Nat.le_refl _, Below.refl _ _, Lib.hid ⟨fun t h => by omega, fun t h1 h2 => by omega⟩⟩
  case round =>
    obtain ⟨lo, hi, rfl, rfl, hlh, hin, hb, I⟩ := hrel
    by_cases hlt : lo < hi
    · have hc := HF.out wr ((lo + hi) / 2) (by omega) hb
      rw [show (((lo + hi) / 2 : Nat) : Int) = ((lo : Int) + (hi : Int)) / 2 by omega] at hc
      cases hp : p ((lo + hi) / 2) <;> rw [hp] at hc
      · have HP := Lib.hid hp
        clear hp
        go_wp2_with (go_at_fn g; refine hc.mono ?_; rintro e w' ⟨rfl, hb2⟩)
        go_roundw
        case rel => exact ⟨(lo + hi) / 2 + 1, hi, by rw [show ((lo : Int) + (hi : Int)) / 2 + 1 = (((lo + hi) / 2 + 1 : Nat) : Int) by omega], rfl, by omega, hin, bnext hb hb2, Lib.hid ⟨fun t ht => (by
            cases h : p t with
            | false => rfl
            | true => (have := HM.out t ((lo + hi) / 2) (by omega) (by omega) h; rw [HP.out] at this; exact absurd this (by simp))), I.out.2⟩⟩
        case measure => simp [intOf]; omega
      · have HP := Lib.hid hp
        clear hp
        go_wp2_with (go_at_fn g; refine hc.mono ?_; rintro e w' ⟨rfl, hb2⟩)
        go_roundw
        case rel => exact ⟨lo, (lo + hi) / 2, rfl, by rw [show ((lo : Int) + (hi : Int)) / 2 = (((lo + hi) / 2 : Nat) : Int) by omega], by omega, by omega, bnext hb hb2, Lib.hid ⟨I.out.1, fun t a b => HM.out ((lo + hi) / 2) t a b HP.out⟩⟩
        case measure => simp [intOf]; omega
    · have e : lo = c := by
        obtain ⟨c1, c2, c3⟩ := HC.out
        have i1 := I.out.1
        have i2 := I.out.2
        by_cases h1 : c < lo
        · have a := i1 c h1
          have b := c3 c (Nat.le_refl _) (by omega)
          rw [a] at b
          cases b
        · by_cases h2 : lo < c
          · have a := c2 lo h2
            have b := i2 lo (by omega) (by omega)
            rw [a] at b
            cases b
          · omega
      subst e
      go_wp2
      go_ret
      exact ⟨rfl, hb⟩

/-- the cells of a line through points -/
def ptsV (l : List (Int × Int)) : Array Value := (l.flatMap fun p => [Value.int .i64 p.1, Value.int .i64 p.2]).toArray
theorem ptsV_at (l : List (Int × Int)) (i : Nat) (h : i < l.length) : (ptsV l)[i * 2]? = some (.int .i64 (l.getD i (0, 0)).1) ∧ (ptsV l)[i * 2 + 1]? = some (.int .i64 (l.getD i (0, 0)).2) := by
  unfold ptsV
  induction l generalizing i with
  | nil => exact absurd h (by simp)
  | cons p r ih =>
    cases i with
    | zero => exact ⟨rfl, rfl⟩
    | succ k =>
      have := ih k (by simpa using h)
      simp only [List.getElem?_toArray] at this ⊢
      simp only [List.flatMap_cons, show (k + 1) * 2 = k * 2 + 2 by omega, show k * 2 + 2 + 1 = k * 2 + 1 + 2 by omega, List.cons_append, List.nil_append, List.getElem?_cons_succ, List.getD_cons_succ]
      exact this
theorem wpList_nil_to {P : Program} {ops : Array Oper} {Q : Exit → Act → World → Prop} {a b : Act} {w : World} (e : a = b) (h : Q .normal b w) : wpList P ops Q [] a w := by
  subst e
  exact wpList_nil h
set_option maxRecDepth 100000 in
theorem densities_any (w : World) : Calls Try.prog 44 #[] w fun e w' => e = .returned (.agg (ptsV densPts)) ∧ Below w.heap.size w w' := by
  go_enter Try.func44, Try.ntmps44
  go_upto_region 1 with (fail)
  go_step
  iterate 10 refine wpList_build rfl 41 _ rfl (by kernel_rfl) ?_
  refine wpList_build rfl 43 _ rfl (by kernel_rfl) ?_
  refine wpList_store_row rfl 43 _ _ rfl w.heap.size (ptsV densPts) (by kernel_rfl) (by kernel_rfl) 43 _ (heap_alloc_new w _) (by kernel_rfl) (by kernel_rfl) (by kernel_rfl) ?_
  rw [World.setRow_alloc_new]
  refine wpList_nil_to (b := ⟨#[Value.pointer (some ⟨w.heap.size, 0, none⟩), Value.agg #[.int .i64 0, .int .i64 99984], Value.agg #[.int .i64 2000, .int .i64 99820], Value.agg #[.int .i64 4000, .int .i64 99220], Value.agg #[.int .i64 6000, .int .i64 98320], Value.agg #[.int .i64 8000, .int .i64 97180], Value.agg #[.int .i64 10000, .int .i64 95835], Value.agg #[.int .i64 12000, .int .i64 94310], Value.agg #[.int .i64 14000, .int .i64 92610], Value.agg #[.int .i64 16000, .int .i64 90745], Value.agg #[.int .i64 18000, .int .i64 88700], Value.agg (ptsV densPts)], []⟩) (by kernel_rfl) ?_
  go_wp2
  exact bodyPost_ret (results_cell_row Try.results44 _ _ w.heap.size 43 (ptsV densPts) (0, 0) _ rfl (heap_alloc_new w _) Try.underlying43 rfl (by kernel_rfl)) rfl ⟨rfl, (Below.refl _ _).alloc (Nat.le_refl _) _⟩
set_option maxRecDepth 100000 in
theorem boilingPoints_any (w : World) : Calls Try.prog 49 #[] w fun e w' => e = .returned (.agg (ptsV boilPts)) ∧ Below w.heap.size w w' := by
  go_enter Try.func49, Try.ntmps49
  go_upto_region 1 with (fail)
  go_step
  iterate 10 refine wpList_build rfl 41 _ rfl (by kernel_rfl) ?_
  refine wpList_build rfl 43 _ rfl (by kernel_rfl) ?_
  refine wpList_store_row rfl 43 _ _ rfl w.heap.size (ptsV boilPts) (by kernel_rfl) (by kernel_rfl) 43 _ (heap_alloc_new w _) (by kernel_rfl) (by kernel_rfl) (by kernel_rfl) ?_
  rw [World.setRow_alloc_new]
  refine wpList_nil_to (b := ⟨#[Value.pointer (some ⟨w.heap.size, 0, none⟩), Value.agg #[.int .i64 1000, .int .i64 700], Value.agg #[.int .i64 2000, .int .i64 1750], Value.agg #[.int .i64 10000, .int .i64 4580], Value.agg #[.int .i64 50000, .int .i64 8135], Value.agg #[.int .i64 101325, .int .i64 9961], Value.agg #[.int .i64 200000, .int .i64 12023], Value.agg #[.int .i64 400000, .int .i64 14361], Value.agg #[.int .i64 600000, .int .i64 15883], Value.agg #[.int .i64 1000000, .int .i64 17988], Value.agg #[.int .i64 1200000, .int .i64 18796], Value.agg (ptsV boilPts)], []⟩) (by kernel_rfl) ?_
  go_wp2
  exact bodyPost_ret (results_cell_row Try.results49 _ _ w.heap.size 43 (ptsV boilPts) (0, 0) _ rfl (heap_alloc_new w _) Try.underlying43 rfl (by kernel_rfl)) rfl ⟨rfl, (Below.refl _ _).alloc (Nat.le_refl _) _⟩

end Go.Proofs.Ythmnfobhgeamiaa
