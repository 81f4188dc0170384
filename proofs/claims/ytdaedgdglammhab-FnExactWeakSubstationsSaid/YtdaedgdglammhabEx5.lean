/-
  How warm the water of an exchanger of the program goes back: the last temperature at which its power is given off.
-/
import Derived.Test.YtdaedgdglammhabEx4
import Derived.Test.YtdaedgdglammhabLw0
namespace Go.Proofs.Ytdaedgdglammhab
open Go.ChangeShapes Go.WideShapes Go.ChangeAt Go.RowKit Go.Shelf

set_option linter.unusedVariables false
set_option linter.unusedSimpArgs false
set_option maxRecDepth 100000
theorem backAsk_any (B C D : Nat) (x : Sb) (p q k b : Int) (w : World) (hE : ExO w B x p) (hf : w.cell? ⟨C, 0, none⟩ = some (.int .i64 q)) (hk : w.cell? ⟨D, 0, none⟩ = some (.int .i64 k)) (h : exB x p) (q0 : 0 ≤ q) (q1 : q ≤ 100000) (b0 : 0 ≤ b) (b1 : b ≤ 18000) :
    Calls Try.prog 87 #[.int .i64 b, .pointer (some ⟨B, 0, none⟩), .pointer (some ⟨C, 0, none⟩), .pointer (some ⟨D, 0, none⟩)] w fun e w' => e = .returned (.bool (decide (k ≤ givI p q b))) ∧ Below w.heap.size w w' := by
  have HG := Lib.hid (fun W => given_any x p q b W h q0 q1 b0 b1)
  generalize givI p q b = g at *
  have ⟨p0, p1, p2, p3, p4, p5⟩ := hE
  have hb : Below w.heap.size w w := Below.refl _ _
  go_enter Try.func87, Try.ntmps87
  go_wp2_with fail
  go_region_held3 (fun w' => w'.cell? ⟨B, 0, none⟩ = some (.string x.id) ∧ w'.cell? ⟨B, 1, none⟩ = some (.int .i64 x.nd) ∧ w'.cell? ⟨B, 2, none⟩ = some (.int .i64 x.tr) ∧ w'.cell? ⟨B, 3, none⟩ = some (.int .i64 x.su) ∧ w'.cell? ⟨B, 4, none⟩ = some (.int .i64 x.re) ∧ w'.cell? ⟨B, 5, none⟩ = some (.int .i64 p) ∧ w'.cell? ⟨C, 0, none⟩ = some (.int .i64 q) ∧ w'.cell? ⟨D, 0, none⟩ = some (.int .i64 k) ∧ Below w.heap.size w w')
    (first | assumption | exact ⟨p0, p1, p2, p3, p4, p5, hf, hk, below_drewN hb 1⟩ | (go_split_ands; have hq := ExO.next (x := x) (p := p) (b := B) ⟨by assumption, by assumption, by assumption, by assumption, by assumption, by assumption⟩ hb'; exact ⟨hq.1, hq.2.1, hq.2.2.1, hq.2.2.2.1, hq.2.2.2.2.1, hq.2.2.2.2.2, (hb'.cell (World.block_lt_of_cell? _ _ (by assumption))).trans (by assumption), (hb'.cell (World.block_lt_of_cell? _ _ (by assumption))).trans (by assumption), bnext (by assumption) hb'⟩))
    (first | (go_at_call 81; refine (HG.out _).mono ?_; rintro e w' ⟨rfl, hb'⟩))
  all_goals go_wp2
  all_goals go_ret
  all_goals go_split_ands
  all_goals exact ⟨rfl, by assumption⟩

theorem back_any (x : Sb) (p q : Int) (w : World) (h : exB x p) (hle : x.re ≤ p) (q0 : 0 ≤ q) (q1 : q ≤ 100000) :
    Calls Try.prog 59 #[.agg #[.string x.id, .int .i64 x.nd, .int .i64 x.tr, .int .i64 x.su, .int .i64 x.re, .int .i64 p], .int .i64 q] w fun e w' => e = .returned (.int .i64 (backI x.tr x.su x.re p q)) ∧ Below w.heap.size w w' := by
  obtain ⟨W0, hW0⟩ : ∃ W0, W0 = (w.alloc (.cells #[.string x.id, .int .i64 x.nd, .int .i64 x.tr, .int .i64 x.su, .int .i64 x.re, .int .i64 p] 60)).alloc (.cells #[.int .i64 q] 2) := ⟨_, rfl⟩
  have hE : ExO W0 w.heap.size x p := by rw [hW0]; exact (ExO.new w x p _).alloc _
  have hf : W0.cell? ⟨w.heap.size + 1, 0, none⟩ = some (.int .i64 q) := by rw [hW0, World.cell?_alloc_at _ _ _ _ (by simp)]; rfl
  have hb : Below w.heap.size w W0 := by rw [hW0]; exact bal (bal (Below.refl _ _) _) _
  have ⟨p0, p1, p2, p3, p4, p5⟩ := hE
  have HP := Lib.hid (fun W => power_any x p q W h q0 q1)
  have hx := h
  unfold exB at hx
  unfold backI
  generalize powI x.tr x.su x.re p q = k at *
  go_enter Try.func59, Try.ntmps59
  go_wp2_with fail
  rw [← hW0]
  refine (HP.out _).mono ?_
  rintro e w1 ⟨rfl, hb'⟩
  have hE := hE.next hb'
  have hf := (hb'.cell (World.block_lt_of_cell? _ _ hf)).trans hf
  have hb := bnext hb hb'
  clear hb'
  have hk : (w1.alloc (.cells #[.int .i64 k] 2)).cell? ⟨w1.heap.size, 0, none⟩ = some (.int .i64 k) := by rw [World.cell?_alloc_at _ _ _ _ (by simp)]; rfl
  have hE := hE.alloc (.cells #[.int .i64 k] 2)
  have hf : (w1.alloc (.cells #[.int .i64 k] 2)).cell? ⟨w.heap.size + 1, 0, none⟩ = some (.int .i64 q) := ((bal (Below.refl _ _) _).cell (World.block_lt_of_cell? _ _ hf)).trans hf
  have hb := bal hb (.cells #[.int .i64 k] 2)
  have ⟨p0, p1, p2, p3, p4, p5⟩ := hE
  have HL := Lib.hid (lastWith_any 87 #[] #[.pointer (some ⟨w.heap.size, 0, none⟩), .pointer (some ⟨w.heap.size + 1, 0, none⟩), .pointer (some ⟨w1.heap.size, 0, none⟩)] x.re p (fun b => decide (k ≤ givI p q b)) _ (enters_of Try.func87 (by kernel_rfl) rfl) (by omega) (by omega) (by omega)
    (fun wq b b0 b1 hbq => by
      have := backAsk_any w.heap.size (w.heap.size + 1) w1.heap.size x p q k b wq (hE.next hbq) ((hbq.cell (World.block_lt_of_cell? _ _ hf)).trans hf) ((hbq.cell (World.block_lt_of_cell? _ _ hk)).trans hk) h q0 q1 (by omega) (by omega)
      simpa using this)
    (fun a b _ e _ hb => by
      have := giv_anti p q a b q0 e
      simp only [decide_eq_true_eq] at hb ⊢
      omega))
  go_wp2_with fail
  refine HL.out.mono ?_
  rintro e w2 ⟨rfl, hb'⟩
  have hb := bnext hb hb'
  go_wp2
  go_ret
  exact ⟨rfl, hb⟩
end Go.Proofs.Ytdaedgdglammhab
