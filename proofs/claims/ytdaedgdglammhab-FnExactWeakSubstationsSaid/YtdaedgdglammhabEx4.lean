/-
  The power of an exchanger of the program: the search for the place where what is given off and what can be carried
  meet; how warm its water goes back.
-/
import Derived.Test.YtdaedgdglammhabEx3
namespace Go.Proofs.Ytdaedgdglammhab
open Go.ChangeShapes Go.WideShapes Go.ChangeAt Go.RowKit Go.Shelf

set_option linter.unusedVariables false
set_option linter.unusedSimpArgs false
set_option maxRecDepth 100000
theorem powAsk_any (B C : Nat) (x : Sb) (p q b : Int) (w : World) (hE : ExO w B x p) (hf : w.cell? ⟨C, 0, none⟩ = some (.int .i64 q)) (h : exB x p) (q0 : 0 ≤ q) (q1 : q ≤ 100000) (b0 : 0 ≤ b) (b1 : b ≤ 18000) :
    Calls Try.prog 79 #[.int .i64 b, .pointer (some ⟨B, 0, none⟩), .pointer (some ⟨C, 0, none⟩)] w fun e w' => e = .returned (.int .i64 (carI x.tr x.su x.re p b - givI p q b)) ∧ Below w.heap.size w w' := by
  have HG := Lib.hid (fun W => given_any x p q b W h q0 q1 b0 b1)
  have HC := Lib.hid (fun W => carried_any x p b W h b0 b1)
  have hg := giv_bd p q b (by omega) q1 (by unfold exB at h; omega) (by unfold exB at h; omega)
  have hc := car_bd x.tr x.su x.re p b (by unfold exB at h; omega) (by unfold exB at h; omega) (by unfold exB at h; omega) (by unfold exB at h; omega)
  generalize givI p q b = g at *
  generalize carI x.tr x.su x.re p b = c at *
  have ew : c - g = IntKind.i64.wrap (c - g) := (IntWalk.i64_in _ (by omega)).symm
  have EW := Lib.hid ew
  clear ew
  have ⟨p0, p1, p2, p3, p4, p5⟩ := hE
  have hb : Below w.heap.size w w := Below.refl _ _
  go_enter Try.func79, Try.ntmps79
  go_wp2_with fail
  go_region_held3 (fun w' => w'.cell? ⟨B, 0, none⟩ = some (.string x.id) ∧ w'.cell? ⟨B, 1, none⟩ = some (.int .i64 x.nd) ∧ w'.cell? ⟨B, 2, none⟩ = some (.int .i64 x.tr) ∧ w'.cell? ⟨B, 3, none⟩ = some (.int .i64 x.su) ∧ w'.cell? ⟨B, 4, none⟩ = some (.int .i64 x.re) ∧ w'.cell? ⟨B, 5, none⟩ = some (.int .i64 p) ∧ w'.cell? ⟨C, 0, none⟩ = some (.int .i64 q) ∧ Below w.heap.size w w')
    (first | assumption | exact ⟨p0, p1, p2, p3, p4, p5, hf, below_drewN hb 1⟩ | (go_split_ands; have hq := ExO.next (x := x) (p := p) (b := B) ⟨by assumption, by assumption, by assumption, by assumption, by assumption, by assumption⟩ hb'; exact ⟨hq.1, hq.2.1, hq.2.2.1, hq.2.2.2.1, hq.2.2.2.2.1, hq.2.2.2.2.2, (hb'.cell (World.block_lt_of_cell? _ _ (by assumption))).trans (by assumption), bnext (by assumption) hb'⟩))
    (first | (go_at_call 81; refine (HG.out _).mono ?_; rintro e w' ⟨rfl, hb'⟩) | (go_at_call 80; refine (HC.out _).mono ?_; rintro e w' ⟨rfl, hb'⟩))
  go_wp2
  go_ret
  go_split_ands
  exact ⟨ret_int EW.out.symm, by assumption⟩

theorem run_max3 {P : Program} (w : World) (ts : Array TypeId) (t : TypeId) (x y z : Int) :
    (Builtin.max_ ts t #[.int .i64 x, .int .i64 y, .int .i64 z]).run P w = .ok (.int .i64 (max (max x y) z)) w := by
  have e : (if y > x then y else x) = max x y := by omega
  have e2 : (if z > max x y then z else max x y) = max (max x y) z := by omega
  simp [Builtin.max_, Builtin.max2, e, e2]

def beforeI (re f : Int) : Int := max (f - 1) re
def atF (p f : Int) : Int := min f p
theorem power_any (x : Sb) (p q : Int) (w : World) (h : exB x p) (q0 : 0 ≤ q) (q1 : q ≤ 100000) :
    Calls Try.prog 55 #[.agg #[.string x.id, .int .i64 x.nd, .int .i64 x.tr, .int .i64 x.su, .int .i64 x.re, .int .i64 p], .int .i64 q] w fun e w' => e = .returned (.int .i64 (powI x.tr x.su x.re p q)) ∧ Below w.heap.size w w' := by
  obtain ⟨W0, hW0⟩ : ∃ W0, W0 = (w.alloc (.cells #[.string x.id, .int .i64 x.nd, .int .i64 x.tr, .int .i64 x.su, .int .i64 x.re, .int .i64 p] 60)).alloc (.cells #[.int .i64 q] 2) := ⟨_, rfl⟩
  have hE : ExO W0 w.heap.size x p := by rw [hW0]; exact (ExO.new w x p _).alloc _
  have hf : W0.cell? ⟨w.heap.size + 1, 0, none⟩ = some (.int .i64 q) := by rw [hW0, World.cell?_alloc_at _ _ _ _ (by simp)]; rfl
  have hb : Below w.heap.size w W0 := by rw [hW0]; exact bal (bal (Below.refl _ _) _) _
  have ⟨p0, p1, p2, p3, p4, p5⟩ := hE
  by_cases hlt : p < x.re
  · have hv : powI x.tr x.su x.re p q = 0 := if_pos hlt
    have hl : decide (p < x.re) = true := decide_eq_true hlt
    rw [hv]
    clear hv
    go_enter Try.func55, Try.ntmps55
    go_wp2_with fail
    rw [← hW0]
    go_ret
    exact ⟨rfl, hb⟩
  · have hle : x.re ≤ p := by omega
    have hl : decide (p < x.re) = false := decide_eq_false hlt
    have hx := h
    unfold exB at hx
    -- the search
    have hF : ∀ wr : World, ExO wr w.heap.size x p → wr.cell? ⟨w.heap.size + 1, 0, none⟩ = some (.int .i64 q) →
        Calls Try.prog 78 #[.int .i64 x.re, .int .i64 p, .int .i64 0, .func (.func 79) #[] #[.pointer (some ⟨w.heap.size, 0, none⟩), .pointer (some ⟨w.heap.size + 1, 0, none⟩)]] wr fun e w' => e = .returned (.int .i64 (leastI x.re p 0 (fun b => carI x.tr x.su x.re p b - givI p q b))) ∧ Below wr.heap.size wr w' := fun wr hEr hfr =>
      firstFrom_any 79 #[] #[.pointer (some ⟨w.heap.size, 0, none⟩), .pointer (some ⟨w.heap.size + 1, 0, none⟩)] x.re p 0 _ wr (enters_of Try.func79 (by kernel_rfl) rfl) (by omega) (by omega) (by omega)
        (fun wq b b0 b1 hbq => by
          have := powAsk_any w.heap.size (w.heap.size + 1) x p q b wq (hEr.next hbq) ((hbq.cell (World.block_lt_of_cell? _ _ hfr)).trans hfr) h q0 q1 (by omega) (by omega)
          simpa using this)
        (fun a b _ k _ => by
          have := giv_anti p q a b q0 k
          have := car_mono x.tr x.su x.re p p a b hx.1.1 (Int.le_refl _) k
          show carI x.tr x.su x.re p a - givI p q a ≤ carI x.tr x.su x.re p b - givI p q b
          omega)
    have hL := leastI_spec x.re p 0 (fun b => carI x.tr x.su x.re p b - givI p q b) (by omega) fun a b _ k _ => by
      have := giv_anti p q a b q0 k
      have := car_mono x.tr x.su x.re p p a b hx.1.1 (Int.le_refl _) k
      show carI x.tr x.su x.re p a - givI p q a ≤ carI x.tr x.su x.re p b - givI p q b
      omega
    have hv : powI x.tr x.su x.re p q = crossI x.re p (givI p q) (carI x.tr x.su x.re p) (leastI x.re p 0 (fun b => carI x.tr x.su x.re p b - givI p q b)) := if_neg hlt
    rw [hv]
    clear hv
    obtain ⟨f0, f1, -, -⟩ := hL
    generalize leastI x.re p 0 (fun b => carI x.tr x.su x.re p b - givI p q b) = f at *
    unfold crossI
    rw [topI_max, topI_max, topI_max, lowI_min, lowI_min, lowI_min]
    have HB := Lib.hid (fun W => lesser_any x p q (max (f - 1) x.re) W h q0 q1 (by omega) (by omega))
    have HA := Lib.hid (fun W => lesser_any x p q (min f p) W h q0 q1 (by omega) (by omega))
    have HF := Lib.hid hF
    clear hF
    generalize min (givI p q (max (f - 1) x.re)) (carI x.tr x.su x.re p (max (f - 1) x.re)) = u at *
    generalize min (givI p q (min f p)) (carI x.tr x.su x.re p (min f p)) = v at *
    go_enter Try.func55, Try.ntmps55
    go_wp2_with fail
    rw [← hW0]
    refine (HF.out _ hE hf).mono ?_
    rintro e w1 ⟨rfl, hb'⟩
    have hE := hE.next hb'
    have hf := (hb'.cell (World.block_lt_of_cell? _ _ hf)).trans hf
    have hb := bnext hb hb'
    have ⟨p0, p1, p2, p3, p4, p5⟩ := hE
    clear hb'
    go_wp2_with fail
    go_quiet (fail)
    go_wp2_with fail
    have hE := hE.next (Drawn.below ⟨nq, rfl⟩)
    have hf : (w1.drewN nq).cell? ⟨w.heap.size + 1, 0, none⟩ = some (.int .i64 q) := hf
    have hb := below_drewN hb nq
    have ⟨p0, p1, p2, p3, p4, p5⟩ := hE
    go_region_held3 (fun w' => w'.cell? ⟨w.heap.size, 0, none⟩ = some (.string x.id) ∧ w'.cell? ⟨w.heap.size, 1, none⟩ = some (.int .i64 x.nd) ∧ w'.cell? ⟨w.heap.size, 2, none⟩ = some (.int .i64 x.tr) ∧ w'.cell? ⟨w.heap.size, 3, none⟩ = some (.int .i64 x.su) ∧ w'.cell? ⟨w.heap.size, 4, none⟩ = some (.int .i64 x.re) ∧ w'.cell? ⟨w.heap.size, 5, none⟩ = some (.int .i64 p) ∧ w'.cell? ⟨w.heap.size + 1, 0, none⟩ = some (.int .i64 q) ∧ Below w.heap.size w w')
      (first | assumption | exact ⟨p0, p1, p2, p3, p4, p5, hf, below_drewN hb 1⟩ | (go_split_ands; have hq := ExO.next (x := x) (p := p) (b := w.heap.size) ⟨by assumption, by assumption, by assumption, by assumption, by assumption, by assumption⟩ hb'; exact ⟨hq.1, hq.2.1, hq.2.2.1, hq.2.2.2.1, hq.2.2.2.2.1, hq.2.2.2.2.2, (hb'.cell (World.block_lt_of_cell? _ _ (by assumption))).trans (by assumption), bnext (by assumption) hb'⟩))
      (first | (go_at_call 82; (with_reducible refine (HB.out _).mono ?_); rintro e w' ⟨rfl, hb'⟩) | (go_at_call 82; (with_reducible refine (HA.out _).mono ?_); rintro e w' ⟨rfl, hb'⟩))
    all_goals go_wp2
    all_goals go_ret
    all_goals go_split_ands
    all_goals exact ⟨ret_int (by omega), by assumption⟩
end Go.Proofs.Ytdaedgdglammhab
