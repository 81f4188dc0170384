/-
  The mean difference of the model; MeanDifference of both sides.
-/
import Derived.Test.YtdaedgdglammhabEx2
namespace Go.Proofs.Ytdaedgdglammhab
open Go.ChangeShapes Go.WideShapes Go.ChangeAt Go.RowKit

set_option linter.unusedVariables false
set_option linter.unusedSimpArgs false
set_option maxRecDepth 100000
theorem okSb_ex {x : Sb} (h : okSb x = true) (p : Int) (p0 : 0 ≤ p) (p1 : p ≤ 18000) : exB x p := by
  have := okSb_bd h
  unfold exB
  omega
theorem l12Mean_any (b o : Nat) (x : Sb) (p q : Int) (w : World) (hx : SbO w b o x) (h : exB x p) (b0 : 0 ≤ q) (b1 : q ≤ 18000) :
    Calls Try.prog 61 #[.pointer (some ⟨b, o, none⟩), .int .i64 p, .int .i64 q] w fun e w' => e = .returned (.int .i64 (meanI x.su x.re p q)) ∧ Drawn w w' := by
  obtain ⟨p0, p1, p2, p3, p4⟩ := hx
  obtain ⟨ht, hs, hr, hp0⟩ := h
  unfold meanI
  have ew : IntKind.i64.wrap (IntKind.i64.wrap (IntKind.i64.wrap (p - x.su) + q) - x.re) = p - x.su + q - x.re := by
    rw [IntWalk.i64_in (p - x.su) (by omega), IntWalk.i64_in (p - x.su + q) (by omega), IntWalk.i64_in _ (by omega)]
  have hN : ∀ W, Calls Try.prog 68 #[.int .i64 (IntKind.i64.wrap (IntKind.i64.wrap (IntKind.i64.wrap (p - x.su) + q) - x.re)), .int .i64 2] W fun e w' => e = .returned (.int .i64 (nearI (p - x.su + q - x.re) 2)) ∧ W = w' := fun W => by
    rw [ew]
    exact l01Div_any _ _ _ (by omega) (by omega) (by omega) (by omega) (by omega)
  have hN2 : ∀ W, Calls Try.prog 68 #[.int .i64 (p - x.su + q - x.re), .int .i64 2] W fun e w' => e = .returned (.int .i64 (nearI (p - x.su + q - x.re) 2)) ∧ W = w' := fun W => l01Div_any _ _ _ (by omega) (by omega) (by omega) (by omega) (by omega)
  have HN := Lib.hid hN
  have HN2 := Lib.hid hN2
  clear hN hN2 ew
  go_enter Try.func61, Try.ntmps61
  go_wp2
  go_quiet ((go_at_call 68; first | exact quiet_same (HN2.out _) | exact quiet_same (HN.out _)))
  go_wp2
  go_ret
  exact ⟨rfl, ⟨_, rfl⟩⟩

def mdV (x : Sb) (p q : Int) : Int := if okSb x && coolB p q then meanI x.su x.re p q else 0
def mdC (x : Sb) (p q : Int) : Int := argC (okSb x) (coolB p q)
theorem coolB_bd {p q : Int} (h : coolB p q = true) : (0 ≤ p ∧ p ≤ 18000) ∧ 0 ≤ q ∧ q ≤ p := by
  unfold coolB at h
  rw [Bool.and_eq_true, inB_iff, inB_iff] at h
  exact h
theorem implMeanDifference_any (x : Sb) (p : Int) (q : Int) (w : World) (hs : x.id.size ≤ maxLen) : Calls Try.prog 24 #[.agg #[.string x.id, .int .i64 x.nd, .int .i64 x.tr, .int .i64 x.su, .int .i64 x.re], .int .i64 p, .int .i64 q] w fun e w' => e = .returned (.tuple #[.int .i64 (mdV x p q), .int .i64 (mdC x p q)]) ∧ Below w.heap.size w w' := by
  by_cases h1 : coolB p q = true
  · skip
    have hr := h1
    by_cases hx : okSb x = true
    · skip
      have HS := Lib.hid (fun W => by have h := substationCode_any x true W hs; rw [hx] at h; exact h)
      have HC0 := Lib.hid (fun W => by have h := isCooling_any p q W; rw [h1] at h; exact h)
      have hv : mdV x p q = meanI x.su x.re p q := by unfold mdV; rw [hx, hr]; rfl
      have hc : mdC x p q = 0 := by unfold mdC; rw [hx, hr]; rfl
      rw [hv, hc]
      clear hv hc
      have hq := coolB_bd hr
      have hE := okSb_ex hx p hq.1.1 hq.1.2
      have HM := Lib.hid (fun W => meanDifference_any x p q W hE (by omega) (by omega))
      clear hr h1
      have hp := SbO.new w x 34
      have ⟨p0, p1, p2, p3, p4⟩ := hp
      have hb : Below w.heap.size w (w.alloc (.cells #[.string x.id, .int .i64 x.nd, .int .i64 x.tr, .int .i64 x.su, .int .i64 x.re] 34)) := bal (Below.refl _ _) _
      go_enter Try.func24, Try.ntmps24
      go_wp2_with fail
      first | (go_region_held3 (fun w' => w'.cell? ⟨w.heap.size, 0, none⟩ = some (.string x.id) ∧ w'.cell? ⟨w.heap.size, 1, none⟩ = some (.int .i64 x.nd) ∧ w'.cell? ⟨w.heap.size, 2, none⟩ = some (.int .i64 x.tr) ∧ w'.cell? ⟨w.heap.size, 3, none⟩ = some (.int .i64 x.su) ∧ w'.cell? ⟨w.heap.size, 4, none⟩ = some (.int .i64 x.re) ∧ Below w.heap.size w w') (first | assumption | exact ⟨p0, p1, p2, p3, p4, below_drewN hb 1⟩ | (go_split_ands; have hq := SbO.next (x := x) ⟨by assumption, by assumption, by assumption, by assumption, by assumption⟩ hb'; exact ⟨hq.1, hq.2.1, hq.2.2.1, hq.2.2.2.1, hq.2.2.2.2, bnext (by assumption) hb'⟩) | exact ⟨(SbO.allocDrew hp _).1, (SbO.allocDrew hp _).2.1, (SbO.allocDrew hp _).2.2.1, (SbO.allocDrew hp _).2.2.2.1, (SbO.allocDrew hp _).2.2.2.2, bal_drew hb _⟩ | (have hq := SbO.next (SbO.allocDrew hp _) hb'; exact ⟨hq.1, hq.2.1, hq.2.2.1, hq.2.2.2.1, hq.2.2.2.2, bnext (bal_drew hb _) hb'⟩) | (go_split_ands; exact ⟨(SbO.alloc (x := x) ⟨by assumption, by assumption, by assumption, by assumption, by assumption⟩ _).1, (SbO.alloc (x := x) ⟨by assumption, by assumption, by assumption, by assumption, by assumption⟩ _).2.1, (SbO.alloc (x := x) ⟨by assumption, by assumption, by assumption, by assumption, by assumption⟩ _).2.2.1, (SbO.alloc (x := x) ⟨by assumption, by assumption, by assumption, by assumption, by assumption⟩ _).2.2.2.1, (SbO.alloc (x := x) ⟨by assumption, by assumption, by assumption, by assumption, by assumption⟩ _).2.2.2.2, bal (by assumption) _⟩) | (go_split_ands; exact ⟨(SbO.allocDrew (x := x) ⟨by assumption, by assumption, by assumption, by assumption, by assumption⟩ _).1, (SbO.allocDrew (x := x) ⟨by assumption, by assumption, by assumption, by assumption, by assumption⟩ _).2.1, (SbO.allocDrew (x := x) ⟨by assumption, by assumption, by assumption, by assumption, by assumption⟩ _).2.2.1, (SbO.allocDrew (x := x) ⟨by assumption, by assumption, by assumption, by assumption, by assumption⟩ _).2.2.2.1, (SbO.allocDrew (x := x) ⟨by assumption, by assumption, by assumption, by assumption, by assumption⟩ _).2.2.2.2, bal_drew (by assumption) _⟩)) (first | (go_at_call 62; refine (HC0.out _).mono ?_; rintro e w' ⟨rfl, hb'⟩) | (go_at_call 51; refine (HS.out _).mono ?_; rintro e w' ⟨rfl, hb'⟩))) | fail
      rename_i hHeld
      obtain ⟨p0, p1, p2, p3, p4, hb⟩ := hHeld
      go_wp2_with (go_at_call 63; refine (HM.out _).mono ?_; rintro e w' ⟨rfl, hb'⟩; first | have hb := bnext hb hb' | have hb := bnext (bal hb _) hb' | have hb := bnext (bal (bal hb _) _) hb' | have hb := bnext (bal (bal (bal hb _) _) _) hb' | have hb := bnext (bal (bal (bal (bal hb _) _) _) _) hb' | have hb := bnext (bal (bal (bal (bal (bal hb _) _) _) _) _) hb')
      go_ret2
      first | exact ⟨rfl, hb⟩ | exact ⟨rfl, (bal hb _)⟩ | exact ⟨rfl, (bal (bal hb _) _)⟩ | exact ⟨rfl, (bal (bal (bal hb _) _) _)⟩ | exact ⟨rfl, (bal (bal (bal (bal hb _) _) _) _)⟩ | exact ⟨rfl, (bal (bal (bal (bal (bal hb _) _) _) _) _)⟩
    · skip
      have hx' : okSb x = false := by simpa using hx
      have hv : mdV x p q = 0 := by unfold mdV; rw [hx']; simp
      have hc : mdC x p q = 1 := by unfold mdC; rw [hx']; simp [argC]
      rw [hv, hc]
      clear hv hc
      have HS := Lib.hid (fun W => by have h := substationCode_any x true W hs; rw [hx'] at h; exact h)
      have HC0 := Lib.hid (fun W => by have h := isCooling_any p q W; rw [h1] at h; exact h)
      clear hx hx' hr
      have hp := SbO.new w x 34
      have ⟨p0, p1, p2, p3, p4⟩ := hp
      have hb : Below w.heap.size w (w.alloc (.cells #[.string x.id, .int .i64 x.nd, .int .i64 x.tr, .int .i64 x.su, .int .i64 x.re] 34)) := bal (Below.refl _ _) _
      go_enter Try.func24, Try.ntmps24
      go_wp2_with fail
      first | (go_region_held3 (fun w' => w'.cell? ⟨w.heap.size, 0, none⟩ = some (.string x.id) ∧ w'.cell? ⟨w.heap.size, 1, none⟩ = some (.int .i64 x.nd) ∧ w'.cell? ⟨w.heap.size, 2, none⟩ = some (.int .i64 x.tr) ∧ w'.cell? ⟨w.heap.size, 3, none⟩ = some (.int .i64 x.su) ∧ w'.cell? ⟨w.heap.size, 4, none⟩ = some (.int .i64 x.re) ∧ Below w.heap.size w w') (first | assumption | exact ⟨p0, p1, p2, p3, p4, below_drewN hb 1⟩ | (go_split_ands; have hq := SbO.next (x := x) ⟨by assumption, by assumption, by assumption, by assumption, by assumption⟩ hb'; exact ⟨hq.1, hq.2.1, hq.2.2.1, hq.2.2.2.1, hq.2.2.2.2, bnext (by assumption) hb'⟩) | exact ⟨(SbO.allocDrew hp _).1, (SbO.allocDrew hp _).2.1, (SbO.allocDrew hp _).2.2.1, (SbO.allocDrew hp _).2.2.2.1, (SbO.allocDrew hp _).2.2.2.2, bal_drew hb _⟩ | (have hq := SbO.next (SbO.allocDrew hp _) hb'; exact ⟨hq.1, hq.2.1, hq.2.2.1, hq.2.2.2.1, hq.2.2.2.2, bnext (bal_drew hb _) hb'⟩) | (go_split_ands; exact ⟨(SbO.alloc (x := x) ⟨by assumption, by assumption, by assumption, by assumption, by assumption⟩ _).1, (SbO.alloc (x := x) ⟨by assumption, by assumption, by assumption, by assumption, by assumption⟩ _).2.1, (SbO.alloc (x := x) ⟨by assumption, by assumption, by assumption, by assumption, by assumption⟩ _).2.2.1, (SbO.alloc (x := x) ⟨by assumption, by assumption, by assumption, by assumption, by assumption⟩ _).2.2.2.1, (SbO.alloc (x := x) ⟨by assumption, by assumption, by assumption, by assumption, by assumption⟩ _).2.2.2.2, bal (by assumption) _⟩) | (go_split_ands; exact ⟨(SbO.allocDrew (x := x) ⟨by assumption, by assumption, by assumption, by assumption, by assumption⟩ _).1, (SbO.allocDrew (x := x) ⟨by assumption, by assumption, by assumption, by assumption, by assumption⟩ _).2.1, (SbO.allocDrew (x := x) ⟨by assumption, by assumption, by assumption, by assumption, by assumption⟩ _).2.2.1, (SbO.allocDrew (x := x) ⟨by assumption, by assumption, by assumption, by assumption, by assumption⟩ _).2.2.2.1, (SbO.allocDrew (x := x) ⟨by assumption, by assumption, by assumption, by assumption, by assumption⟩ _).2.2.2.2, bal_drew (by assumption) _⟩)) (first | (go_at_call 62; refine (HC0.out _).mono ?_; rintro e w' ⟨rfl, hb'⟩) | (go_at_call 51; refine (HS.out _).mono ?_; rintro e w' ⟨rfl, hb'⟩))) | fail
      rename_i hHeld
      obtain ⟨p0, p1, p2, p3, p4, hb⟩ := hHeld
      go_wp2
      go_ret2
      exact ⟨rfl, hb⟩
  · have h1' : coolB p q = false := by simpa using h1
    have hr := h1'
    have hv : mdV x p q = 0 := by unfold mdV; rw [hr]; simp
    have hc : mdC x p q = argC (okSb x) false := by unfold mdC; rw [hr]; try simp [argC]
    rw [hv, hc]
    clear hv hc
    have HS := Lib.hid (fun W => substationCode_any x false W hs)
    have hk : argC (okSb x) false ≠ 0 := by unfold argC; split <;> decide
    generalize argC (okSb x) false = k at *
    have HC0 := Lib.hid (fun W => by have h := isCooling_any p q W; rw [h1'] at h; exact h)
    have hp := SbO.new w x 34
    have ⟨p0, p1, p2, p3, p4⟩ := hp
    have hb : Below w.heap.size w (w.alloc (.cells #[.string x.id, .int .i64 x.nd, .int .i64 x.tr, .int .i64 x.su, .int .i64 x.re] 34)) := bal (Below.refl _ _) _
    go_enter Try.func24, Try.ntmps24
    go_wp2_with fail
    first | (go_region_held3 (fun w' => w'.cell? ⟨w.heap.size, 0, none⟩ = some (.string x.id) ∧ w'.cell? ⟨w.heap.size, 1, none⟩ = some (.int .i64 x.nd) ∧ w'.cell? ⟨w.heap.size, 2, none⟩ = some (.int .i64 x.tr) ∧ w'.cell? ⟨w.heap.size, 3, none⟩ = some (.int .i64 x.su) ∧ w'.cell? ⟨w.heap.size, 4, none⟩ = some (.int .i64 x.re) ∧ Below w.heap.size w w') (first | assumption | exact ⟨p0, p1, p2, p3, p4, below_drewN hb 1⟩ | (go_split_ands; have hq := SbO.next (x := x) ⟨by assumption, by assumption, by assumption, by assumption, by assumption⟩ hb'; exact ⟨hq.1, hq.2.1, hq.2.2.1, hq.2.2.2.1, hq.2.2.2.2, bnext (by assumption) hb'⟩) | exact ⟨(SbO.allocDrew hp _).1, (SbO.allocDrew hp _).2.1, (SbO.allocDrew hp _).2.2.1, (SbO.allocDrew hp _).2.2.2.1, (SbO.allocDrew hp _).2.2.2.2, bal_drew hb _⟩ | (have hq := SbO.next (SbO.allocDrew hp _) hb'; exact ⟨hq.1, hq.2.1, hq.2.2.1, hq.2.2.2.1, hq.2.2.2.2, bnext (bal_drew hb _) hb'⟩) | (go_split_ands; exact ⟨(SbO.alloc (x := x) ⟨by assumption, by assumption, by assumption, by assumption, by assumption⟩ _).1, (SbO.alloc (x := x) ⟨by assumption, by assumption, by assumption, by assumption, by assumption⟩ _).2.1, (SbO.alloc (x := x) ⟨by assumption, by assumption, by assumption, by assumption, by assumption⟩ _).2.2.1, (SbO.alloc (x := x) ⟨by assumption, by assumption, by assumption, by assumption, by assumption⟩ _).2.2.2.1, (SbO.alloc (x := x) ⟨by assumption, by assumption, by assumption, by assumption, by assumption⟩ _).2.2.2.2, bal (by assumption) _⟩) | (go_split_ands; exact ⟨(SbO.allocDrew (x := x) ⟨by assumption, by assumption, by assumption, by assumption, by assumption⟩ _).1, (SbO.allocDrew (x := x) ⟨by assumption, by assumption, by assumption, by assumption, by assumption⟩ _).2.1, (SbO.allocDrew (x := x) ⟨by assumption, by assumption, by assumption, by assumption, by assumption⟩ _).2.2.1, (SbO.allocDrew (x := x) ⟨by assumption, by assumption, by assumption, by assumption, by assumption⟩ _).2.2.2.1, (SbO.allocDrew (x := x) ⟨by assumption, by assumption, by assumption, by assumption, by assumption⟩ _).2.2.2.2, bal_drew (by assumption) _⟩)) (first | (go_at_call 62; refine (HC0.out _).mono ?_; rintro e w' ⟨rfl, hb'⟩) | (go_at_call 51; refine (HS.out _).mono ?_; rintro e w' ⟨rfl, hb'⟩))) | fail
    rename_i hHeld
    obtain ⟨p0, p1, p2, p3, p4, hb⟩ := hHeld
    go_wp2
    go_ret2
    exact ⟨rfl, hb⟩

theorem specMeanDifference_any (x : Sb) (p : Int) (q : Int) (w : World) (hs : x.id.size ≤ maxLen) : Calls Try.prog 23 #[.agg #[.string x.id, .int .i64 x.nd, .int .i64 x.tr, .int .i64 x.su, .int .i64 x.re], .int .i64 p, .int .i64 q] w fun e w' => e = .returned (.tuple #[.int .i64 (mdV x p q), .int .i64 (mdC x p q)]) ∧ Below w.heap.size w w' := by
  by_cases hx : okSb x = true
  · skip
    by_cases h1 : inB p 0 18000 = true
    · skip
      by_cases h2 : inB q 0 p = true
      · skip
        have hr : coolB p q = true := by unfold coolB; rw [h1, h2]; rfl
        have HX := Lib.hid (fun W (hq : SbO W w.heap.size 0 x) => by have h := l12One_any w.heap.size 0 x W hq hs; rw [hx] at h; exact h)
        have hp := SbO.new w x 34
        have ⟨p0, p1, p2, p3, p4⟩ := hp
        have hb : Below w.heap.size w (w.alloc (.cells #[.string x.id, .int .i64 x.nd, .int .i64 x.tr, .int .i64 x.su, .int .i64 x.re] 34)) := bal (Below.refl _ _) _
        have hv : mdV x p q = meanI x.su x.re p q := by unfold mdV; rw [hx, hr]; rfl
        have hc : mdC x p q = 0 := by unfold mdC; rw [hx, hr]; rfl
        rw [hv, hc]
        clear hv hc
        have hq := coolB_bd hr
        have hE := okSb_ex hx p hq.1.1 hq.1.2
        have hp9 := SbO.new w x 34
        have HM := Lib.hid (fun W (hq : SbO W w.heap.size 0 x) => l12Mean_any w.heap.size 0 x p q W hq hE (by omega) (by omega))
        clear hr
        go_enter Try.func23, Try.ntmps23
        go_wp2_with (first | (go_at_call 48; refine (l02Degrees_any _ _).mono ?_; rintro e w' ⟨rfl, rfl⟩) | (go_at_call 60; refine (in_any _ _ _ _).mono ?_; rintro e w' ⟨rfl, rfl⟩) | (go_at_call 47; refine (HX.out _ hp).mono ?_; rintro e w' ⟨rfl, hd'⟩; have hb' := Drawn.below hd'; first | (have hb := bnext hb hb'; have hp := SbO.next hp hb'; have ⟨p0, p1, p2, p3, p4⟩ := hp) | (have hb := bnext (bal hb _) hb'; have hp := SbO.next (SbO.alloc hp _) hb'; have ⟨p0, p1, p2, p3, p4⟩ := hp) | (have hb := bnext (bal (bal hb _) _) hb'; have hp := SbO.next (SbO.alloc (SbO.alloc hp _) _) hb'; have ⟨p0, p1, p2, p3, p4⟩ := hp) | (have hb := bnext (bal (bal (bal hb _) _) _) hb'; have hp := SbO.next (SbO.alloc (SbO.alloc (SbO.alloc hp _) _) _) hb'; have ⟨p0, p1, p2, p3, p4⟩ := hp)) | (go_at_call 61; refine (HM.out _ hp).mono ?_; rintro e w' ⟨rfl, hd'⟩; have hb' := Drawn.below hd'; first | (have hb := bnext hb hb'; have hp := SbO.next hp hb'; have ⟨p0, p1, p2, p3, p4⟩ := hp) | (have hb := bnext (bal hb _) hb'; have hp := SbO.next (SbO.alloc hp _) hb'; have ⟨p0, p1, p2, p3, p4⟩ := hp) | (have hb := bnext (bal (bal hb _) _) hb'; have hp := SbO.next (SbO.alloc (SbO.alloc hp _) _) hb'; have ⟨p0, p1, p2, p3, p4⟩ := hp) | (have hb := bnext (bal (bal (bal hb _) _) _) hb'; have hp := SbO.next (SbO.alloc (SbO.alloc (SbO.alloc hp _) _) _) hb'; have ⟨p0, p1, p2, p3, p4⟩ := hp)))
        go_ret2
        first | exact ⟨rfl, hb⟩ | exact ⟨rfl, (bal hb _)⟩ | exact ⟨rfl, (bal (bal hb _) _)⟩ | exact ⟨rfl, (bal (bal (bal hb _) _) _)⟩ | exact ⟨rfl, (bal (bal (bal (bal hb _) _) _) _)⟩ | exact ⟨rfl, (bal (bal (bal (bal (bal hb _) _) _) _) _)⟩
      · skip
        have h2' : inB q 0 p = false := by simpa using h2
        have hr : coolB p q = false := by unfold coolB; simp [*]
        have hv : mdV x p q = 0 := by unfold mdV; rw [hr]; simp
        have hc : mdC x p q = 2 := by unfold mdC; rw [hx, hr]; try simp [argC]
        rw [hv, hc]
        clear hv hc hr
        have HX := Lib.hid (fun W (hq : SbO W w.heap.size 0 x) => by have h := l12One_any w.heap.size 0 x W hq hs; rw [hx] at h; exact h)
        have hp := SbO.new w x 34
        have ⟨p0, p1, p2, p3, p4⟩ := hp
        have hb : Below w.heap.size w (w.alloc (.cells #[.string x.id, .int .i64 x.nd, .int .i64 x.tr, .int .i64 x.su, .int .i64 x.re] 34)) := bal (Below.refl _ _) _
        go_enter Try.func23, Try.ntmps23
        go_wp2_with (first | (go_at_call 48; refine (l02Degrees_any _ _).mono ?_; rintro e w' ⟨rfl, rfl⟩) | (go_at_call 60; refine (in_any _ _ _ _).mono ?_; rintro e w' ⟨rfl, rfl⟩) | (go_at_call 47; refine (HX.out _ hp).mono ?_; rintro e w' ⟨rfl, hd'⟩; have hb' := Drawn.below hd'; first | (have hb := bnext hb hb'; have hp := SbO.next hp hb'; have ⟨p0, p1, p2, p3, p4⟩ := hp) | (have hb := bnext (bal hb _) hb'; have hp := SbO.next (SbO.alloc hp _) hb'; have ⟨p0, p1, p2, p3, p4⟩ := hp) | (have hb := bnext (bal (bal hb _) _) hb'; have hp := SbO.next (SbO.alloc (SbO.alloc hp _) _) hb'; have ⟨p0, p1, p2, p3, p4⟩ := hp) | (have hb := bnext (bal (bal (bal hb _) _) _) hb'; have hp := SbO.next (SbO.alloc (SbO.alloc (SbO.alloc hp _) _) _) hb'; have ⟨p0, p1, p2, p3, p4⟩ := hp)))
        go_ret2
        first | exact ⟨rfl, hb⟩ | exact ⟨rfl, (bal hb _)⟩ | exact ⟨rfl, (bal (bal hb _) _)⟩ | exact ⟨rfl, (bal (bal (bal hb _) _) _)⟩ | exact ⟨rfl, (bal (bal (bal (bal hb _) _) _) _)⟩ | exact ⟨rfl, (bal (bal (bal (bal (bal hb _) _) _) _) _)⟩
    · skip
      have h1' : inB p 0 18000 = false := by simpa using h1
      have hr : coolB p q = false := by unfold coolB; simp [*]
      have hv : mdV x p q = 0 := by unfold mdV; rw [hr]; simp
      have hc : mdC x p q = 2 := by unfold mdC; rw [hx, hr]; try simp [argC]
      rw [hv, hc]
      clear hv hc hr
      have HX := Lib.hid (fun W (hq : SbO W w.heap.size 0 x) => by have h := l12One_any w.heap.size 0 x W hq hs; rw [hx] at h; exact h)
      have hp := SbO.new w x 34
      have ⟨p0, p1, p2, p3, p4⟩ := hp
      have hb : Below w.heap.size w (w.alloc (.cells #[.string x.id, .int .i64 x.nd, .int .i64 x.tr, .int .i64 x.su, .int .i64 x.re] 34)) := bal (Below.refl _ _) _
      go_enter Try.func23, Try.ntmps23
      go_wp2_with (first | (go_at_call 48; refine (l02Degrees_any _ _).mono ?_; rintro e w' ⟨rfl, rfl⟩) | (go_at_call 60; refine (in_any _ _ _ _).mono ?_; rintro e w' ⟨rfl, rfl⟩) | (go_at_call 47; refine (HX.out _ hp).mono ?_; rintro e w' ⟨rfl, hd'⟩; have hb' := Drawn.below hd'; first | (have hb := bnext hb hb'; have hp := SbO.next hp hb'; have ⟨p0, p1, p2, p3, p4⟩ := hp) | (have hb := bnext (bal hb _) hb'; have hp := SbO.next (SbO.alloc hp _) hb'; have ⟨p0, p1, p2, p3, p4⟩ := hp) | (have hb := bnext (bal (bal hb _) _) hb'; have hp := SbO.next (SbO.alloc (SbO.alloc hp _) _) hb'; have ⟨p0, p1, p2, p3, p4⟩ := hp) | (have hb := bnext (bal (bal (bal hb _) _) _) hb'; have hp := SbO.next (SbO.alloc (SbO.alloc (SbO.alloc hp _) _) _) hb'; have ⟨p0, p1, p2, p3, p4⟩ := hp)))
      go_ret2
      first | exact ⟨rfl, hb⟩ | exact ⟨rfl, (bal hb _)⟩ | exact ⟨rfl, (bal (bal hb _) _)⟩ | exact ⟨rfl, (bal (bal (bal hb _) _) _)⟩ | exact ⟨rfl, (bal (bal (bal (bal hb _) _) _) _)⟩ | exact ⟨rfl, (bal (bal (bal (bal (bal hb _) _) _) _) _)⟩
  · skip
    have hx' : okSb x = false := by simpa using hx
    have hv : mdV x p q = 0 := by unfold mdV; rw [hx']; simp
    have hc : mdC x p q = 1 := by unfold mdC; rw [hx']; simp [argC]
    rw [hv, hc]
    clear hv hc
    have HX := Lib.hid (fun W (hq : SbO W w.heap.size 0 x) => by have h := l12One_any w.heap.size 0 x W hq hs; rw [hx'] at h; exact h)
    have hp := SbO.new w x 34
    have ⟨p0, p1, p2, p3, p4⟩ := hp
    have hb : Below w.heap.size w (w.alloc (.cells #[.string x.id, .int .i64 x.nd, .int .i64 x.tr, .int .i64 x.su, .int .i64 x.re] 34)) := bal (Below.refl _ _) _
    go_enter Try.func23, Try.ntmps23
    go_wp2_with (first | (go_at_call 48; refine (l02Degrees_any _ _).mono ?_; rintro e w' ⟨rfl, rfl⟩) | (go_at_call 60; refine (in_any _ _ _ _).mono ?_; rintro e w' ⟨rfl, rfl⟩) | (go_at_call 47; refine (HX.out _ hp).mono ?_; rintro e w' ⟨rfl, hd'⟩; have hb' := Drawn.below hd'; first | (have hb := bnext hb hb'; have hp := SbO.next hp hb'; have ⟨p0, p1, p2, p3, p4⟩ := hp) | (have hb := bnext (bal hb _) hb'; have hp := SbO.next (SbO.alloc hp _) hb'; have ⟨p0, p1, p2, p3, p4⟩ := hp) | (have hb := bnext (bal (bal hb _) _) hb'; have hp := SbO.next (SbO.alloc (SbO.alloc hp _) _) hb'; have ⟨p0, p1, p2, p3, p4⟩ := hp) | (have hb := bnext (bal (bal (bal hb _) _) _) hb'; have hp := SbO.next (SbO.alloc (SbO.alloc (SbO.alloc hp _) _) _) hb'; have ⟨p0, p1, p2, p3, p4⟩ := hp)))
    go_ret2
    first | exact ⟨rfl, hb⟩ | exact ⟨rfl, (bal hb _)⟩ | exact ⟨rfl, (bal (bal hb _) _)⟩ | exact ⟨rfl, (bal (bal (bal hb _) _) _)⟩ | exact ⟨rfl, (bal (bal (bal (bal hb _) _) _) _)⟩ | exact ⟨rfl, (bal (bal (bal (bal (bal hb _) _) _) _) _)⟩

end Go.Proofs.Ytdaedgdglammhab
