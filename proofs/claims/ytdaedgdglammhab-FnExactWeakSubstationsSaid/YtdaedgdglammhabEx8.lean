/-
  PowerAt and ReturnAt of both sides.
-/
import Derived.Test.YtdaedgdglammhabEx5
import Derived.Test.YtdaedgdglammhabPu0
import Derived.Test.YtdaedgdglammhabB6
namespace Go.Proofs.Ytdaedgdglammhab
open Go.ChangeShapes Go.WideShapes Go.ChangeAt Go.RowKit Go.Shelf

set_option linter.unusedVariables false
set_option linter.unusedSimpArgs false
set_option maxRecDepth 100000
set_option maxHeartbeats 4000000
def paV (x : Sb) (p q : Int) : Int := if okSb x && (inB p 0 18000 && inB q 0 100000) then powI x.tr x.su x.re p q else 0
def paC (x : Sb) (p q : Int) : Int := argC (okSb x) (inB p 0 18000 && inB q 0 100000)
def raV (x : Sb) (p q : Int) : Int := if okSb x && (inB p 0 18000 && inB q 0 100000) then (if p < x.re then 0 else backI x.tr x.su x.re p q) else 0
def raC (x : Sb) (p q : Int) : Int := if okSb x && (inB p 0 18000 && inB q 0 100000) then (if p < x.re then 6 else 0) else argC (okSb x) (inB p 0 18000 && inB q 0 100000)

theorem SbO.allocDrew {w : World} {b o : Nat} {x : Sb} (h : SbO w b o x) (O : Obj) : SbO (w.alloc O).drew b o x := h.alloc O
theorem bal_drew {w a : World} (h : Below w.heap.size w a) (O : Obj) : Below w.heap.size w (a.alloc O).drew := below_drewN (bal h O) 1
theorem isWater_free (a : Int) (b : Nat) (w : World) (hc : w.cell? ⟨b, 0, none⟩ = some (.int .i64 a)) :
    Calls Try.prog 52 #[.slice (some ⟨b, 0, none⟩) 1 1] w fun e w' => e = .returned (.bool (inB a 0 18000)) ∧ w = w' := by
  have H := Lib.hid (within64_free 0 18000 a b w hc)
  go_enter Try.func52, Try.ntmps52
  go_wp2_with ((go_at_call 75; refine H.out.mono ?_; rintro e w' ⟨rfl, rfl⟩))
  go_ret
  exact ⟨rfl, rfl⟩
theorem isPower_free (a : Int) (b : Nat) (w : World) (hc : w.cell? ⟨b, 0, none⟩ = some (.int .i64 a)) :
    Calls Try.prog 53 #[.slice (some ⟨b, 0, none⟩) 1 1] w fun e w' => e = .returned (.bool (inB a 0 100000000)) ∧ w = w' := by
  have H := Lib.hid (within64_free 0 100000000 a b w hc)
  go_enter Try.func53, Try.ntmps53
  go_wp2_with ((go_at_call 75; refine H.out.mono ?_; rintro e w' ⟨rfl, rfl⟩))
  go_ret
  exact ⟨rfl, rfl⟩
theorem implPowerAt_any (x : Sb) (p : Int) (q : Int) (w : World) (hs : x.id.size ≤ maxLen) : Calls Try.prog 26 #[.agg #[.string x.id, .int .i64 x.nd, .int .i64 x.tr, .int .i64 x.su, .int .i64 x.re], .int .i64 p, .int .i64 q] w fun e w' => e = .returned (.tuple #[.int .i64 (paV x p q), .int .i64 (paC x p q)]) ∧ Below w.heap.size w w' := by
  by_cases h1 : inB p 0 18000 = true
  · skip
    by_cases h2 : inB q 0 100000 = true
    · skip
      have hr : (inB p 0 18000 && inB q 0 100000) = true := by simp [*]
      by_cases hx : okSb x = true
      · skip
        have HS := Lib.hid (fun W => by have h := substationCode_any x true W hs; rw [hx] at h; exact h)
        have HC0 := Lib.hid (fun W b hc => by have h := isWater_free p b W hc; rw [h1] at h; exact h)
        have HC1 := Lib.hid (fun W => by have h := isPumped_any q W; rw [h2] at h; exact h)
        have hv : paV x p q = powI x.tr x.su x.re p q := by unfold paV; rw [hx, hr]; rfl
        have hc : paC x p q = 0 := by unfold paC; rw [hx, hr]; rfl
        rw [hv, hc]
        clear hv hc hr
        have hq1 := inB_iff.1 h1
        have hq2 := inB_iff.1 h2
        have hE := okSb_ex hx p hq1.1 hq1.2
        have HM := Lib.hid (fun W => power_any x p q W hE hq2.1 hq2.2)
        have hp := SbO.new w x 34
        have ⟨p0, p1, p2, p3, p4⟩ := hp
        have hb : Below w.heap.size w (w.alloc (.cells #[.string x.id, .int .i64 x.nd, .int .i64 x.tr, .int .i64 x.su, .int .i64 x.re] 34)) := bal (Below.refl _ _) _
        go_enter Try.func26, Try.ntmps26
        go_wp2_with fail
        first | (go_region_held3 (fun w' => w'.cell? ⟨w.heap.size, 0, none⟩ = some (.string x.id) ∧ w'.cell? ⟨w.heap.size, 1, none⟩ = some (.int .i64 x.nd) ∧ w'.cell? ⟨w.heap.size, 2, none⟩ = some (.int .i64 x.tr) ∧ w'.cell? ⟨w.heap.size, 3, none⟩ = some (.int .i64 x.su) ∧ w'.cell? ⟨w.heap.size, 4, none⟩ = some (.int .i64 x.re) ∧ Below w.heap.size w w') (first | assumption | exact ⟨p0, p1, p2, p3, p4, below_drewN hb 1⟩ | (go_split_ands; have hq := SbO.next (x := x) ⟨by assumption, by assumption, by assumption, by assumption, by assumption⟩ hb'; exact ⟨hq.1, hq.2.1, hq.2.2.1, hq.2.2.2.1, hq.2.2.2.2, bnext (by assumption) hb'⟩) | exact ⟨(SbO.allocDrew hp _).1, (SbO.allocDrew hp _).2.1, (SbO.allocDrew hp _).2.2.1, (SbO.allocDrew hp _).2.2.2.1, (SbO.allocDrew hp _).2.2.2.2, bal_drew hb _⟩ | (have hq := SbO.next (SbO.allocDrew hp _) hb'; exact ⟨hq.1, hq.2.1, hq.2.2.1, hq.2.2.2.1, hq.2.2.2.2, bnext (bal_drew hb _) hb'⟩) | (go_split_ands; exact ⟨(SbO.alloc (x := x) ⟨by assumption, by assumption, by assumption, by assumption, by assumption⟩ _).1, (SbO.alloc (x := x) ⟨by assumption, by assumption, by assumption, by assumption, by assumption⟩ _).2.1, (SbO.alloc (x := x) ⟨by assumption, by assumption, by assumption, by assumption, by assumption⟩ _).2.2.1, (SbO.alloc (x := x) ⟨by assumption, by assumption, by assumption, by assumption, by assumption⟩ _).2.2.2.1, (SbO.alloc (x := x) ⟨by assumption, by assumption, by assumption, by assumption, by assumption⟩ _).2.2.2.2, bal (by assumption) _⟩) | (go_split_ands; exact ⟨(SbO.allocDrew (x := x) ⟨by assumption, by assumption, by assumption, by assumption, by assumption⟩ _).1, (SbO.allocDrew (x := x) ⟨by assumption, by assumption, by assumption, by assumption, by assumption⟩ _).2.1, (SbO.allocDrew (x := x) ⟨by assumption, by assumption, by assumption, by assumption, by assumption⟩ _).2.2.1, (SbO.allocDrew (x := x) ⟨by assumption, by assumption, by assumption, by assumption, by assumption⟩ _).2.2.2.1, (SbO.allocDrew (x := x) ⟨by assumption, by assumption, by assumption, by assumption, by assumption⟩ _).2.2.2.2, bal_drew (by assumption) _⟩)) (first | (go_at_call 52; refine (HC0.out _ _ ?hn).mono ?_; (case hn => first | exact (World.cell?_alloc_at _ _ _ _ (by simp)).trans rfl | simp); rintro e w' ⟨rfl, rfl⟩) | (go_at_call 58; refine (HC1.out _).mono ?_; rintro e w' ⟨rfl, hb'⟩) | (go_at_call 51; refine (HS.out _).mono ?_; rintro e w' ⟨rfl, hb'⟩))) | fail
        rename_i hHeld
        obtain ⟨p0, p1, p2, p3, p4, hb⟩ := hHeld
        go_wp2_with (go_at_call 55; refine (HM.out _).mono ?_; rintro e w' ⟨rfl, hb'⟩; first | have hb := bnext hb hb' | have hb := bnext (bal hb _) hb' | have hb := bnext (bal (bal hb _) _) hb' | have hb := bnext (bal (bal (bal hb _) _) _) hb' | have hb := bnext (bal (bal (bal (bal hb _) _) _) _) hb' | have hb := bnext (bal (bal (bal (bal (bal hb _) _) _) _) _) hb')
        go_ret2
        first | exact ⟨rfl, hb⟩ | exact ⟨rfl, (bal hb _)⟩ | exact ⟨rfl, (bal (bal hb _) _)⟩ | exact ⟨rfl, (bal (bal (bal hb _) _) _)⟩ | exact ⟨rfl, (bal (bal (bal (bal hb _) _) _) _)⟩ | exact ⟨rfl, (bal (bal (bal (bal (bal hb _) _) _) _) _)⟩
      · skip
        have hx' : okSb x = false := by simpa using hx
        have hv : paV x p q = 0 := by unfold paV; rw [hx']; simp
        have hc : paC x p q = 1 := by unfold paC; rw [hx']; simp [argC]
        rw [hv, hc]
        clear hv hc
        have HS := Lib.hid (fun W => by have h := substationCode_any x true W hs; rw [hx'] at h; exact h)
        have HC0 := Lib.hid (fun W b hc => by have h := isWater_free p b W hc; rw [h1] at h; exact h)
        have HC1 := Lib.hid (fun W => by have h := isPumped_any q W; rw [h2] at h; exact h)
        clear hx hx' hr
        have hp := SbO.new w x 34
        have ⟨p0, p1, p2, p3, p4⟩ := hp
        have hb : Below w.heap.size w (w.alloc (.cells #[.string x.id, .int .i64 x.nd, .int .i64 x.tr, .int .i64 x.su, .int .i64 x.re] 34)) := bal (Below.refl _ _) _
        go_enter Try.func26, Try.ntmps26
        go_wp2_with fail
        first | (go_region_held3 (fun w' => w'.cell? ⟨w.heap.size, 0, none⟩ = some (.string x.id) ∧ w'.cell? ⟨w.heap.size, 1, none⟩ = some (.int .i64 x.nd) ∧ w'.cell? ⟨w.heap.size, 2, none⟩ = some (.int .i64 x.tr) ∧ w'.cell? ⟨w.heap.size, 3, none⟩ = some (.int .i64 x.su) ∧ w'.cell? ⟨w.heap.size, 4, none⟩ = some (.int .i64 x.re) ∧ Below w.heap.size w w') (first | assumption | exact ⟨p0, p1, p2, p3, p4, below_drewN hb 1⟩ | (go_split_ands; have hq := SbO.next (x := x) ⟨by assumption, by assumption, by assumption, by assumption, by assumption⟩ hb'; exact ⟨hq.1, hq.2.1, hq.2.2.1, hq.2.2.2.1, hq.2.2.2.2, bnext (by assumption) hb'⟩) | exact ⟨(SbO.allocDrew hp _).1, (SbO.allocDrew hp _).2.1, (SbO.allocDrew hp _).2.2.1, (SbO.allocDrew hp _).2.2.2.1, (SbO.allocDrew hp _).2.2.2.2, bal_drew hb _⟩ | (have hq := SbO.next (SbO.allocDrew hp _) hb'; exact ⟨hq.1, hq.2.1, hq.2.2.1, hq.2.2.2.1, hq.2.2.2.2, bnext (bal_drew hb _) hb'⟩) | (go_split_ands; exact ⟨(SbO.alloc (x := x) ⟨by assumption, by assumption, by assumption, by assumption, by assumption⟩ _).1, (SbO.alloc (x := x) ⟨by assumption, by assumption, by assumption, by assumption, by assumption⟩ _).2.1, (SbO.alloc (x := x) ⟨by assumption, by assumption, by assumption, by assumption, by assumption⟩ _).2.2.1, (SbO.alloc (x := x) ⟨by assumption, by assumption, by assumption, by assumption, by assumption⟩ _).2.2.2.1, (SbO.alloc (x := x) ⟨by assumption, by assumption, by assumption, by assumption, by assumption⟩ _).2.2.2.2, bal (by assumption) _⟩) | (go_split_ands; exact ⟨(SbO.allocDrew (x := x) ⟨by assumption, by assumption, by assumption, by assumption, by assumption⟩ _).1, (SbO.allocDrew (x := x) ⟨by assumption, by assumption, by assumption, by assumption, by assumption⟩ _).2.1, (SbO.allocDrew (x := x) ⟨by assumption, by assumption, by assumption, by assumption, by assumption⟩ _).2.2.1, (SbO.allocDrew (x := x) ⟨by assumption, by assumption, by assumption, by assumption, by assumption⟩ _).2.2.2.1, (SbO.allocDrew (x := x) ⟨by assumption, by assumption, by assumption, by assumption, by assumption⟩ _).2.2.2.2, bal_drew (by assumption) _⟩)) (first | (go_at_call 52; refine (HC0.out _ _ ?hn).mono ?_; (case hn => first | exact (World.cell?_alloc_at _ _ _ _ (by simp)).trans rfl | simp); rintro e w' ⟨rfl, rfl⟩) | (go_at_call 58; refine (HC1.out _).mono ?_; rintro e w' ⟨rfl, hb'⟩) | (go_at_call 51; refine (HS.out _).mono ?_; rintro e w' ⟨rfl, hb'⟩))) | fail
        rename_i hHeld
        obtain ⟨p0, p1, p2, p3, p4, hb⟩ := hHeld
        go_wp2
        go_ret2
        exact ⟨rfl, hb⟩
    · have h2' : inB q 0 100000 = false := by simpa using h2
      have hr : (inB p 0 18000 && inB q 0 100000) = false := by simp [*]
      have hv : paV x p q = 0 := by unfold paV; rw [hr]; simp
      have hc : paC x p q = argC (okSb x) false := by unfold paC; rw [hr]; try simp [argC]
      rw [hv, hc]
      clear hv hc
      have HS := Lib.hid (fun W => substationCode_any x false W hs)
      have hk : argC (okSb x) false ≠ 0 := by unfold argC; split <;> decide
      generalize argC (okSb x) false = k at *
      have HC0 := Lib.hid (fun W b hc => by have h := isWater_free p b W hc; rw [h1] at h; exact h)
      have HC1 := Lib.hid (fun W => by have h := isPumped_any q W; rw [h2'] at h; exact h)
      have hp := SbO.new w x 34
      have ⟨p0, p1, p2, p3, p4⟩ := hp
      have hb : Below w.heap.size w (w.alloc (.cells #[.string x.id, .int .i64 x.nd, .int .i64 x.tr, .int .i64 x.su, .int .i64 x.re] 34)) := bal (Below.refl _ _) _
      go_enter Try.func26, Try.ntmps26
      go_wp2_with fail
      first | (go_region_held3 (fun w' => w'.cell? ⟨w.heap.size, 0, none⟩ = some (.string x.id) ∧ w'.cell? ⟨w.heap.size, 1, none⟩ = some (.int .i64 x.nd) ∧ w'.cell? ⟨w.heap.size, 2, none⟩ = some (.int .i64 x.tr) ∧ w'.cell? ⟨w.heap.size, 3, none⟩ = some (.int .i64 x.su) ∧ w'.cell? ⟨w.heap.size, 4, none⟩ = some (.int .i64 x.re) ∧ Below w.heap.size w w') (first | assumption | exact ⟨p0, p1, p2, p3, p4, below_drewN hb 1⟩ | (go_split_ands; have hq := SbO.next (x := x) ⟨by assumption, by assumption, by assumption, by assumption, by assumption⟩ hb'; exact ⟨hq.1, hq.2.1, hq.2.2.1, hq.2.2.2.1, hq.2.2.2.2, bnext (by assumption) hb'⟩) | exact ⟨(SbO.allocDrew hp _).1, (SbO.allocDrew hp _).2.1, (SbO.allocDrew hp _).2.2.1, (SbO.allocDrew hp _).2.2.2.1, (SbO.allocDrew hp _).2.2.2.2, bal_drew hb _⟩ | (have hq := SbO.next (SbO.allocDrew hp _) hb'; exact ⟨hq.1, hq.2.1, hq.2.2.1, hq.2.2.2.1, hq.2.2.2.2, bnext (bal_drew hb _) hb'⟩) | (go_split_ands; exact ⟨(SbO.alloc (x := x) ⟨by assumption, by assumption, by assumption, by assumption, by assumption⟩ _).1, (SbO.alloc (x := x) ⟨by assumption, by assumption, by assumption, by assumption, by assumption⟩ _).2.1, (SbO.alloc (x := x) ⟨by assumption, by assumption, by assumption, by assumption, by assumption⟩ _).2.2.1, (SbO.alloc (x := x) ⟨by assumption, by assumption, by assumption, by assumption, by assumption⟩ _).2.2.2.1, (SbO.alloc (x := x) ⟨by assumption, by assumption, by assumption, by assumption, by assumption⟩ _).2.2.2.2, bal (by assumption) _⟩) | (go_split_ands; exact ⟨(SbO.allocDrew (x := x) ⟨by assumption, by assumption, by assumption, by assumption, by assumption⟩ _).1, (SbO.allocDrew (x := x) ⟨by assumption, by assumption, by assumption, by assumption, by assumption⟩ _).2.1, (SbO.allocDrew (x := x) ⟨by assumption, by assumption, by assumption, by assumption, by assumption⟩ _).2.2.1, (SbO.allocDrew (x := x) ⟨by assumption, by assumption, by assumption, by assumption, by assumption⟩ _).2.2.2.1, (SbO.allocDrew (x := x) ⟨by assumption, by assumption, by assumption, by assumption, by assumption⟩ _).2.2.2.2, bal_drew (by assumption) _⟩)) (first | (go_at_call 52; refine (HC0.out _ _ ?hn).mono ?_; (case hn => first | exact (World.cell?_alloc_at _ _ _ _ (by simp)).trans rfl | simp); rintro e w' ⟨rfl, rfl⟩) | (go_at_call 58; refine (HC1.out _).mono ?_; rintro e w' ⟨rfl, hb'⟩) | (go_at_call 51; refine (HS.out _).mono ?_; rintro e w' ⟨rfl, hb'⟩))) | fail
      rename_i hHeld
      obtain ⟨p0, p1, p2, p3, p4, hb⟩ := hHeld
      go_wp2
      go_ret2
      exact ⟨rfl, hb⟩
  · have h1' : inB p 0 18000 = false := by simpa using h1
    have hr : (inB p 0 18000 && inB q 0 100000) = false := by simp [*]
    have hv : paV x p q = 0 := by unfold paV; rw [hr]; simp
    have hc : paC x p q = argC (okSb x) false := by unfold paC; rw [hr]; try simp [argC]
    rw [hv, hc]
    clear hv hc
    have HS := Lib.hid (fun W => substationCode_any x false W hs)
    have hk : argC (okSb x) false ≠ 0 := by unfold argC; split <;> decide
    generalize argC (okSb x) false = k at *
    have HC0 := Lib.hid (fun W b hc => by have h := isWater_free p b W hc; rw [h1'] at h; exact h)
    have hp := SbO.new w x 34
    have ⟨p0, p1, p2, p3, p4⟩ := hp
    have hb : Below w.heap.size w (w.alloc (.cells #[.string x.id, .int .i64 x.nd, .int .i64 x.tr, .int .i64 x.su, .int .i64 x.re] 34)) := bal (Below.refl _ _) _
    go_enter Try.func26, Try.ntmps26
    go_wp2_with fail
    first | (go_region_held (fun w' => w'.cell? ⟨w.heap.size, 0, none⟩ = some (.string x.id) ∧ w'.cell? ⟨w.heap.size, 1, none⟩ = some (.int .i64 x.nd) ∧ w'.cell? ⟨w.heap.size, 2, none⟩ = some (.int .i64 x.tr) ∧ w'.cell? ⟨w.heap.size, 3, none⟩ = some (.int .i64 x.su) ∧ w'.cell? ⟨w.heap.size, 4, none⟩ = some (.int .i64 x.re) ∧ Below w.heap.size w w') (first | assumption | exact ⟨p0, p1, p2, p3, p4, below_drewN hb 1⟩ | (go_split_ands; have hq := SbO.next (x := x) ⟨by assumption, by assumption, by assumption, by assumption, by assumption⟩ hb'; exact ⟨hq.1, hq.2.1, hq.2.2.1, hq.2.2.2.1, hq.2.2.2.2, bnext (by assumption) hb'⟩) | exact ⟨(SbO.allocDrew hp _).1, (SbO.allocDrew hp _).2.1, (SbO.allocDrew hp _).2.2.1, (SbO.allocDrew hp _).2.2.2.1, (SbO.allocDrew hp _).2.2.2.2, bal_drew hb _⟩ | (have hq := SbO.next (SbO.allocDrew hp _) hb'; exact ⟨hq.1, hq.2.1, hq.2.2.1, hq.2.2.2.1, hq.2.2.2.2, bnext (bal_drew hb _) hb'⟩) | (go_split_ands; exact ⟨(SbO.alloc (x := x) ⟨by assumption, by assumption, by assumption, by assumption, by assumption⟩ _).1, (SbO.alloc (x := x) ⟨by assumption, by assumption, by assumption, by assumption, by assumption⟩ _).2.1, (SbO.alloc (x := x) ⟨by assumption, by assumption, by assumption, by assumption, by assumption⟩ _).2.2.1, (SbO.alloc (x := x) ⟨by assumption, by assumption, by assumption, by assumption, by assumption⟩ _).2.2.2.1, (SbO.alloc (x := x) ⟨by assumption, by assumption, by assumption, by assumption, by assumption⟩ _).2.2.2.2, bal (by assumption) _⟩) | (go_split_ands; exact ⟨(SbO.allocDrew (x := x) ⟨by assumption, by assumption, by assumption, by assumption, by assumption⟩ _).1, (SbO.allocDrew (x := x) ⟨by assumption, by assumption, by assumption, by assumption, by assumption⟩ _).2.1, (SbO.allocDrew (x := x) ⟨by assumption, by assumption, by assumption, by assumption, by assumption⟩ _).2.2.1, (SbO.allocDrew (x := x) ⟨by assumption, by assumption, by assumption, by assumption, by assumption⟩ _).2.2.2.1, (SbO.allocDrew (x := x) ⟨by assumption, by assumption, by assumption, by assumption, by assumption⟩ _).2.2.2.2, bal_drew (by assumption) _⟩)) (first | (go_at_call 52; refine (HC0.out _ _ ?hn).mono ?_; (case hn => first | exact (World.cell?_alloc_at _ _ _ _ (by simp)).trans rfl | simp); rintro e w' ⟨rfl, rfl⟩) | (go_at_call 51; refine (HS.out _).mono ?_; rintro e w' ⟨rfl, hb'⟩))) | fail
    rename_i hHeld
    obtain ⟨p0, p1, p2, p3, p4, hb⟩ := hHeld
    go_wp2
    go_ret2
    exact ⟨rfl, hb⟩

theorem implReturnAt_any (x : Sb) (p : Int) (q : Int) (w : World) (hs : x.id.size ≤ maxLen) : Calls Try.prog 22 #[.agg #[.string x.id, .int .i64 x.nd, .int .i64 x.tr, .int .i64 x.su, .int .i64 x.re], .int .i64 p, .int .i64 q] w fun e w' => e = .returned (.tuple #[.int .i64 (raV x p q), .int .i64 (raC x p q)]) ∧ Below w.heap.size w w' := by
  by_cases h1 : inB p 0 18000 = true
  · skip
    by_cases h2 : inB q 0 100000 = true
    · skip
      have hr : (inB p 0 18000 && inB q 0 100000) = true := by simp [*]
      by_cases hx : okSb x = true
      · skip
        by_cases hlt : p < x.re
        · have hl : decide (p < x.re) = true := decide_eq_true hlt
          have HS := Lib.hid (fun W => by have h := substationCode_any x true W hs; rw [hx] at h; exact h)
          have HC0 := Lib.hid (fun W b hc => by have h := isWater_free p b W hc; rw [h1] at h; exact h)
          have HC1 := Lib.hid (fun W => by have h := isPumped_any q W; rw [h2] at h; exact h)
          have hv : raV x p q = 0 := by unfold raV; rw [hx, hr]; simp [hlt]
          have hc : raC x p q = 6 := by unfold raC; rw [hx, hr]; simp [hlt]
          rw [hv, hc]
          clear hv hc hr
          have hp := SbO.new w x 34
          have ⟨p0, p1, p2, p3, p4⟩ := hp
          have hb : Below w.heap.size w (w.alloc (.cells #[.string x.id, .int .i64 x.nd, .int .i64 x.tr, .int .i64 x.su, .int .i64 x.re] 34)) := bal (Below.refl _ _) _
          go_enter Try.func22, Try.ntmps22
          go_wp2_with fail
          first | (go_region_held3 (fun w' => w'.cell? ⟨w.heap.size, 0, none⟩ = some (.string x.id) ∧ w'.cell? ⟨w.heap.size, 1, none⟩ = some (.int .i64 x.nd) ∧ w'.cell? ⟨w.heap.size, 2, none⟩ = some (.int .i64 x.tr) ∧ w'.cell? ⟨w.heap.size, 3, none⟩ = some (.int .i64 x.su) ∧ w'.cell? ⟨w.heap.size, 4, none⟩ = some (.int .i64 x.re) ∧ Below w.heap.size w w') (first | assumption | exact ⟨p0, p1, p2, p3, p4, below_drewN hb 1⟩ | (go_split_ands; have hq := SbO.next (x := x) ⟨by assumption, by assumption, by assumption, by assumption, by assumption⟩ hb'; exact ⟨hq.1, hq.2.1, hq.2.2.1, hq.2.2.2.1, hq.2.2.2.2, bnext (by assumption) hb'⟩) | exact ⟨(SbO.allocDrew hp _).1, (SbO.allocDrew hp _).2.1, (SbO.allocDrew hp _).2.2.1, (SbO.allocDrew hp _).2.2.2.1, (SbO.allocDrew hp _).2.2.2.2, bal_drew hb _⟩ | (have hq := SbO.next (SbO.allocDrew hp _) hb'; exact ⟨hq.1, hq.2.1, hq.2.2.1, hq.2.2.2.1, hq.2.2.2.2, bnext (bal_drew hb _) hb'⟩) | (go_split_ands; exact ⟨(SbO.alloc (x := x) ⟨by assumption, by assumption, by assumption, by assumption, by assumption⟩ _).1, (SbO.alloc (x := x) ⟨by assumption, by assumption, by assumption, by assumption, by assumption⟩ _).2.1, (SbO.alloc (x := x) ⟨by assumption, by assumption, by assumption, by assumption, by assumption⟩ _).2.2.1, (SbO.alloc (x := x) ⟨by assumption, by assumption, by assumption, by assumption, by assumption⟩ _).2.2.2.1, (SbO.alloc (x := x) ⟨by assumption, by assumption, by assumption, by assumption, by assumption⟩ _).2.2.2.2, bal (by assumption) _⟩) | (go_split_ands; exact ⟨(SbO.allocDrew (x := x) ⟨by assumption, by assumption, by assumption, by assumption, by assumption⟩ _).1, (SbO.allocDrew (x := x) ⟨by assumption, by assumption, by assumption, by assumption, by assumption⟩ _).2.1, (SbO.allocDrew (x := x) ⟨by assumption, by assumption, by assumption, by assumption, by assumption⟩ _).2.2.1, (SbO.allocDrew (x := x) ⟨by assumption, by assumption, by assumption, by assumption, by assumption⟩ _).2.2.2.1, (SbO.allocDrew (x := x) ⟨by assumption, by assumption, by assumption, by assumption, by assumption⟩ _).2.2.2.2, bal_drew (by assumption) _⟩)) (first | (go_at_call 52; refine (HC0.out _ _ ?hn).mono ?_; (case hn => first | exact (World.cell?_alloc_at _ _ _ _ (by simp)).trans rfl | simp); rintro e w' ⟨rfl, rfl⟩) | (go_at_call 58; refine (HC1.out _).mono ?_; rintro e w' ⟨rfl, hb'⟩) | (go_at_call 51; refine (HS.out _).mono ?_; rintro e w' ⟨rfl, hb'⟩))) | fail
          rename_i hHeld
          obtain ⟨p0, p1, p2, p3, p4, hb⟩ := hHeld
          go_wp2
          go_ret2
          exact ⟨rfl, hb⟩
        · have hl : decide (p < x.re) = false := decide_eq_false hlt
          have HS := Lib.hid (fun W => by have h := substationCode_any x true W hs; rw [hx] at h; exact h)
          have HC0 := Lib.hid (fun W b hc => by have h := isWater_free p b W hc; rw [h1] at h; exact h)
          have HC1 := Lib.hid (fun W => by have h := isPumped_any q W; rw [h2] at h; exact h)
          have hle : x.re ≤ p := by omega
          have hv : raV x p q = backI x.tr x.su x.re p q := by unfold raV; rw [hx, hr]; simp [hlt]
          have hc : raC x p q = 0 := by unfold raC; rw [hx, hr]; simp [hlt]
          rw [hv, hc]
          clear hv hc hr
          have hq1 := inB_iff.1 h1
          have hq2 := inB_iff.1 h2
          have hE := okSb_ex hx p hq1.1 hq1.2
          have HM := Lib.hid (fun W => back_any x p q W hE hle hq2.1 hq2.2)
          clear hle
          have hp := SbO.new w x 34
          have ⟨p0, p1, p2, p3, p4⟩ := hp
          have hb : Below w.heap.size w (w.alloc (.cells #[.string x.id, .int .i64 x.nd, .int .i64 x.tr, .int .i64 x.su, .int .i64 x.re] 34)) := bal (Below.refl _ _) _
          go_enter Try.func22, Try.ntmps22
          go_wp2_with fail
          first | (go_region_held3 (fun w' => w'.cell? ⟨w.heap.size, 0, none⟩ = some (.string x.id) ∧ w'.cell? ⟨w.heap.size, 1, none⟩ = some (.int .i64 x.nd) ∧ w'.cell? ⟨w.heap.size, 2, none⟩ = some (.int .i64 x.tr) ∧ w'.cell? ⟨w.heap.size, 3, none⟩ = some (.int .i64 x.su) ∧ w'.cell? ⟨w.heap.size, 4, none⟩ = some (.int .i64 x.re) ∧ Below w.heap.size w w') (first | assumption | exact ⟨p0, p1, p2, p3, p4, below_drewN hb 1⟩ | (go_split_ands; have hq := SbO.next (x := x) ⟨by assumption, by assumption, by assumption, by assumption, by assumption⟩ hb'; exact ⟨hq.1, hq.2.1, hq.2.2.1, hq.2.2.2.1, hq.2.2.2.2, bnext (by assumption) hb'⟩) | exact ⟨(SbO.allocDrew hp _).1, (SbO.allocDrew hp _).2.1, (SbO.allocDrew hp _).2.2.1, (SbO.allocDrew hp _).2.2.2.1, (SbO.allocDrew hp _).2.2.2.2, bal_drew hb _⟩ | (have hq := SbO.next (SbO.allocDrew hp _) hb'; exact ⟨hq.1, hq.2.1, hq.2.2.1, hq.2.2.2.1, hq.2.2.2.2, bnext (bal_drew hb _) hb'⟩) | (go_split_ands; exact ⟨(SbO.alloc (x := x) ⟨by assumption, by assumption, by assumption, by assumption, by assumption⟩ _).1, (SbO.alloc (x := x) ⟨by assumption, by assumption, by assumption, by assumption, by assumption⟩ _).2.1, (SbO.alloc (x := x) ⟨by assumption, by assumption, by assumption, by assumption, by assumption⟩ _).2.2.1, (SbO.alloc (x := x) ⟨by assumption, by assumption, by assumption, by assumption, by assumption⟩ _).2.2.2.1, (SbO.alloc (x := x) ⟨by assumption, by assumption, by assumption, by assumption, by assumption⟩ _).2.2.2.2, bal (by assumption) _⟩) | (go_split_ands; exact ⟨(SbO.allocDrew (x := x) ⟨by assumption, by assumption, by assumption, by assumption, by assumption⟩ _).1, (SbO.allocDrew (x := x) ⟨by assumption, by assumption, by assumption, by assumption, by assumption⟩ _).2.1, (SbO.allocDrew (x := x) ⟨by assumption, by assumption, by assumption, by assumption, by assumption⟩ _).2.2.1, (SbO.allocDrew (x := x) ⟨by assumption, by assumption, by assumption, by assumption, by assumption⟩ _).2.2.2.1, (SbO.allocDrew (x := x) ⟨by assumption, by assumption, by assumption, by assumption, by assumption⟩ _).2.2.2.2, bal_drew (by assumption) _⟩)) (first | (go_at_call 52; refine (HC0.out _ _ ?hn).mono ?_; (case hn => first | exact (World.cell?_alloc_at _ _ _ _ (by simp)).trans rfl | simp); rintro e w' ⟨rfl, rfl⟩) | (go_at_call 58; refine (HC1.out _).mono ?_; rintro e w' ⟨rfl, hb'⟩) | (go_at_call 51; refine (HS.out _).mono ?_; rintro e w' ⟨rfl, hb'⟩))) | fail
          rename_i hHeld
          obtain ⟨p0, p1, p2, p3, p4, hb⟩ := hHeld
          go_wp2_with (go_at_call 59; refine (HM.out _).mono ?_; rintro e w' ⟨rfl, hb'⟩; first | have hb := bnext hb hb' | have hb := bnext (bal hb _) hb' | have hb := bnext (bal (bal hb _) _) hb' | have hb := bnext (bal (bal (bal hb _) _) _) hb' | have hb := bnext (bal (bal (bal (bal hb _) _) _) _) hb' | have hb := bnext (bal (bal (bal (bal (bal hb _) _) _) _) _) hb')
          go_ret2
          first | exact ⟨rfl, hb⟩ | exact ⟨rfl, (bal hb _)⟩ | exact ⟨rfl, (bal (bal hb _) _)⟩ | exact ⟨rfl, (bal (bal (bal hb _) _) _)⟩ | exact ⟨rfl, (bal (bal (bal (bal hb _) _) _) _)⟩ | exact ⟨rfl, (bal (bal (bal (bal (bal hb _) _) _) _) _)⟩
      · skip
        have hx' : okSb x = false := by simpa using hx
        have hv : raV x p q = 0 := by unfold raV; rw [hx', Bool.false_and]; rfl
        have hc : raC x p q = 1 := by unfold raC; rw [hx', Bool.false_and]; rfl
        rw [hv, hc]
        clear hv hc
        have HS := Lib.hid (fun W => by have h := substationCode_any x true W hs; rw [hx'] at h; exact h)
        have HC0 := Lib.hid (fun W b hc => by have h := isWater_free p b W hc; rw [h1] at h; exact h)
        have HC1 := Lib.hid (fun W => by have h := isPumped_any q W; rw [h2] at h; exact h)
        clear hx hx' hr
        have hp := SbO.new w x 34
        have ⟨p0, p1, p2, p3, p4⟩ := hp
        have hb : Below w.heap.size w (w.alloc (.cells #[.string x.id, .int .i64 x.nd, .int .i64 x.tr, .int .i64 x.su, .int .i64 x.re] 34)) := bal (Below.refl _ _) _
        go_enter Try.func22, Try.ntmps22
        go_wp2_with fail
        first | (go_region_held3 (fun w' => w'.cell? ⟨w.heap.size, 0, none⟩ = some (.string x.id) ∧ w'.cell? ⟨w.heap.size, 1, none⟩ = some (.int .i64 x.nd) ∧ w'.cell? ⟨w.heap.size, 2, none⟩ = some (.int .i64 x.tr) ∧ w'.cell? ⟨w.heap.size, 3, none⟩ = some (.int .i64 x.su) ∧ w'.cell? ⟨w.heap.size, 4, none⟩ = some (.int .i64 x.re) ∧ Below w.heap.size w w') (first | assumption | exact ⟨p0, p1, p2, p3, p4, below_drewN hb 1⟩ | (go_split_ands; have hq := SbO.next (x := x) ⟨by assumption, by assumption, by assumption, by assumption, by assumption⟩ hb'; exact ⟨hq.1, hq.2.1, hq.2.2.1, hq.2.2.2.1, hq.2.2.2.2, bnext (by assumption) hb'⟩) | exact ⟨(SbO.allocDrew hp _).1, (SbO.allocDrew hp _).2.1, (SbO.allocDrew hp _).2.2.1, (SbO.allocDrew hp _).2.2.2.1, (SbO.allocDrew hp _).2.2.2.2, bal_drew hb _⟩ | (have hq := SbO.next (SbO.allocDrew hp _) hb'; exact ⟨hq.1, hq.2.1, hq.2.2.1, hq.2.2.2.1, hq.2.2.2.2, bnext (bal_drew hb _) hb'⟩) | (go_split_ands; exact ⟨(SbO.alloc (x := x) ⟨by assumption, by assumption, by assumption, by assumption, by assumption⟩ _).1, (SbO.alloc (x := x) ⟨by assumption, by assumption, by assumption, by assumption, by assumption⟩ _).2.1, (SbO.alloc (x := x) ⟨by assumption, by assumption, by assumption, by assumption, by assumption⟩ _).2.2.1, (SbO.alloc (x := x) ⟨by assumption, by assumption, by assumption, by assumption, by assumption⟩ _).2.2.2.1, (SbO.alloc (x := x) ⟨by assumption, by assumption, by assumption, by assumption, by assumption⟩ _).2.2.2.2, bal (by assumption) _⟩) | (go_split_ands; exact ⟨(SbO.allocDrew (x := x) ⟨by assumption, by assumption, by assumption, by assumption, by assumption⟩ _).1, (SbO.allocDrew (x := x) ⟨by assumption, by assumption, by assumption, by assumption, by assumption⟩ _).2.1, (SbO.allocDrew (x := x) ⟨by assumption, by assumption, by assumption, by assumption, by assumption⟩ _).2.2.1, (SbO.allocDrew (x := x) ⟨by assumption, by assumption, by assumption, by assumption, by assumption⟩ _).2.2.2.1, (SbO.allocDrew (x := x) ⟨by assumption, by assumption, by assumption, by assumption, by assumption⟩ _).2.2.2.2, bal_drew (by assumption) _⟩)) (first | (go_at_call 52; refine (HC0.out _ _ ?hn).mono ?_; (case hn => first | exact (World.cell?_alloc_at _ _ _ _ (by simp)).trans rfl | simp); rintro e w' ⟨rfl, rfl⟩) | (go_at_call 58; refine (HC1.out _).mono ?_; rintro e w' ⟨rfl, hb'⟩) | (go_at_call 51; refine (HS.out _).mono ?_; rintro e w' ⟨rfl, hb'⟩))) | fail
        rename_i hHeld
        obtain ⟨p0, p1, p2, p3, p4, hb⟩ := hHeld
        go_wp2
        go_ret2
        exact ⟨rfl, hb⟩
    · have h2' : inB q 0 100000 = false := by simpa using h2
      have hr : (inB p 0 18000 && inB q 0 100000) = false := by simp [*]
      have hv : raV x p q = 0 := by unfold raV; rw [hr, Bool.and_false]; rfl
      have hc : raC x p q = argC (okSb x) false := by unfold raC; rw [hr, Bool.and_false]; rfl
      rw [hv, hc]
      clear hv hc
      have HS := Lib.hid (fun W => substationCode_any x false W hs)
      have hk : argC (okSb x) false ≠ 0 := by unfold argC; split <;> decide
      generalize argC (okSb x) false = k at *
      have HC0 := Lib.hid (fun W b hc => by have h := isWater_free p b W hc; rw [h1] at h; exact h)
      have HC1 := Lib.hid (fun W => by have h := isPumped_any q W; rw [h2'] at h; exact h)
      have hp := SbO.new w x 34
      have ⟨p0, p1, p2, p3, p4⟩ := hp
      have hb : Below w.heap.size w (w.alloc (.cells #[.string x.id, .int .i64 x.nd, .int .i64 x.tr, .int .i64 x.su, .int .i64 x.re] 34)) := bal (Below.refl _ _) _
      go_enter Try.func22, Try.ntmps22
      go_wp2_with fail
      first | (go_region_held3 (fun w' => w'.cell? ⟨w.heap.size, 0, none⟩ = some (.string x.id) ∧ w'.cell? ⟨w.heap.size, 1, none⟩ = some (.int .i64 x.nd) ∧ w'.cell? ⟨w.heap.size, 2, none⟩ = some (.int .i64 x.tr) ∧ w'.cell? ⟨w.heap.size, 3, none⟩ = some (.int .i64 x.su) ∧ w'.cell? ⟨w.heap.size, 4, none⟩ = some (.int .i64 x.re) ∧ Below w.heap.size w w') (first | assumption | exact ⟨p0, p1, p2, p3, p4, below_drewN hb 1⟩ | (go_split_ands; have hq := SbO.next (x := x) ⟨by assumption, by assumption, by assumption, by assumption, by assumption⟩ hb'; exact ⟨hq.1, hq.2.1, hq.2.2.1, hq.2.2.2.1, hq.2.2.2.2, bnext (by assumption) hb'⟩) | exact ⟨(SbO.allocDrew hp _).1, (SbO.allocDrew hp _).2.1, (SbO.allocDrew hp _).2.2.1, (SbO.allocDrew hp _).2.2.2.1, (SbO.allocDrew hp _).2.2.2.2, bal_drew hb _⟩ | (have hq := SbO.next (SbO.allocDrew hp _) hb'; exact ⟨hq.1, hq.2.1, hq.2.2.1, hq.2.2.2.1, hq.2.2.2.2, bnext (bal_drew hb _) hb'⟩) | (go_split_ands; exact ⟨(SbO.alloc (x := x) ⟨by assumption, by assumption, by assumption, by assumption, by assumption⟩ _).1, (SbO.alloc (x := x) ⟨by assumption, by assumption, by assumption, by assumption, by assumption⟩ _).2.1, (SbO.alloc (x := x) ⟨by assumption, by assumption, by assumption, by assumption, by assumption⟩ _).2.2.1, (SbO.alloc (x := x) ⟨by assumption, by assumption, by assumption, by assumption, by assumption⟩ _).2.2.2.1, (SbO.alloc (x := x) ⟨by assumption, by assumption, by assumption, by assumption, by assumption⟩ _).2.2.2.2, bal (by assumption) _⟩) | (go_split_ands; exact ⟨(SbO.allocDrew (x := x) ⟨by assumption, by assumption, by assumption, by assumption, by assumption⟩ _).1, (SbO.allocDrew (x := x) ⟨by assumption, by assumption, by assumption, by assumption, by assumption⟩ _).2.1, (SbO.allocDrew (x := x) ⟨by assumption, by assumption, by assumption, by assumption, by assumption⟩ _).2.2.1, (SbO.allocDrew (x := x) ⟨by assumption, by assumption, by assumption, by assumption, by assumption⟩ _).2.2.2.1, (SbO.allocDrew (x := x) ⟨by assumption, by assumption, by assumption, by assumption, by assumption⟩ _).2.2.2.2, bal_drew (by assumption) _⟩)) (first | (go_at_call 52; refine (HC0.out _ _ ?hn).mono ?_; (case hn => first | exact (World.cell?_alloc_at _ _ _ _ (by simp)).trans rfl | simp); rintro e w' ⟨rfl, rfl⟩) | (go_at_call 58; refine (HC1.out _).mono ?_; rintro e w' ⟨rfl, hb'⟩) | (go_at_call 51; refine (HS.out _).mono ?_; rintro e w' ⟨rfl, hb'⟩))) | fail
      rename_i hHeld
      obtain ⟨p0, p1, p2, p3, p4, hb⟩ := hHeld
      go_wp2
      go_ret2
      exact ⟨rfl, hb⟩
  · have h1' : inB p 0 18000 = false := by simpa using h1
    have hr : (inB p 0 18000 && inB q 0 100000) = false := by simp [*]
    have hv : raV x p q = 0 := by unfold raV; rw [hr, Bool.and_false]; rfl
    have hc : raC x p q = argC (okSb x) false := by unfold raC; rw [hr, Bool.and_false]; rfl
    rw [hv, hc]
    clear hv hc
    have HS := Lib.hid (fun W => substationCode_any x false W hs)
    have hk : argC (okSb x) false ≠ 0 := by unfold argC; split <;> decide
    generalize argC (okSb x) false = k at *
    have HC0 := Lib.hid (fun W b hc => by have h := isWater_free p b W hc; rw [h1'] at h; exact h)
    have hp := SbO.new w x 34
    have ⟨p0, p1, p2, p3, p4⟩ := hp
    have hb : Below w.heap.size w (w.alloc (.cells #[.string x.id, .int .i64 x.nd, .int .i64 x.tr, .int .i64 x.su, .int .i64 x.re] 34)) := bal (Below.refl _ _) _
    go_enter Try.func22, Try.ntmps22
    go_wp2_with fail
    first | (go_region_held (fun w' => w'.cell? ⟨w.heap.size, 0, none⟩ = some (.string x.id) ∧ w'.cell? ⟨w.heap.size, 1, none⟩ = some (.int .i64 x.nd) ∧ w'.cell? ⟨w.heap.size, 2, none⟩ = some (.int .i64 x.tr) ∧ w'.cell? ⟨w.heap.size, 3, none⟩ = some (.int .i64 x.su) ∧ w'.cell? ⟨w.heap.size, 4, none⟩ = some (.int .i64 x.re) ∧ Below w.heap.size w w') (first | assumption | exact ⟨p0, p1, p2, p3, p4, below_drewN hb 1⟩ | (go_split_ands; have hq := SbO.next (x := x) ⟨by assumption, by assumption, by assumption, by assumption, by assumption⟩ hb'; exact ⟨hq.1, hq.2.1, hq.2.2.1, hq.2.2.2.1, hq.2.2.2.2, bnext (by assumption) hb'⟩) | exact ⟨(SbO.allocDrew hp _).1, (SbO.allocDrew hp _).2.1, (SbO.allocDrew hp _).2.2.1, (SbO.allocDrew hp _).2.2.2.1, (SbO.allocDrew hp _).2.2.2.2, bal_drew hb _⟩ | (have hq := SbO.next (SbO.allocDrew hp _) hb'; exact ⟨hq.1, hq.2.1, hq.2.2.1, hq.2.2.2.1, hq.2.2.2.2, bnext (bal_drew hb _) hb'⟩) | (go_split_ands; exact ⟨(SbO.alloc (x := x) ⟨by assumption, by assumption, by assumption, by assumption, by assumption⟩ _).1, (SbO.alloc (x := x) ⟨by assumption, by assumption, by assumption, by assumption, by assumption⟩ _).2.1, (SbO.alloc (x := x) ⟨by assumption, by assumption, by assumption, by assumption, by assumption⟩ _).2.2.1, (SbO.alloc (x := x) ⟨by assumption, by assumption, by assumption, by assumption, by assumption⟩ _).2.2.2.1, (SbO.alloc (x := x) ⟨by assumption, by assumption, by assumption, by assumption, by assumption⟩ _).2.2.2.2, bal (by assumption) _⟩) | (go_split_ands; exact ⟨(SbO.allocDrew (x := x) ⟨by assumption, by assumption, by assumption, by assumption, by assumption⟩ _).1, (SbO.allocDrew (x := x) ⟨by assumption, by assumption, by assumption, by assumption, by assumption⟩ _).2.1, (SbO.allocDrew (x := x) ⟨by assumption, by assumption, by assumption, by assumption, by assumption⟩ _).2.2.1, (SbO.allocDrew (x := x) ⟨by assumption, by assumption, by assumption, by assumption, by assumption⟩ _).2.2.2.1, (SbO.allocDrew (x := x) ⟨by assumption, by assumption, by assumption, by assumption, by assumption⟩ _).2.2.2.2, bal_drew (by assumption) _⟩)) (first | (go_at_call 52; refine (HC0.out _ _ ?hn).mono ?_; (case hn => first | exact (World.cell?_alloc_at _ _ _ _ (by simp)).trans rfl | simp); rintro e w' ⟨rfl, rfl⟩) | (go_at_call 51; refine (HS.out _).mono ?_; rintro e w' ⟨rfl, hb'⟩))) | fail
    rename_i hHeld
    obtain ⟨p0, p1, p2, p3, p4, hb⟩ := hHeld
    go_wp2
    go_ret2
    exact ⟨rfl, hb⟩

end Go.Proofs.Ytdaedgdglammhab
