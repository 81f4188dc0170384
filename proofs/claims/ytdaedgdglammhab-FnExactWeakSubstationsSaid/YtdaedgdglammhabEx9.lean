/-
  The power of a flow of the model; PowerAt and ReturnAt of the model.
-/
import Derived.Test.YtdaedgdglammhabEx7
import Derived.Test.YtdaedgdglammhabEx8
namespace Go.Proofs.Ytdaedgdglammhab
open Go.ChangeShapes Go.WideShapes Go.ChangeAt Go.RowKit Go.Shelf

set_option linter.unusedVariables false
set_option linter.unusedSimpArgs false
set_option maxRecDepth 100000
theorem l12Power_any (b o : Nat) (x : Sb) (p q : Int) (w : World) (hx : SbO w b o x) (h : exB x p) (q0 : 0 ≤ q) (q1 : q ≤ 100000) :
    Calls Try.prog 64 #[.pointer (some ⟨b, o, none⟩), .int .i64 p, .int .i64 q] w fun e w' => e = .returned (.int .i64 (powI x.tr x.su x.re p q)) ∧ Below w.heap.size w w' := by
  have hb : Below w.heap.size w w := Below.refl _ _
  have ⟨p0, p1, p2, p3, p4⟩ := hx
  by_cases hlt : p < x.re
  · have hv : powI x.tr x.su x.re p q = 0 := if_pos hlt
    have hl : decide (p < x.re) = true := decide_eq_true hlt
    rw [hv]
    clear hv
    go_enter Try.func64, Try.ntmps64
    go_wp2
    go_ret
    exact ⟨rfl, hb⟩
  · have HB := Lib.hid (fun (W : World) (hW : Below w.heap.size w W) => l12Back_any b o x p q W (hx.next hW) h q0 q1 (by omega))
    have hl : decide (p < x.re) = false := decide_eq_false hlt
    generalize powI x.tr x.su x.re p q = k at *
    generalize backI x.tr x.su x.re p q = r at *
    go_enter Try.func64, Try.ntmps64
    go_wp2_with ((go_at_call 57; refine (HB.out _ hb).mono ?_; rintro e w' ⟨rfl, hb'⟩; have hb := bnext hb hb'))
    go_ret
    exact ⟨rfl, hb⟩

theorem specPowerAt_any (x : Sb) (p : Int) (q : Int) (w : World) (hs : x.id.size ≤ maxLen) : Calls Try.prog 25 #[.agg #[.string x.id, .int .i64 x.nd, .int .i64 x.tr, .int .i64 x.su, .int .i64 x.re], .int .i64 p, .int .i64 q] w fun e w' => e = .returned (.tuple #[.int .i64 (paV x p q), .int .i64 (paC x p q)]) ∧ Below w.heap.size w w' := by
  by_cases hx : okSb x = true
  · skip
    by_cases h1 : inB p 0 18000 = true
    · skip
      by_cases h2 : inB q 0 100000 = true
      · skip
        have hr : (inB p 0 18000 && inB q 0 100000) = true := by simp [*]
        have HX := Lib.hid (fun W (hq : SbO W w.heap.size 0 x) => by have h := l12One_any w.heap.size 0 x W hq hs; rw [hx] at h; exact h)
        have hp := SbO.new w x 34
        have ⟨p0, p1, p2, p3, p4⟩ := hp
        have hb : Below w.heap.size w (w.alloc (.cells #[.string x.id, .int .i64 x.nd, .int .i64 x.tr, .int .i64 x.su, .int .i64 x.re] 34)) := bal (Below.refl _ _) _
        have hv : paV x p q = powI x.tr x.su x.re p q := by unfold paV; rw [hx, hr]; simp [*]
        have hc : paC x p q = 0 := by unfold paC; rw [hx, hr]; simp [argC, *]
        rw [hv, hc]
        clear hv hc hr
        have hq1 := inB_iff.1 h1
        have hq2 := inB_iff.1 h2
        have hE := okSb_ex hx p hq1.1 hq1.2
        have HM := Lib.hid (fun W (hq : SbO W w.heap.size 0 x) => l12Power_any w.heap.size 0 x p q W hq hE hq2.1 hq2.2)
        go_enter Try.func25, Try.ntmps25
        go_wp2_with (first | (go_at_call 48; refine (l02Degrees_any _ _).mono ?_; rintro e w' ⟨rfl, rfl⟩) | (go_at_call 56; refine (l02Flow_any _ _).mono ?_; rintro e w' ⟨rfl, rfl⟩) | (go_at_call 47; refine (HX.out _ hp).mono ?_; rintro e w' ⟨rfl, hd'⟩; have hb' := Drawn.below hd'; first | (have hb := bnext hb hb'; have hp := SbO.next hp hb'; have ⟨p0, p1, p2, p3, p4⟩ := hp) | (have hb := bnext (bal hb _) hb'; have hp := SbO.next (SbO.alloc hp _) hb'; have ⟨p0, p1, p2, p3, p4⟩ := hp) | (have hb := bnext (bal (bal hb _) _) hb'; have hp := SbO.next (SbO.alloc (SbO.alloc hp _) _) hb'; have ⟨p0, p1, p2, p3, p4⟩ := hp) | (have hb := bnext (bal (bal (bal hb _) _) _) hb'; have hp := SbO.next (SbO.alloc (SbO.alloc (SbO.alloc hp _) _) _) hb'; have ⟨p0, p1, p2, p3, p4⟩ := hp)) | (go_at_call 64; refine (HM.out _ hp).mono ?_; rintro e w' ⟨rfl, hb'⟩; first | (have hb := bnext hb hb'; have hp := SbO.next hp hb'; have ⟨p0, p1, p2, p3, p4⟩ := hp) | (have hb := bnext (bal hb _) hb'; have hp := SbO.next (SbO.alloc hp _) hb'; have ⟨p0, p1, p2, p3, p4⟩ := hp) | (have hb := bnext (bal (bal hb _) _) hb'; have hp := SbO.next (SbO.alloc (SbO.alloc hp _) _) hb'; have ⟨p0, p1, p2, p3, p4⟩ := hp) | (have hb := bnext (bal (bal (bal hb _) _) _) hb'; have hp := SbO.next (SbO.alloc (SbO.alloc (SbO.alloc hp _) _) _) hb'; have ⟨p0, p1, p2, p3, p4⟩ := hp)))
        go_ret2
        first | exact ⟨rfl, hb⟩ | exact ⟨rfl, (bal hb _)⟩ | exact ⟨rfl, (bal (bal hb _) _)⟩ | exact ⟨rfl, (bal (bal (bal hb _) _) _)⟩ | exact ⟨rfl, (bal (bal (bal (bal hb _) _) _) _)⟩ | exact ⟨rfl, (bal (bal (bal (bal (bal hb _) _) _) _) _)⟩
      · skip
        have h2' : inB q 0 100000 = false := by simpa using h2
        have hr : (inB p 0 18000 && inB q 0 100000) = false := by simp [*]
        have hv : paV x p q = 0 := by unfold paV; rw [hr]; simp
        have hc : paC x p q = 2 := by unfold paC; rw [hx, hr]; try simp [argC]
        rw [hv, hc]
        clear hv hc hr
        have HX := Lib.hid (fun W (hq : SbO W w.heap.size 0 x) => by have h := l12One_any w.heap.size 0 x W hq hs; rw [hx] at h; exact h)
        have hp := SbO.new w x 34
        have ⟨p0, p1, p2, p3, p4⟩ := hp
        have hb : Below w.heap.size w (w.alloc (.cells #[.string x.id, .int .i64 x.nd, .int .i64 x.tr, .int .i64 x.su, .int .i64 x.re] 34)) := bal (Below.refl _ _) _
        go_enter Try.func25, Try.ntmps25
        go_wp2_with (first | (go_at_call 48; refine (l02Degrees_any _ _).mono ?_; rintro e w' ⟨rfl, rfl⟩) | (go_at_call 56; refine (l02Flow_any _ _).mono ?_; rintro e w' ⟨rfl, rfl⟩) | (go_at_call 47; refine (HX.out _ hp).mono ?_; rintro e w' ⟨rfl, hd'⟩; have hb' := Drawn.below hd'; first | (have hb := bnext hb hb'; have hp := SbO.next hp hb'; have ⟨p0, p1, p2, p3, p4⟩ := hp) | (have hb := bnext (bal hb _) hb'; have hp := SbO.next (SbO.alloc hp _) hb'; have ⟨p0, p1, p2, p3, p4⟩ := hp) | (have hb := bnext (bal (bal hb _) _) hb'; have hp := SbO.next (SbO.alloc (SbO.alloc hp _) _) hb'; have ⟨p0, p1, p2, p3, p4⟩ := hp) | (have hb := bnext (bal (bal (bal hb _) _) _) hb'; have hp := SbO.next (SbO.alloc (SbO.alloc (SbO.alloc hp _) _) _) hb'; have ⟨p0, p1, p2, p3, p4⟩ := hp)))
        go_ret2
        first | exact ⟨rfl, hb⟩ | exact ⟨rfl, (bal hb _)⟩ | exact ⟨rfl, (bal (bal hb _) _)⟩ | exact ⟨rfl, (bal (bal (bal hb _) _) _)⟩ | exact ⟨rfl, (bal (bal (bal (bal hb _) _) _) _)⟩ | exact ⟨rfl, (bal (bal (bal (bal (bal hb _) _) _) _) _)⟩
    · skip
      have h1' : inB p 0 18000 = false := by simpa using h1
      have hr : (inB p 0 18000 && inB q 0 100000) = false := by simp [*]
      have hv : paV x p q = 0 := by unfold paV; rw [hr]; simp
      have hc : paC x p q = 2 := by unfold paC; rw [hx, hr]; try simp [argC]
      rw [hv, hc]
      clear hv hc hr
      have HX := Lib.hid (fun W (hq : SbO W w.heap.size 0 x) => by have h := l12One_any w.heap.size 0 x W hq hs; rw [hx] at h; exact h)
      have hp := SbO.new w x 34
      have ⟨p0, p1, p2, p3, p4⟩ := hp
      have hb : Below w.heap.size w (w.alloc (.cells #[.string x.id, .int .i64 x.nd, .int .i64 x.tr, .int .i64 x.su, .int .i64 x.re] 34)) := bal (Below.refl _ _) _
      go_enter Try.func25, Try.ntmps25
      go_wp2_with (first | (go_at_call 48; refine (l02Degrees_any _ _).mono ?_; rintro e w' ⟨rfl, rfl⟩) | (go_at_call 56; refine (l02Flow_any _ _).mono ?_; rintro e w' ⟨rfl, rfl⟩) | (go_at_call 47; refine (HX.out _ hp).mono ?_; rintro e w' ⟨rfl, hd'⟩; have hb' := Drawn.below hd'; first | (have hb := bnext hb hb'; have hp := SbO.next hp hb'; have ⟨p0, p1, p2, p3, p4⟩ := hp) | (have hb := bnext (bal hb _) hb'; have hp := SbO.next (SbO.alloc hp _) hb'; have ⟨p0, p1, p2, p3, p4⟩ := hp) | (have hb := bnext (bal (bal hb _) _) hb'; have hp := SbO.next (SbO.alloc (SbO.alloc hp _) _) hb'; have ⟨p0, p1, p2, p3, p4⟩ := hp) | (have hb := bnext (bal (bal (bal hb _) _) _) hb'; have hp := SbO.next (SbO.alloc (SbO.alloc (SbO.alloc hp _) _) _) hb'; have ⟨p0, p1, p2, p3, p4⟩ := hp)))
      go_ret2
      first | exact ⟨rfl, hb⟩ | exact ⟨rfl, (bal hb _)⟩ | exact ⟨rfl, (bal (bal hb _) _)⟩ | exact ⟨rfl, (bal (bal (bal hb _) _) _)⟩ | exact ⟨rfl, (bal (bal (bal (bal hb _) _) _) _)⟩ | exact ⟨rfl, (bal (bal (bal (bal (bal hb _) _) _) _) _)⟩
  · skip
    have hx' : okSb x = false := by simpa using hx
    have hv : paV x p q = 0 := by unfold paV; rw [hx']; simp
    have hc : paC x p q = 1 := by unfold paC; rw [hx']; simp [argC]
    rw [hv, hc]
    clear hv hc
    have HX := Lib.hid (fun W (hq : SbO W w.heap.size 0 x) => by have h := l12One_any w.heap.size 0 x W hq hs; rw [hx'] at h; exact h)
    have hp := SbO.new w x 34
    have ⟨p0, p1, p2, p3, p4⟩ := hp
    have hb : Below w.heap.size w (w.alloc (.cells #[.string x.id, .int .i64 x.nd, .int .i64 x.tr, .int .i64 x.su, .int .i64 x.re] 34)) := bal (Below.refl _ _) _
    go_enter Try.func25, Try.ntmps25
    go_wp2_with (first | (go_at_call 48; refine (l02Degrees_any _ _).mono ?_; rintro e w' ⟨rfl, rfl⟩) | (go_at_call 56; refine (l02Flow_any _ _).mono ?_; rintro e w' ⟨rfl, rfl⟩) | (go_at_call 47; refine (HX.out _ hp).mono ?_; rintro e w' ⟨rfl, hd'⟩; have hb' := Drawn.below hd'; first | (have hb := bnext hb hb'; have hp := SbO.next hp hb'; have ⟨p0, p1, p2, p3, p4⟩ := hp) | (have hb := bnext (bal hb _) hb'; have hp := SbO.next (SbO.alloc hp _) hb'; have ⟨p0, p1, p2, p3, p4⟩ := hp) | (have hb := bnext (bal (bal hb _) _) hb'; have hp := SbO.next (SbO.alloc (SbO.alloc hp _) _) hb'; have ⟨p0, p1, p2, p3, p4⟩ := hp) | (have hb := bnext (bal (bal (bal hb _) _) _) hb'; have hp := SbO.next (SbO.alloc (SbO.alloc (SbO.alloc hp _) _) _) hb'; have ⟨p0, p1, p2, p3, p4⟩ := hp)))
    go_ret2
    first | exact ⟨rfl, hb⟩ | exact ⟨rfl, (bal hb _)⟩ | exact ⟨rfl, (bal (bal hb _) _)⟩ | exact ⟨rfl, (bal (bal (bal hb _) _) _)⟩ | exact ⟨rfl, (bal (bal (bal (bal hb _) _) _) _)⟩ | exact ⟨rfl, (bal (bal (bal (bal (bal hb _) _) _) _) _)⟩

theorem specReturnAt_any (x : Sb) (p : Int) (q : Int) (w : World) (hs : x.id.size ≤ maxLen) : Calls Try.prog 21 #[.agg #[.string x.id, .int .i64 x.nd, .int .i64 x.tr, .int .i64 x.su, .int .i64 x.re], .int .i64 p, .int .i64 q] w fun e w' => e = .returned (.tuple #[.int .i64 (raV x p q), .int .i64 (raC x p q)]) ∧ Below w.heap.size w w' := by
  by_cases hx : okSb x = true
  · skip
    by_cases h1 : inB p 0 18000 = true
    · skip
      by_cases h2 : inB q 0 100000 = true
      · skip
        have hr : (inB p 0 18000 && inB q 0 100000) = true := by simp [*]
        have HX := Lib.hid (fun W (hq : SbO W w.heap.size 0 x) => by have h := l12One_any w.heap.size 0 x W hq hs; rw [hx] at h; exact h)
        have hp := SbO.new w x 34
        have ⟨p0, p1, p2, p3, p4⟩ := hp
        have hb : Below w.heap.size w (w.alloc (.cells #[.string x.id, .int .i64 x.nd, .int .i64 x.tr, .int .i64 x.su, .int .i64 x.re] 34)) := bal (Below.refl _ _) _
        by_cases hlt : p < x.re
        · skip
          have hl : decide (p < x.re) = true := decide_eq_true hlt
          have hv : raV x p q = 0 := by unfold raV; rw [hx, hr]; simp [*]
          have hc : raC x p q = 6 := by unfold raC; rw [hx, hr]; simp [argC, *]
          rw [hv, hc]
          clear hv hc hr
          have hq1 := inB_iff.1 h1
          have hq2 := inB_iff.1 h2
          have hE := okSb_ex hx p hq1.1 hq1.2
          clear hlt
          go_enter Try.func21, Try.ntmps21
          go_wp2_with (first | (go_at_call 48; refine (l02Degrees_any _ _).mono ?_; rintro e w' ⟨rfl, rfl⟩) | (go_at_call 56; refine (l02Flow_any _ _).mono ?_; rintro e w' ⟨rfl, rfl⟩) | (go_at_call 47; refine (HX.out _ hp).mono ?_; rintro e w' ⟨rfl, hd'⟩; have hb' := Drawn.below hd'; first | (have hb := bnext hb hb'; have hp := SbO.next hp hb'; have ⟨p0, p1, p2, p3, p4⟩ := hp) | (have hb := bnext (bal hb _) hb'; have hp := SbO.next (SbO.alloc hp _) hb'; have ⟨p0, p1, p2, p3, p4⟩ := hp) | (have hb := bnext (bal (bal hb _) _) hb'; have hp := SbO.next (SbO.alloc (SbO.alloc hp _) _) hb'; have ⟨p0, p1, p2, p3, p4⟩ := hp) | (have hb := bnext (bal (bal (bal hb _) _) _) hb'; have hp := SbO.next (SbO.alloc (SbO.alloc (SbO.alloc hp _) _) _) hb'; have ⟨p0, p1, p2, p3, p4⟩ := hp)))
          go_ret2
          first | exact ⟨rfl, hb⟩ | exact ⟨rfl, (bal hb _)⟩ | exact ⟨rfl, (bal (bal hb _) _)⟩ | exact ⟨rfl, (bal (bal (bal hb _) _) _)⟩ | exact ⟨rfl, (bal (bal (bal (bal hb _) _) _) _)⟩ | exact ⟨rfl, (bal (bal (bal (bal (bal hb _) _) _) _) _)⟩
        · skip
          have hl : decide (p < x.re) = false := decide_eq_false hlt
          have hv : raV x p q = backI x.tr x.su x.re p q := by unfold raV; rw [hx, hr]; simp [*]
          have hc : raC x p q = 0 := by unfold raC; rw [hx, hr]; simp [argC, *]
          rw [hv, hc]
          clear hv hc hr
          have hq1 := inB_iff.1 h1
          have hq2 := inB_iff.1 h2
          have hE := okSb_ex hx p hq1.1 hq1.2
          have HM := Lib.hid (fun W (hq : SbO W w.heap.size 0 x) => l12Back_any w.heap.size 0 x p q W hq hE hq2.1 hq2.2 (by omega))
          go_enter Try.func21, Try.ntmps21
          go_wp2_with (first | (go_at_call 48; refine (l02Degrees_any _ _).mono ?_; rintro e w' ⟨rfl, rfl⟩) | (go_at_call 56; refine (l02Flow_any _ _).mono ?_; rintro e w' ⟨rfl, rfl⟩) | (go_at_call 47; refine (HX.out _ hp).mono ?_; rintro e w' ⟨rfl, hd'⟩; have hb' := Drawn.below hd'; first | (have hb := bnext hb hb'; have hp := SbO.next hp hb'; have ⟨p0, p1, p2, p3, p4⟩ := hp) | (have hb := bnext (bal hb _) hb'; have hp := SbO.next (SbO.alloc hp _) hb'; have ⟨p0, p1, p2, p3, p4⟩ := hp) | (have hb := bnext (bal (bal hb _) _) hb'; have hp := SbO.next (SbO.alloc (SbO.alloc hp _) _) hb'; have ⟨p0, p1, p2, p3, p4⟩ := hp) | (have hb := bnext (bal (bal (bal hb _) _) _) hb'; have hp := SbO.next (SbO.alloc (SbO.alloc (SbO.alloc hp _) _) _) hb'; have ⟨p0, p1, p2, p3, p4⟩ := hp)) | (go_at_call 57; refine (HM.out _ hp).mono ?_; rintro e w' ⟨rfl, hb'⟩; first | (have hb := bnext hb hb'; have hp := SbO.next hp hb'; have ⟨p0, p1, p2, p3, p4⟩ := hp) | (have hb := bnext (bal hb _) hb'; have hp := SbO.next (SbO.alloc hp _) hb'; have ⟨p0, p1, p2, p3, p4⟩ := hp) | (have hb := bnext (bal (bal hb _) _) hb'; have hp := SbO.next (SbO.alloc (SbO.alloc hp _) _) hb'; have ⟨p0, p1, p2, p3, p4⟩ := hp) | (have hb := bnext (bal (bal (bal hb _) _) _) hb'; have hp := SbO.next (SbO.alloc (SbO.alloc (SbO.alloc hp _) _) _) hb'; have ⟨p0, p1, p2, p3, p4⟩ := hp)))
          go_ret2
          first | exact ⟨rfl, hb⟩ | exact ⟨rfl, (bal hb _)⟩ | exact ⟨rfl, (bal (bal hb _) _)⟩ | exact ⟨rfl, (bal (bal (bal hb _) _) _)⟩ | exact ⟨rfl, (bal (bal (bal (bal hb _) _) _) _)⟩ | exact ⟨rfl, (bal (bal (bal (bal (bal hb _) _) _) _) _)⟩
      · skip
        have h2' : inB q 0 100000 = false := by simpa using h2
        have hr : (inB p 0 18000 && inB q 0 100000) = false := by simp [*]
        have hv : raV x p q = 0 := by unfold raV; rw [hr, Bool.and_false]; rfl
        have hc : raC x p q = 2 := by unfold raC; rw [hx, hr]; rfl
        rw [hv, hc]
        clear hv hc hr
        have HX := Lib.hid (fun W (hq : SbO W w.heap.size 0 x) => by have h := l12One_any w.heap.size 0 x W hq hs; rw [hx] at h; exact h)
        have hp := SbO.new w x 34
        have ⟨p0, p1, p2, p3, p4⟩ := hp
        have hb : Below w.heap.size w (w.alloc (.cells #[.string x.id, .int .i64 x.nd, .int .i64 x.tr, .int .i64 x.su, .int .i64 x.re] 34)) := bal (Below.refl _ _) _
        go_enter Try.func21, Try.ntmps21
        go_wp2_with (first | (go_at_call 48; refine (l02Degrees_any _ _).mono ?_; rintro e w' ⟨rfl, rfl⟩) | (go_at_call 56; refine (l02Flow_any _ _).mono ?_; rintro e w' ⟨rfl, rfl⟩) | (go_at_call 47; refine (HX.out _ hp).mono ?_; rintro e w' ⟨rfl, hd'⟩; have hb' := Drawn.below hd'; first | (have hb := bnext hb hb'; have hp := SbO.next hp hb'; have ⟨p0, p1, p2, p3, p4⟩ := hp) | (have hb := bnext (bal hb _) hb'; have hp := SbO.next (SbO.alloc hp _) hb'; have ⟨p0, p1, p2, p3, p4⟩ := hp) | (have hb := bnext (bal (bal hb _) _) hb'; have hp := SbO.next (SbO.alloc (SbO.alloc hp _) _) hb'; have ⟨p0, p1, p2, p3, p4⟩ := hp) | (have hb := bnext (bal (bal (bal hb _) _) _) hb'; have hp := SbO.next (SbO.alloc (SbO.alloc (SbO.alloc hp _) _) _) hb'; have ⟨p0, p1, p2, p3, p4⟩ := hp)))
        go_ret2
        first | exact ⟨rfl, hb⟩ | exact ⟨rfl, (bal hb _)⟩ | exact ⟨rfl, (bal (bal hb _) _)⟩ | exact ⟨rfl, (bal (bal (bal hb _) _) _)⟩ | exact ⟨rfl, (bal (bal (bal (bal hb _) _) _) _)⟩ | exact ⟨rfl, (bal (bal (bal (bal (bal hb _) _) _) _) _)⟩
    · skip
      have h1' : inB p 0 18000 = false := by simpa using h1
      have hr : (inB p 0 18000 && inB q 0 100000) = false := by simp [*]
      have hv : raV x p q = 0 := by unfold raV; rw [hr, Bool.and_false]; rfl
      have hc : raC x p q = 2 := by unfold raC; rw [hx, hr]; rfl
      rw [hv, hc]
      clear hv hc hr
      have HX := Lib.hid (fun W (hq : SbO W w.heap.size 0 x) => by have h := l12One_any w.heap.size 0 x W hq hs; rw [hx] at h; exact h)
      have hp := SbO.new w x 34
      have ⟨p0, p1, p2, p3, p4⟩ := hp
      have hb : Below w.heap.size w (w.alloc (.cells #[.string x.id, .int .i64 x.nd, .int .i64 x.tr, .int .i64 x.su, .int .i64 x.re] 34)) := bal (Below.refl _ _) _
      go_enter Try.func21, Try.ntmps21
      go_wp2_with (first | (go_at_call 48; refine (l02Degrees_any _ _).mono ?_; rintro e w' ⟨rfl, rfl⟩) | (go_at_call 56; refine (l02Flow_any _ _).mono ?_; rintro e w' ⟨rfl, rfl⟩) | (go_at_call 47; refine (HX.out _ hp).mono ?_; rintro e w' ⟨rfl, hd'⟩; have hb' := Drawn.below hd'; first | (have hb := bnext hb hb'; have hp := SbO.next hp hb'; have ⟨p0, p1, p2, p3, p4⟩ := hp) | (have hb := bnext (bal hb _) hb'; have hp := SbO.next (SbO.alloc hp _) hb'; have ⟨p0, p1, p2, p3, p4⟩ := hp) | (have hb := bnext (bal (bal hb _) _) hb'; have hp := SbO.next (SbO.alloc (SbO.alloc hp _) _) hb'; have ⟨p0, p1, p2, p3, p4⟩ := hp) | (have hb := bnext (bal (bal (bal hb _) _) _) hb'; have hp := SbO.next (SbO.alloc (SbO.alloc (SbO.alloc hp _) _) _) hb'; have ⟨p0, p1, p2, p3, p4⟩ := hp)))
      go_ret2
      first | exact ⟨rfl, hb⟩ | exact ⟨rfl, (bal hb _)⟩ | exact ⟨rfl, (bal (bal hb _) _)⟩ | exact ⟨rfl, (bal (bal (bal hb _) _) _)⟩ | exact ⟨rfl, (bal (bal (bal (bal hb _) _) _) _)⟩ | exact ⟨rfl, (bal (bal (bal (bal (bal hb _) _) _) _) _)⟩
  · skip
    have hx' : okSb x = false := by simpa using hx
    have hv : raV x p q = 0 := by unfold raV; rw [hx', Bool.false_and]; rfl
    have hc : raC x p q = 1 := by unfold raC; rw [hx', Bool.false_and]; rfl
    rw [hv, hc]
    clear hv hc
    have HX := Lib.hid (fun W (hq : SbO W w.heap.size 0 x) => by have h := l12One_any w.heap.size 0 x W hq hs; rw [hx'] at h; exact h)
    have hp := SbO.new w x 34
    have ⟨p0, p1, p2, p3, p4⟩ := hp
    have hb : Below w.heap.size w (w.alloc (.cells #[.string x.id, .int .i64 x.nd, .int .i64 x.tr, .int .i64 x.su, .int .i64 x.re] 34)) := bal (Below.refl _ _) _
    go_enter Try.func21, Try.ntmps21
    go_wp2_with (first | (go_at_call 48; refine (l02Degrees_any _ _).mono ?_; rintro e w' ⟨rfl, rfl⟩) | (go_at_call 56; refine (l02Flow_any _ _).mono ?_; rintro e w' ⟨rfl, rfl⟩) | (go_at_call 47; refine (HX.out _ hp).mono ?_; rintro e w' ⟨rfl, hd'⟩; have hb' := Drawn.below hd'; first | (have hb := bnext hb hb'; have hp := SbO.next hp hb'; have ⟨p0, p1, p2, p3, p4⟩ := hp) | (have hb := bnext (bal hb _) hb'; have hp := SbO.next (SbO.alloc hp _) hb'; have ⟨p0, p1, p2, p3, p4⟩ := hp) | (have hb := bnext (bal (bal hb _) _) hb'; have hp := SbO.next (SbO.alloc (SbO.alloc hp _) _) hb'; have ⟨p0, p1, p2, p3, p4⟩ := hp) | (have hb := bnext (bal (bal (bal hb _) _) _) hb'; have hp := SbO.next (SbO.alloc (SbO.alloc (SbO.alloc hp _) _) _) hb'; have ⟨p0, p1, p2, p3, p4⟩ := hp)))
    go_ret2
    first | exact ⟨rfl, hb⟩ | exact ⟨rfl, (bal hb _)⟩ | exact ⟨rfl, (bal (bal hb _) _)⟩ | exact ⟨rfl, (bal (bal (bal hb _) _) _)⟩ | exact ⟨rfl, (bal (bal (bal (bal hb _) _) _) _)⟩ | exact ⟨rfl, (bal (bal (bal (bal (bal hb _) _) _) _) _)⟩

end Go.Proofs.Ytdaedgdglammhab
