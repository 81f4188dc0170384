/-
  PrimaryFlow and LeastPrimary of the model: searches by halves.
-/
import Derived.Test.YtdaedgdglammhabEx9
import Derived.Test.YtdaedgdglammhabEy0
namespace Go.Proofs.Ytdaedgdglammhab
open Go.ChangeShapes Go.WideShapes Go.ChangeAt Go.RowKit Go.Shelf

set_option linter.unusedVariables false
set_option linter.unusedSimpArgs false
set_option maxRecDepth 100000
set_option maxHeartbeats 4000000
theorem l12Needed_any (b o : Nat) (x : Sb) (p g : Int) (w : World) (hx : SbO w b o x) (h : exB x p) :
    Calls Try.prog 50 #[.pointer (some ⟨b, o, none⟩), .int .i64 p, .int .i64 g] w fun e w' => e = .returned (.int .i64 (needQ x p g)) ∧ Below w.heap.size w w' := by
  have HP := Lib.hid (fun (W : World) (q : Int) (hW : Below w.heap.size w W) (q0 : 0 ≤ q) (q1 : q ≤ 100000) => l12Power_any b o x p q W (hx.next hW) h q0 q1)
  have HM : Hid (∀ a c, 0 ≤ a → a ≤ c → c ≤ 100000 → powI x.tr x.su x.re p a ≤ powI x.tr x.su x.re p c) := Lib.hid (fun a c k l _ => pow_flow x.tr x.su x.re p a c h.1.1 k l)
  have HL : Hid (Least 0 100000 g (fun q => powI x.tr x.su x.re p q) (needQ x p g)) := Lib.hid (leastI_spec 0 100000 g _ (by omega) HM.out)
  generalize needQ x p g = R at *
  change Hid (Least 0 100000 g (powI x.tr x.su x.re p) R) at HL
  generalize powI x.tr x.su x.re p = f at *
  have hx0 := hx
  have hb : Below w.heap.size w w := Below.refl _ _
  go_enter Try.func50, Try.ntmps50
  go_wp2_with fail
  go_loopw [7, 8] (fun va vb wr => ∃ l h1 : Int, va = .int .i64 l ∧ vb = .int .i64 h1 ∧ 0 - 1 ≤ l ∧ l < h1 ∧ h1 ≤ 100000 + 1 ∧ Below w.heap.size w wr ∧ Hid ((0 ≤ l → f l < g) ∧ (h1 ≤ 100000 → g ≤ f h1))) (fun va vb _ => (intOf vb - intOf va).toNat)
  case atStart => exact ⟨_, _, rfl, rfl, by omega, by omega, by omega, by assumption, Lib.hid ⟨fun hh => by omega, fun hh => by omega⟩⟩
  case round =>
    obtain ⟨l, h1, rfl, rfl, l0, l1, l2, hb, I⟩ := hrel
    have hx := hx0.next hb
    have ⟨p0, p1, p2, p3, p4⟩ := hx
    by_cases hlt : 1 < h1 - l
    · have hm0 : l < (l + h1) / 2 := by omega
      have hm1 : (l + h1) / 2 < h1 := by omega
      have hs0 : 0 ≤ l + h1 ∨ l = -1 := by omega
      have HV := Lib.hid (fun W hW => HP.out W ((l + h1) / 2) hW (by omega) (by omega))
      by_cases hk : g ≤ f ((l + h1) / 2)
      · have hk' : decide (g ≤ f ((l + h1) / 2)) = true := decide_eq_true hk
        have IN : Hid ((0 ≤ l → f l < g) ∧ ((l + h1) / 2 ≤ 100000 → g ≤ f ((l + h1) / 2))) := Lib.hid ⟨I.out.1, fun _ => hk⟩
        clear hk
        generalize f ((l + h1) / 2) = v at HV hk'
        go_wp2_with fail
        refine (HV.out _ hb).mono ?_
        rintro e w9 ⟨rfl, hb'⟩
        have hb := bnext hb hb'
        clear hb'
        go_wp2
        go_roundw
        case rel => exact ⟨l, (l + h1) / 2, rfl, rfl, l0, hm0, by omega, hb, IN⟩
        case measure => simp [intOf]; omega
      · have hk' : decide (g ≤ f ((l + h1) / 2)) = false := decide_eq_false hk
        have IN : Hid ((0 ≤ (l + h1) / 2 → f ((l + h1) / 2) < g) ∧ (h1 ≤ 100000 → g ≤ f h1)) := Lib.hid ⟨fun _ => by omega, I.out.2⟩
        clear hk
        generalize f ((l + h1) / 2) = v at HV hk'
        go_wp2_with fail
        refine (HV.out _ hb).mono ?_
        rintro e w9 ⟨rfl, hb'⟩
        have hb := bnext hb hb'
        clear hb'
        go_wp2
        go_roundw
        case rel => exact ⟨(l + h1) / 2, h1, rfl, rfl, by omega, hm1, l2, hb, IN⟩
        case measure => simp [intOf]; omega
    · have hR : h1 = R := (least_of_pair HM.out (by omega : h1 = l + 1) l0 l2 I.out.1 I.out.2).eq HL.out
      subst hR
      go_wp2
      go_ret
      exact ⟨rfl, hb⟩

theorem specPrimaryFlow_any (x : Sb) (p : Int) (g : Int) (w : World) (hs : x.id.size ≤ maxLen) : Calls Try.prog 18 #[.agg #[.string x.id, .int .i64 x.nd, .int .i64 x.tr, .int .i64 x.su, .int .i64 x.re], .int .i64 p, .int .i64 g] w fun e w' => e = .returned (.tuple #[.int .i64 (pfV x p g), .int .i64 (pfC x p g)]) ∧ Below w.heap.size w w' := by
  by_cases hx : okSb x = true
  · skip
    by_cases h1 : inB p 0 18000 = true
    · skip
      by_cases h2 : inB g 0 100000000 = true
      · skip
        have hr : (inB p 0 18000 && inB g 0 100000000) = true := by simp [*]
        have HX := Lib.hid (fun W (hq : SbO W w.heap.size 0 x) => by have h := l12One_any w.heap.size 0 x W hq hs; rw [hx] at h; exact h)
        have hp := SbO.new w x 34
        have ⟨p0, p1, p2, p3, p4⟩ := hp
        have hb : Below w.heap.size w (w.alloc (.cells #[.string x.id, .int .i64 x.nd, .int .i64 x.tr, .int .i64 x.su, .int .i64 x.re] 34)) := bal (Below.refl _ _) _
        have hv : pfV x p g = lfV 100000 (needQ x p g) := by unfold pfV; rw [hx, hr]; exact if_pos rfl
        have hc : pfC x p g = lfC 100000 (needQ x p g) := by unfold pfC; rw [hx, hr]; exact if_pos rfl
        rw [hv, hc]
        clear hv hc hr
        have hq1 := inB_iff.1 h1
        have hq2 := inB_iff.1 h2
        have hE := okSb_ex hx p hq1.1 hq1.2
        have HM := Lib.hid (fun W (hq : SbO W w.heap.size 0 x) => l12Needed_any w.heap.size 0 x p g W hq hE)
        generalize needQ x p g = r at *
        by_cases hr9 : r ≤ 100000
        · have hd : decide (100000 < r) = false := decide_eq_false (by omega)
          have hv : lfV 100000 r = r := if_pos hr9
          have hc : lfC 100000 r = 0 := if_pos hr9
          rw [hv, hc]
          clear hv hc
          go_enter Try.func18, Try.ntmps18
          go_wp2_with (first | (go_at_call 48; refine (l02Degrees_any _ _).mono ?_; rintro e w' ⟨rfl, rfl⟩) | (go_at_call 49; refine (l02Watts_any _ _).mono ?_; rintro e w' ⟨rfl, rfl⟩) | (go_at_call 47; refine (HX.out _ hp).mono ?_; rintro e w' ⟨rfl, hd'⟩; have hb' := Drawn.below hd'; first | (have hb := bnext hb hb'; have hp := SbO.next hp hb'; have ⟨p0, p1, p2, p3, p4⟩ := hp) | (have hb := bnext (bal hb _) hb'; have hp := SbO.next (SbO.alloc hp _) hb'; have ⟨p0, p1, p2, p3, p4⟩ := hp) | (have hb := bnext (bal (bal hb _) _) hb'; have hp := SbO.next (SbO.alloc (SbO.alloc hp _) _) hb'; have ⟨p0, p1, p2, p3, p4⟩ := hp) | (have hb := bnext (bal (bal (bal hb _) _) _) hb'; have hp := SbO.next (SbO.alloc (SbO.alloc (SbO.alloc hp _) _) _) hb'; have ⟨p0, p1, p2, p3, p4⟩ := hp)) | (go_at_call 50; refine (HM.out _ hp).mono ?_; rintro e w' ⟨rfl, hb'⟩; first | (have hb := bnext hb hb'; have hp := SbO.next hp hb'; have ⟨p0, p1, p2, p3, p4⟩ := hp) | (have hb := bnext (bal hb _) hb'; have hp := SbO.next (SbO.alloc hp _) hb'; have ⟨p0, p1, p2, p3, p4⟩ := hp) | (have hb := bnext (bal (bal hb _) _) hb'; have hp := SbO.next (SbO.alloc (SbO.alloc hp _) _) hb'; have ⟨p0, p1, p2, p3, p4⟩ := hp) | (have hb := bnext (bal (bal (bal hb _) _) _) hb'; have hp := SbO.next (SbO.alloc (SbO.alloc (SbO.alloc hp _) _) _) hb'; have ⟨p0, p1, p2, p3, p4⟩ := hp)))
          go_ret2
          first | exact ⟨rfl, hb⟩ | exact ⟨rfl, (bal hb _)⟩ | exact ⟨rfl, (bal (bal hb _) _)⟩ | exact ⟨rfl, (bal (bal (bal hb _) _) _)⟩ | exact ⟨rfl, (bal (bal (bal (bal hb _) _) _) _)⟩ | exact ⟨rfl, (bal (bal (bal (bal (bal hb _) _) _) _) _)⟩
        · have hd : decide (100000 < r) = true := decide_eq_true (by omega)
          have hv : lfV 100000 r = 0 := if_neg hr9
          have hc : lfC 100000 r = 6 := if_neg hr9
          rw [hv, hc]
          clear hv hc
          go_enter Try.func18, Try.ntmps18
          go_wp2_with (first | (go_at_call 48; refine (l02Degrees_any _ _).mono ?_; rintro e w' ⟨rfl, rfl⟩) | (go_at_call 49; refine (l02Watts_any _ _).mono ?_; rintro e w' ⟨rfl, rfl⟩) | (go_at_call 47; refine (HX.out _ hp).mono ?_; rintro e w' ⟨rfl, hd'⟩; have hb' := Drawn.below hd'; first | (have hb := bnext hb hb'; have hp := SbO.next hp hb'; have ⟨p0, p1, p2, p3, p4⟩ := hp) | (have hb := bnext (bal hb _) hb'; have hp := SbO.next (SbO.alloc hp _) hb'; have ⟨p0, p1, p2, p3, p4⟩ := hp) | (have hb := bnext (bal (bal hb _) _) hb'; have hp := SbO.next (SbO.alloc (SbO.alloc hp _) _) hb'; have ⟨p0, p1, p2, p3, p4⟩ := hp) | (have hb := bnext (bal (bal (bal hb _) _) _) hb'; have hp := SbO.next (SbO.alloc (SbO.alloc (SbO.alloc hp _) _) _) hb'; have ⟨p0, p1, p2, p3, p4⟩ := hp)) | (go_at_call 50; refine (HM.out _ hp).mono ?_; rintro e w' ⟨rfl, hb'⟩; first | (have hb := bnext hb hb'; have hp := SbO.next hp hb'; have ⟨p0, p1, p2, p3, p4⟩ := hp) | (have hb := bnext (bal hb _) hb'; have hp := SbO.next (SbO.alloc hp _) hb'; have ⟨p0, p1, p2, p3, p4⟩ := hp) | (have hb := bnext (bal (bal hb _) _) hb'; have hp := SbO.next (SbO.alloc (SbO.alloc hp _) _) hb'; have ⟨p0, p1, p2, p3, p4⟩ := hp) | (have hb := bnext (bal (bal (bal hb _) _) _) hb'; have hp := SbO.next (SbO.alloc (SbO.alloc (SbO.alloc hp _) _) _) hb'; have ⟨p0, p1, p2, p3, p4⟩ := hp)))
          go_ret2
          first | exact ⟨rfl, hb⟩ | exact ⟨rfl, (bal hb _)⟩ | exact ⟨rfl, (bal (bal hb _) _)⟩ | exact ⟨rfl, (bal (bal (bal hb _) _) _)⟩ | exact ⟨rfl, (bal (bal (bal (bal hb _) _) _) _)⟩ | exact ⟨rfl, (bal (bal (bal (bal (bal hb _) _) _) _) _)⟩
      · skip
        have h2' : inB g 0 100000000 = false := by simpa using h2
        have hr : (inB p 0 18000 && inB g 0 100000000) = false := by simp [*]
        have hv : pfV x p g = 0 := by unfold pfV; rw [hr, Bool.and_false]; exact if_neg (by decide)
        have hc : pfC x p g = 2 := by unfold pfC; rw [hx, hr]; exact if_neg (by decide)
        rw [hv, hc]
        clear hv hc hr
        have HX := Lib.hid (fun W (hq : SbO W w.heap.size 0 x) => by have h := l12One_any w.heap.size 0 x W hq hs; rw [hx] at h; exact h)
        have hp := SbO.new w x 34
        have ⟨p0, p1, p2, p3, p4⟩ := hp
        have hb : Below w.heap.size w (w.alloc (.cells #[.string x.id, .int .i64 x.nd, .int .i64 x.tr, .int .i64 x.su, .int .i64 x.re] 34)) := bal (Below.refl _ _) _
        go_enter Try.func18, Try.ntmps18
        go_wp2_with (first | (go_at_call 48; refine (l02Degrees_any _ _).mono ?_; rintro e w' ⟨rfl, rfl⟩) | (go_at_call 49; refine (l02Watts_any _ _).mono ?_; rintro e w' ⟨rfl, rfl⟩) | (go_at_call 47; refine (HX.out _ hp).mono ?_; rintro e w' ⟨rfl, hd'⟩; have hb' := Drawn.below hd'; first | (have hb := bnext hb hb'; have hp := SbO.next hp hb'; have ⟨p0, p1, p2, p3, p4⟩ := hp) | (have hb := bnext (bal hb _) hb'; have hp := SbO.next (SbO.alloc hp _) hb'; have ⟨p0, p1, p2, p3, p4⟩ := hp) | (have hb := bnext (bal (bal hb _) _) hb'; have hp := SbO.next (SbO.alloc (SbO.alloc hp _) _) hb'; have ⟨p0, p1, p2, p3, p4⟩ := hp) | (have hb := bnext (bal (bal (bal hb _) _) _) hb'; have hp := SbO.next (SbO.alloc (SbO.alloc (SbO.alloc hp _) _) _) hb'; have ⟨p0, p1, p2, p3, p4⟩ := hp)))
        go_ret2
        first | exact ⟨rfl, hb⟩ | exact ⟨rfl, (bal hb _)⟩ | exact ⟨rfl, (bal (bal hb _) _)⟩ | exact ⟨rfl, (bal (bal (bal hb _) _) _)⟩ | exact ⟨rfl, (bal (bal (bal (bal hb _) _) _) _)⟩ | exact ⟨rfl, (bal (bal (bal (bal (bal hb _) _) _) _) _)⟩
    · skip
      have h1' : inB p 0 18000 = false := by simpa using h1
      have hr : (inB p 0 18000 && inB g 0 100000000) = false := by simp [*]
      have hv : pfV x p g = 0 := by unfold pfV; rw [hr, Bool.and_false]; exact if_neg (by decide)
      have hc : pfC x p g = 2 := by unfold pfC; rw [hx, hr]; exact if_neg (by decide)
      rw [hv, hc]
      clear hv hc hr
      have HX := Lib.hid (fun W (hq : SbO W w.heap.size 0 x) => by have h := l12One_any w.heap.size 0 x W hq hs; rw [hx] at h; exact h)
      have hp := SbO.new w x 34
      have ⟨p0, p1, p2, p3, p4⟩ := hp
      have hb : Below w.heap.size w (w.alloc (.cells #[.string x.id, .int .i64 x.nd, .int .i64 x.tr, .int .i64 x.su, .int .i64 x.re] 34)) := bal (Below.refl _ _) _
      go_enter Try.func18, Try.ntmps18
      go_wp2_with (first | (go_at_call 48; refine (l02Degrees_any _ _).mono ?_; rintro e w' ⟨rfl, rfl⟩) | (go_at_call 49; refine (l02Watts_any _ _).mono ?_; rintro e w' ⟨rfl, rfl⟩) | (go_at_call 47; refine (HX.out _ hp).mono ?_; rintro e w' ⟨rfl, hd'⟩; have hb' := Drawn.below hd'; first | (have hb := bnext hb hb'; have hp := SbO.next hp hb'; have ⟨p0, p1, p2, p3, p4⟩ := hp) | (have hb := bnext (bal hb _) hb'; have hp := SbO.next (SbO.alloc hp _) hb'; have ⟨p0, p1, p2, p3, p4⟩ := hp) | (have hb := bnext (bal (bal hb _) _) hb'; have hp := SbO.next (SbO.alloc (SbO.alloc hp _) _) hb'; have ⟨p0, p1, p2, p3, p4⟩ := hp) | (have hb := bnext (bal (bal (bal hb _) _) _) hb'; have hp := SbO.next (SbO.alloc (SbO.alloc (SbO.alloc hp _) _) _) hb'; have ⟨p0, p1, p2, p3, p4⟩ := hp)))
      go_ret2
      first | exact ⟨rfl, hb⟩ | exact ⟨rfl, (bal hb _)⟩ | exact ⟨rfl, (bal (bal hb _) _)⟩ | exact ⟨rfl, (bal (bal (bal hb _) _) _)⟩ | exact ⟨rfl, (bal (bal (bal (bal hb _) _) _) _)⟩ | exact ⟨rfl, (bal (bal (bal (bal (bal hb _) _) _) _) _)⟩
  · skip
    have hx' : okSb x = false := by simpa using hx
    have hv : pfV x p g = 0 := by unfold pfV; rw [hx', Bool.false_and]; exact if_neg (by decide)
    have hc : pfC x p g = 1 := by unfold pfC; rw [hx', Bool.false_and]; exact if_neg (by decide)
    rw [hv, hc]
    clear hv hc
    have HX := Lib.hid (fun W (hq : SbO W w.heap.size 0 x) => by have h := l12One_any w.heap.size 0 x W hq hs; rw [hx'] at h; exact h)
    have hp := SbO.new w x 34
    have ⟨p0, p1, p2, p3, p4⟩ := hp
    have hb : Below w.heap.size w (w.alloc (.cells #[.string x.id, .int .i64 x.nd, .int .i64 x.tr, .int .i64 x.su, .int .i64 x.re] 34)) := bal (Below.refl _ _) _
    go_enter Try.func18, Try.ntmps18
    go_wp2_with (first | (go_at_call 48; refine (l02Degrees_any _ _).mono ?_; rintro e w' ⟨rfl, rfl⟩) | (go_at_call 49; refine (l02Watts_any _ _).mono ?_; rintro e w' ⟨rfl, rfl⟩) | (go_at_call 47; refine (HX.out _ hp).mono ?_; rintro e w' ⟨rfl, hd'⟩; have hb' := Drawn.below hd'; first | (have hb := bnext hb hb'; have hp := SbO.next hp hb'; have ⟨p0, p1, p2, p3, p4⟩ := hp) | (have hb := bnext (bal hb _) hb'; have hp := SbO.next (SbO.alloc hp _) hb'; have ⟨p0, p1, p2, p3, p4⟩ := hp) | (have hb := bnext (bal (bal hb _) _) hb'; have hp := SbO.next (SbO.alloc (SbO.alloc hp _) _) hb'; have ⟨p0, p1, p2, p3, p4⟩ := hp) | (have hb := bnext (bal (bal (bal hb _) _) _) hb'; have hp := SbO.next (SbO.alloc (SbO.alloc (SbO.alloc hp _) _) _) hb'; have ⟨p0, p1, p2, p3, p4⟩ := hp)))
    go_ret2
    first | exact ⟨rfl, hb⟩ | exact ⟨rfl, (bal hb _)⟩ | exact ⟨rfl, (bal (bal hb _) _)⟩ | exact ⟨rfl, (bal (bal (bal hb _) _) _)⟩ | exact ⟨rfl, (bal (bal (bal (bal hb _) _) _) _)⟩ | exact ⟨rfl, (bal (bal (bal (bal (bal hb _) _) _) _) _)⟩

theorem specLeastPrimary_any (x : Sb) (g : Int) (q : Int) (w : World) (hs : x.id.size ≤ maxLen) : Calls Try.prog 29 #[.agg #[.string x.id, .int .i64 x.nd, .int .i64 x.tr, .int .i64 x.su, .int .i64 x.re], .int .i64 g, .int .i64 q] w fun e w' => e = .returned (.tuple #[.int .i64 (lpV x g q), .int .i64 (lpC x g q)]) ∧ Below w.heap.size w w' := by
  by_cases hx : okSb x = true
  · skip
    by_cases h1 : inB g 0 100000000 = true
    · skip
      by_cases h2 : inB q 0 100000 = true
      · skip
        have hr : (inB g 0 100000000 && inB q 0 100000) = true := by simp [*]
        have HX := Lib.hid (fun W (hq : SbO W w.heap.size 0 x) => by have h := l12One_any w.heap.size 0 x W hq hs; rw [hx] at h; exact h)
        have hp := SbO.new w x 34
        have ⟨p0, p1, p2, p3, p4⟩ := hp
        have hb : Below w.heap.size w (w.alloc (.cells #[.string x.id, .int .i64 x.nd, .int .i64 x.tr, .int .i64 x.su, .int .i64 x.re] 34)) := bal (Below.refl _ _) _
        have hv : lpV x g q = lfV 18000 (needP x g q) := by unfold lpV; rw [hx, hr]; exact if_pos rfl
        have hc : lpC x g q = lfC 18000 (needP x g q) := by unfold lpC; rw [hx, hr]; exact if_pos rfl
        rw [hv, hc]
        clear hv hc hr
        have hq1 := inB_iff.1 h1
        have hq2 := inB_iff.1 h2
        have hE0 := okSb_ex hx 0 (by omega) (by omega)
        have HP := Lib.hid (fun (W : World) (p : Int) (hW : SbO W w.heap.size 0 x) (p0 : 0 ≤ p) (p1 : p ≤ 18000) => l12Power_any w.heap.size 0 x p q W hW (okSb_ex hx p p0 p1) hq2.1 hq2.2)
        have HM : Hid (∀ a c, 0 ≤ a → a ≤ c → c ≤ 18000 → powI x.tr x.su x.re a q ≤ powI x.tr x.su x.re c q) := Lib.hid (fun a c k l _ => pow_primary x.tr x.su x.re a c q hE0.1.1 hq2.1 l)
        have HL : Hid (Least 0 18000 g (fun p => powI x.tr x.su x.re p q) (needP x g q)) := Lib.hid (leastI_spec 0 18000 g _ (by omega) HM.out)
        generalize needP x g q = R at *
        generalize hF : (fun p => powI x.tr x.su x.re p q) = f at *
        have HF : Hid (∀ p, f p = powI x.tr x.su x.re p q) := Lib.hid (fun p => by rw [← hF])
        have HP : Hid (∀ (W : World) (p : Int), SbO W w.heap.size 0 x → 0 ≤ p → p ≤ 18000 → Calls Try.prog 64 #[.pointer (some ⟨w.heap.size, 0, none⟩), .int .i64 p, .int .i64 q] W fun e w' => e = .returned (.int .i64 (f p)) ∧ Below W.heap.size W w') := Lib.hid (fun W p a b c => by rw [HF.out]; exact HP.out W p a b c)
        have HM : Hid (∀ a c, 0 ≤ a → a ≤ c → c ≤ 18000 → f a ≤ f c) := Lib.hid (fun a c k l m => by rw [HF.out, HF.out]; exact HM.out a c k l m)
        clear hF HF hE0
        by_cases hr9 : R ≤ 18000
        · have hd : decide (18000 < R) = false := decide_eq_false (by omega)
          have hv : lfV 18000 R = R := if_pos hr9
          have hc : lfC 18000 R = 0 := if_pos hr9
          rw [hv, hc]
          clear hv hc
          go_enter Try.func29, Try.ntmps29
          go_wp2_with (first | (go_at_call 49; refine (l02Watts_any _ _).mono ?_; rintro e w' ⟨rfl, rfl⟩) | (go_at_call 56; refine (l02Flow_any _ _).mono ?_; rintro e w' ⟨rfl, rfl⟩) | (go_at_call 47; refine (HX.out _ hp).mono ?_; rintro e w' ⟨rfl, hd'⟩; have hb' := Drawn.below hd'; first | (have hb := bnext hb hb'; have hp := SbO.next hp hb'; have ⟨p0, p1, p2, p3, p4⟩ := hp) | (have hb := bnext (bal hb _) hb'; have hp := SbO.next (SbO.alloc hp _) hb'; have ⟨p0, p1, p2, p3, p4⟩ := hp) | (have hb := bnext (bal (bal hb _) _) hb'; have hp := SbO.next (SbO.alloc (SbO.alloc hp _) _) hb'; have ⟨p0, p1, p2, p3, p4⟩ := hp) | (have hb := bnext (bal (bal (bal hb _) _) _) hb'; have hp := SbO.next (SbO.alloc (SbO.alloc (SbO.alloc hp _) _) _) hb'; have ⟨p0, p1, p2, p3, p4⟩ := hp)))
          have hx0 := hp
          have hb0 := hb
          go_loopw [8, 9] (fun va vb wr => ∃ l h1 : Int, va = .int .i64 l ∧ vb = .int .i64 h1 ∧ 0 - 1 ≤ l ∧ l < h1 ∧ h1 ≤ 18000 + 1 ∧ Below w.heap.size w wr ∧ SbO wr w.heap.size 0 x ∧ Hid ((0 ≤ l → f l < g) ∧ (h1 ≤ 18000 → g ≤ f h1))) (fun va vb _ => (intOf vb - intOf va).toNat)
          case atStart => exact ⟨_, _, rfl, rfl, by omega, by omega, by omega, hb, hp, Lib.hid ⟨fun hh => by omega, fun hh => by omega⟩⟩
          case round =>
            obtain ⟨l, h1, rfl, rfl, l0, l1, l2, hb, hx, I⟩ := hrel
            have ⟨p0, p1, p2, p3, p4⟩ := hx
            by_cases hlt : 1 < h1 - l
            · have hm0 : l < (l + h1) / 2 := by omega
              have hm1 : (l + h1) / 2 < h1 := by omega
              have hs0 : 0 ≤ l + h1 ∨ l = -1 := by omega
              have HV := Lib.hid (fun W hW => HP.out W ((l + h1) / 2) hW (by omega) (by omega))
              by_cases hk : g ≤ f ((l + h1) / 2)
              · have hk' : decide (g ≤ f ((l + h1) / 2)) = true := decide_eq_true hk
                have IN : Hid ((0 ≤ l → f l < g) ∧ ((l + h1) / 2 ≤ 18000 → g ≤ f ((l + h1) / 2))) := Lib.hid ⟨I.out.1, fun _ => hk⟩
                clear hk
                generalize f ((l + h1) / 2) = v at HV hk'
                go_wp2_with fail
                refine (HV.out _ hx).mono ?_
                rintro e w9 ⟨rfl, hb'⟩
                have hb := bnext hb hb'
                have hx := hx.next hb'
                clear hb'
                go_wp2
                go_roundw
                case rel => exact ⟨l, (l + h1) / 2, rfl, rfl, l0, hm0, by omega, hb, hx, IN⟩
                case measure => simp [intOf]; omega
              · have hk' : decide (g ≤ f ((l + h1) / 2)) = false := decide_eq_false hk
                have IN : Hid ((0 ≤ (l + h1) / 2 → f ((l + h1) / 2) < g) ∧ (h1 ≤ 18000 → g ≤ f h1)) := Lib.hid ⟨fun _ => by omega, I.out.2⟩
                clear hk
                generalize f ((l + h1) / 2) = v at HV hk'
                go_wp2_with fail
                refine (HV.out _ hx).mono ?_
                rintro e w9 ⟨rfl, hb'⟩
                have hb := bnext hb hb'
                have hx := hx.next hb'
                clear hb'
                go_wp2
                go_roundw
                case rel => exact ⟨(l + h1) / 2, h1, rfl, rfl, by omega, hm1, l2, hb, hx, IN⟩
                case measure => simp [intOf]; omega
            · have hR : h1 = R := (least_of_pair HM.out (by omega : h1 = l + 1) l0 l2 I.out.1 I.out.2).eq HL.out
              subst hR
              go_wp2
              go_ret2
              exact ⟨rfl, hb⟩
        · have hd : decide (18000 < R) = true := decide_eq_true (by omega)
          have hv : lfV 18000 R = 0 := if_neg hr9
          have hc : lfC 18000 R = 6 := if_neg hr9
          rw [hv, hc]
          clear hv hc
          go_enter Try.func29, Try.ntmps29
          go_wp2_with (first | (go_at_call 49; refine (l02Watts_any _ _).mono ?_; rintro e w' ⟨rfl, rfl⟩) | (go_at_call 56; refine (l02Flow_any _ _).mono ?_; rintro e w' ⟨rfl, rfl⟩) | (go_at_call 47; refine (HX.out _ hp).mono ?_; rintro e w' ⟨rfl, hd'⟩; have hb' := Drawn.below hd'; first | (have hb := bnext hb hb'; have hp := SbO.next hp hb'; have ⟨p0, p1, p2, p3, p4⟩ := hp) | (have hb := bnext (bal hb _) hb'; have hp := SbO.next (SbO.alloc hp _) hb'; have ⟨p0, p1, p2, p3, p4⟩ := hp) | (have hb := bnext (bal (bal hb _) _) hb'; have hp := SbO.next (SbO.alloc (SbO.alloc hp _) _) hb'; have ⟨p0, p1, p2, p3, p4⟩ := hp) | (have hb := bnext (bal (bal (bal hb _) _) _) hb'; have hp := SbO.next (SbO.alloc (SbO.alloc (SbO.alloc hp _) _) _) hb'; have ⟨p0, p1, p2, p3, p4⟩ := hp)))
          have hx0 := hp
          have hb0 := hb
          go_loopw [8, 9] (fun va vb wr => ∃ l h1 : Int, va = .int .i64 l ∧ vb = .int .i64 h1 ∧ 0 - 1 ≤ l ∧ l < h1 ∧ h1 ≤ 18000 + 1 ∧ Below w.heap.size w wr ∧ SbO wr w.heap.size 0 x ∧ Hid ((0 ≤ l → f l < g) ∧ (h1 ≤ 18000 → g ≤ f h1))) (fun va vb _ => (intOf vb - intOf va).toNat)
          case atStart => exact ⟨_, _, rfl, rfl, by omega, by omega, by omega, hb, hp, Lib.hid ⟨fun hh => by omega, fun hh => by omega⟩⟩
          case round =>
            obtain ⟨l, h1, rfl, rfl, l0, l1, l2, hb, hx, I⟩ := hrel
            have ⟨p0, p1, p2, p3, p4⟩ := hx
            by_cases hlt : 1 < h1 - l
            · have hm0 : l < (l + h1) / 2 := by omega
              have hm1 : (l + h1) / 2 < h1 := by omega
              have hs0 : 0 ≤ l + h1 ∨ l = -1 := by omega
              have HV := Lib.hid (fun W hW => HP.out W ((l + h1) / 2) hW (by omega) (by omega))
              by_cases hk : g ≤ f ((l + h1) / 2)
              · have hk' : decide (g ≤ f ((l + h1) / 2)) = true := decide_eq_true hk
                have IN : Hid ((0 ≤ l → f l < g) ∧ ((l + h1) / 2 ≤ 18000 → g ≤ f ((l + h1) / 2))) := Lib.hid ⟨I.out.1, fun _ => hk⟩
                clear hk
                generalize f ((l + h1) / 2) = v at HV hk'
                go_wp2_with fail
                refine (HV.out _ hx).mono ?_
                rintro e w9 ⟨rfl, hb'⟩
                have hb := bnext hb hb'
                have hx := hx.next hb'
                clear hb'
                go_wp2
                go_roundw
                case rel => exact ⟨l, (l + h1) / 2, rfl, rfl, l0, hm0, by omega, hb, hx, IN⟩
                case measure => simp [intOf]; omega
              · have hk' : decide (g ≤ f ((l + h1) / 2)) = false := decide_eq_false hk
                have IN : Hid ((0 ≤ (l + h1) / 2 → f ((l + h1) / 2) < g) ∧ (h1 ≤ 18000 → g ≤ f h1)) := Lib.hid ⟨fun _ => by omega, I.out.2⟩
                clear hk
                generalize f ((l + h1) / 2) = v at HV hk'
                go_wp2_with fail
                refine (HV.out _ hx).mono ?_
                rintro e w9 ⟨rfl, hb'⟩
                have hb := bnext hb hb'
                have hx := hx.next hb'
                clear hb'
                go_wp2
                go_roundw
                case rel => exact ⟨(l + h1) / 2, h1, rfl, rfl, by omega, hm1, l2, hb, hx, IN⟩
                case measure => simp [intOf]; omega
            · have hR : h1 = R := (least_of_pair HM.out (by omega : h1 = l + 1) l0 l2 I.out.1 I.out.2).eq HL.out
              subst hR
              go_wp2
              go_ret2
              exact ⟨rfl, hb⟩
      · skip
        have h2' : inB q 0 100000 = false := by simpa using h2
        have hr : (inB g 0 100000000 && inB q 0 100000) = false := by simp [*]
        have hv : lpV x g q = 0 := by unfold lpV; rw [hr, Bool.and_false]; exact if_neg (by decide)
        have hc : lpC x g q = 2 := by unfold lpC; rw [hx, hr]; exact if_neg (by decide)
        rw [hv, hc]
        clear hv hc hr
        have HX := Lib.hid (fun W (hq : SbO W w.heap.size 0 x) => by have h := l12One_any w.heap.size 0 x W hq hs; rw [hx] at h; exact h)
        have hp := SbO.new w x 34
        have ⟨p0, p1, p2, p3, p4⟩ := hp
        have hb : Below w.heap.size w (w.alloc (.cells #[.string x.id, .int .i64 x.nd, .int .i64 x.tr, .int .i64 x.su, .int .i64 x.re] 34)) := bal (Below.refl _ _) _
        go_enter Try.func29, Try.ntmps29
        go_wp2_with (first | (go_at_call 49; refine (l02Watts_any _ _).mono ?_; rintro e w' ⟨rfl, rfl⟩) | (go_at_call 56; refine (l02Flow_any _ _).mono ?_; rintro e w' ⟨rfl, rfl⟩) | (go_at_call 47; refine (HX.out _ hp).mono ?_; rintro e w' ⟨rfl, hd'⟩; have hb' := Drawn.below hd'; first | (have hb := bnext hb hb'; have hp := SbO.next hp hb'; have ⟨p0, p1, p2, p3, p4⟩ := hp) | (have hb := bnext (bal hb _) hb'; have hp := SbO.next (SbO.alloc hp _) hb'; have ⟨p0, p1, p2, p3, p4⟩ := hp) | (have hb := bnext (bal (bal hb _) _) hb'; have hp := SbO.next (SbO.alloc (SbO.alloc hp _) _) hb'; have ⟨p0, p1, p2, p3, p4⟩ := hp) | (have hb := bnext (bal (bal (bal hb _) _) _) hb'; have hp := SbO.next (SbO.alloc (SbO.alloc (SbO.alloc hp _) _) _) hb'; have ⟨p0, p1, p2, p3, p4⟩ := hp)))
        go_ret2
        first | exact ⟨rfl, hb⟩ | exact ⟨rfl, (bal hb _)⟩ | exact ⟨rfl, (bal (bal hb _) _)⟩ | exact ⟨rfl, (bal (bal (bal hb _) _) _)⟩ | exact ⟨rfl, (bal (bal (bal (bal hb _) _) _) _)⟩ | exact ⟨rfl, (bal (bal (bal (bal (bal hb _) _) _) _) _)⟩
    · skip
      have h1' : inB g 0 100000000 = false := by simpa using h1
      have hr : (inB g 0 100000000 && inB q 0 100000) = false := by simp [*]
      have hv : lpV x g q = 0 := by unfold lpV; rw [hr, Bool.and_false]; exact if_neg (by decide)
      have hc : lpC x g q = 2 := by unfold lpC; rw [hx, hr]; exact if_neg (by decide)
      rw [hv, hc]
      clear hv hc hr
      have HX := Lib.hid (fun W (hq : SbO W w.heap.size 0 x) => by have h := l12One_any w.heap.size 0 x W hq hs; rw [hx] at h; exact h)
      have hp := SbO.new w x 34
      have ⟨p0, p1, p2, p3, p4⟩ := hp
      have hb : Below w.heap.size w (w.alloc (.cells #[.string x.id, .int .i64 x.nd, .int .i64 x.tr, .int .i64 x.su, .int .i64 x.re] 34)) := bal (Below.refl _ _) _
      go_enter Try.func29, Try.ntmps29
      go_wp2_with (first | (go_at_call 49; refine (l02Watts_any _ _).mono ?_; rintro e w' ⟨rfl, rfl⟩) | (go_at_call 56; refine (l02Flow_any _ _).mono ?_; rintro e w' ⟨rfl, rfl⟩) | (go_at_call 47; refine (HX.out _ hp).mono ?_; rintro e w' ⟨rfl, hd'⟩; have hb' := Drawn.below hd'; first | (have hb := bnext hb hb'; have hp := SbO.next hp hb'; have ⟨p0, p1, p2, p3, p4⟩ := hp) | (have hb := bnext (bal hb _) hb'; have hp := SbO.next (SbO.alloc hp _) hb'; have ⟨p0, p1, p2, p3, p4⟩ := hp) | (have hb := bnext (bal (bal hb _) _) hb'; have hp := SbO.next (SbO.alloc (SbO.alloc hp _) _) hb'; have ⟨p0, p1, p2, p3, p4⟩ := hp) | (have hb := bnext (bal (bal (bal hb _) _) _) hb'; have hp := SbO.next (SbO.alloc (SbO.alloc (SbO.alloc hp _) _) _) hb'; have ⟨p0, p1, p2, p3, p4⟩ := hp)))
      go_ret2
      first | exact ⟨rfl, hb⟩ | exact ⟨rfl, (bal hb _)⟩ | exact ⟨rfl, (bal (bal hb _) _)⟩ | exact ⟨rfl, (bal (bal (bal hb _) _) _)⟩ | exact ⟨rfl, (bal (bal (bal (bal hb _) _) _) _)⟩ | exact ⟨rfl, (bal (bal (bal (bal (bal hb _) _) _) _) _)⟩
  · skip
    have hx' : okSb x = false := by simpa using hx
    have hv : lpV x g q = 0 := by unfold lpV; rw [hx', Bool.false_and]; exact if_neg (by decide)
    have hc : lpC x g q = 1 := by unfold lpC; rw [hx', Bool.false_and]; exact if_neg (by decide)
    rw [hv, hc]
    clear hv hc
    have HX := Lib.hid (fun W (hq : SbO W w.heap.size 0 x) => by have h := l12One_any w.heap.size 0 x W hq hs; rw [hx'] at h; exact h)
    have hp := SbO.new w x 34
    have ⟨p0, p1, p2, p3, p4⟩ := hp
    have hb : Below w.heap.size w (w.alloc (.cells #[.string x.id, .int .i64 x.nd, .int .i64 x.tr, .int .i64 x.su, .int .i64 x.re] 34)) := bal (Below.refl _ _) _
    go_enter Try.func29, Try.ntmps29
    go_wp2_with (first | (go_at_call 49; refine (l02Watts_any _ _).mono ?_; rintro e w' ⟨rfl, rfl⟩) | (go_at_call 56; refine (l02Flow_any _ _).mono ?_; rintro e w' ⟨rfl, rfl⟩) | (go_at_call 47; refine (HX.out _ hp).mono ?_; rintro e w' ⟨rfl, hd'⟩; have hb' := Drawn.below hd'; first | (have hb := bnext hb hb'; have hp := SbO.next hp hb'; have ⟨p0, p1, p2, p3, p4⟩ := hp) | (have hb := bnext (bal hb _) hb'; have hp := SbO.next (SbO.alloc hp _) hb'; have ⟨p0, p1, p2, p3, p4⟩ := hp) | (have hb := bnext (bal (bal hb _) _) hb'; have hp := SbO.next (SbO.alloc (SbO.alloc hp _) _) hb'; have ⟨p0, p1, p2, p3, p4⟩ := hp) | (have hb := bnext (bal (bal (bal hb _) _) _) hb'; have hp := SbO.next (SbO.alloc (SbO.alloc (SbO.alloc hp _) _) _) hb'; have ⟨p0, p1, p2, p3, p4⟩ := hp)))
    go_ret2
    first | exact ⟨rfl, hb⟩ | exact ⟨rfl, (bal hb _)⟩ | exact ⟨rfl, (bal (bal hb _) _)⟩ | exact ⟨rfl, (bal (bal (bal hb _) _) _)⟩ | exact ⟨rfl, (bal (bal (bal (bal hb _) _) _) _)⟩ | exact ⟨rfl, (bal (bal (bal (bal (bal hb _) _) _) _) _)⟩

end Go.Proofs.Ytdaedgdglammhab
