/-
  LeastTransfer of the model: a search by halves over exchangers that differ from the given one.
-/
import Derived.Test.YtdaedgdglammhabEy1
namespace Go.Proofs.Ytdaedgdglammhab
open Go.ChangeShapes Go.WideShapes Go.ChangeAt Go.RowKit Go.Shelf

set_option linter.unusedVariables false
set_option linter.unusedSimpArgs false
set_option maxRecDepth 100000
set_option maxHeartbeats 4000000
theorem specLeastTransfer_any (x : Sb) (p : Int) (g : Int) (w : World) (hs : x.id.size ≤ maxLen) : Calls Try.prog 27 #[.agg #[.string x.id, .int .i64 x.nd, .int .i64 x.tr, .int .i64 x.su, .int .i64 x.re], .int .i64 p, .int .i64 g] w fun e w' => e = .returned (.tuple #[.int .i64 (ltV x p g), .int .i64 (ltC x p g)]) ∧ Below w.heap.size w w' := by
  by_cases hx : okSb x = true
  · skip
    by_cases h1 : inB p 0 18000 = true
    · skip
      by_cases h2 : inB g 0 100000000 = true
      · skip
        have hr : (inB p 0 18000 && inB g 0 100000000) = true := by simp [*]
        have HX := Lib.hid (fun W (hq : SbO W w.heap.size 0 x) => by have h := l12One_any w.heap.size 0 x W hq hs; rw [hx] at h; exact h)
        have hp := SbO.new w x 34
        have ⟨p0, p1, p2, p3, p4⟩ := hp
        have hb : Below w.heap.size w (w.alloc (.cells #[.string x.id, .int .i64 x.nd, .int .i64 x.tr, .int .i64 x.su, .int .i64 x.re] 34)) := bal (Below.refl _ _) _
        have hv : ltV x p g = lfV 100000 (needT x p g) := by unfold ltV; rw [hx, hr]; exact if_pos rfl
        have hc : ltC x p g = lfC 100000 (needT x p g) := by unfold ltC; rw [hx, hr]; exact if_pos rfl
        rw [hv, hc]
        clear hv hc hr
        have hq1 := inB_iff.1 h1
        have hq2 := inB_iff.1 h2
        have hE := okSb_ex hx p hq1.1 hq1.2
        have HP := Lib.hid (fun (W : World) (B : Nat) (t : Int) (hW : SbO W B 0 { x with tr := t }) (t0 : 0 ≤ t) (t1 : t ≤ 100000) => l12Power_any B 0 { x with tr := t } p 100000 W hW ⟨⟨t0, t1⟩, hE.2⟩ (by omega) (by omega))
        simp only at HP
        have HM : Hid (∀ a c, 1 ≤ a → a ≤ c → c ≤ 100000 → powI a x.su x.re p 100000 ≤ powI c x.su x.re p 100000) := Lib.hid (fun a c k l _ => pow_transfer a c x.su x.re p 100000 (by omega) (by omega) l)
        have HL : Hid (Least 1 100000 g (fun t => powI t x.su x.re p 100000) (needT x p g)) := Lib.hid (leastI_spec 1 100000 g _ (by omega) HM.out)
        generalize needT x p g = R at *
        generalize hF : (fun t => powI t x.su x.re p 100000) = f at *
        have HF : Hid (∀ t, f t = powI t x.su x.re p 100000) := Lib.hid (fun t => by rw [← hF])
        have HP : Hid (∀ (W : World) (B : Nat) (t : Int), SbO W B 0 { x with tr := t } → 0 ≤ t → t ≤ 100000 → Calls Try.prog 64 #[.pointer (some ⟨B, 0, none⟩), .int .i64 p, .int .i64 100000] W fun e w' => e = .returned (.int .i64 (f t)) ∧ Below W.heap.size W w') := Lib.hid (fun W B t a b c => by rw [HF.out]; exact HP.out W B t a b c)
        have HM : Hid (∀ a c, 1 ≤ a → a ≤ c → c ≤ 100000 → f a ≤ f c) := Lib.hid (fun a c k l m => by rw [HF.out, HF.out]; exact HM.out a c k l m)
        clear hF HF hE
        by_cases hr9 : R ≤ 100000
        · have hd : decide (100000 < R) = false := decide_eq_false (by omega)
          have hv : lfV 100000 R = R := if_pos hr9
          have hc : lfC 100000 R = 0 := if_pos hr9
          rw [hv, hc]
          clear hv hc
          go_enter Try.func27, Try.ntmps27
          go_wp2_with (first | (go_at_call 49; refine (l02Watts_any _ _).mono ?_; rintro e w' ⟨rfl, rfl⟩) | (go_at_call 48; refine (l02Degrees_any _ _).mono ?_; rintro e w' ⟨rfl, rfl⟩) | (go_at_call 47; refine (HX.out _ hp).mono ?_; rintro e w' ⟨rfl, hd'⟩; have hb' := Drawn.below hd'; first | (have hb := bnext hb hb'; have hp := SbO.next hp hb'; have ⟨p0, p1, p2, p3, p4⟩ := hp) | (have hb := bnext (bal hb _) hb'; have hp := SbO.next (SbO.alloc hp _) hb'; have ⟨p0, p1, p2, p3, p4⟩ := hp) | (have hb := bnext (bal (bal hb _) _) hb'; have hp := SbO.next (SbO.alloc (SbO.alloc hp _) _) hb'; have ⟨p0, p1, p2, p3, p4⟩ := hp) | (have hb := bnext (bal (bal (bal hb _) _) _) hb'; have hp := SbO.next (SbO.alloc (SbO.alloc (SbO.alloc hp _) _) _) hb'; have ⟨p0, p1, p2, p3, p4⟩ := hp)))
          have hx0 := hp
          have hb0 := hb
          go_loopw [8, 9] (fun va vb wr => ∃ l h1 : Int, va = .int .i64 l ∧ vb = .int .i64 h1 ∧ 1 - 1 ≤ l ∧ l < h1 ∧ h1 ≤ 100000 + 1 ∧ Below w.heap.size w wr ∧ SbO wr w.heap.size 0 x ∧ Hid ((1 ≤ l → f l < g) ∧ (h1 ≤ 100000 → g ≤ f h1))) (fun va vb _ => (intOf vb - intOf va).toNat)
          case atStart => exact ⟨_, _, rfl, rfl, by omega, by omega, by omega, hb, hp, Lib.hid ⟨fun hh => by omega, fun hh => by omega⟩⟩
          case round =>
            obtain ⟨l, h1, rfl, rfl, l0, l1, l2, hb, hx, I⟩ := hrel
            have ⟨p0, p1, p2, p3, p4⟩ := hx
            by_cases hlt : 1 < h1 - l
            · have hm0 : l < (l + h1) / 2 := by omega
              have hm1 : (l + h1) / 2 < h1 := by omega
              have hs0 : 0 ≤ l + h1 := by omega
              have HV := Lib.hid (fun W B hW => HP.out W B ((l + h1) / 2) hW (by omega) (by omega))
              by_cases hk : g ≤ f ((l + h1) / 2)
              · have hk' : decide (g ≤ f ((l + h1) / 2)) = true := decide_eq_true hk
                have IN : Hid ((1 ≤ l → f l < g) ∧ ((l + h1) / 2 ≤ 100000 → g ≤ f ((l + h1) / 2))) := Lib.hid ⟨I.out.1, fun _ => hk⟩
                clear hk
                generalize f ((l + h1) / 2) = v at HV hk'
                go_wp2_with fail
                refine (HV.out _ _ (SbO.new _ { x with tr := (l + h1) / 2 } 34)).mono ?_
                rintro e w9 ⟨rfl, hb'⟩
                have hx := (hx.alloc (.cells #[.string x.id, .int .i64 x.nd, .int .i64 ((l + h1) / 2), .int .i64 x.su, .int .i64 x.re] 34)).next hb'
                have hb := bnext (bal hb (.cells #[.string x.id, .int .i64 x.nd, .int .i64 ((l + h1) / 2), .int .i64 x.su, .int .i64 x.re] 34)) hb'
                clear hb'
                go_wp2
                go_roundw
                case rel => exact ⟨l, (l + h1) / 2, rfl, rfl, l0, hm0, by omega, hb, hx, IN⟩
                case measure => simp [intOf]; omega
              · have hk' : decide (g ≤ f ((l + h1) / 2)) = false := decide_eq_false hk
                have IN : Hid ((1 ≤ (l + h1) / 2 → f ((l + h1) / 2) < g) ∧ (h1 ≤ 100000 → g ≤ f h1)) := Lib.hid ⟨fun _ => by omega, I.out.2⟩
                clear hk
                generalize f ((l + h1) / 2) = v at HV hk'
                go_wp2_with fail
                refine (HV.out _ _ (SbO.new _ { x with tr := (l + h1) / 2 } 34)).mono ?_
                rintro e w9 ⟨rfl, hb'⟩
                have hx := (hx.alloc (.cells #[.string x.id, .int .i64 x.nd, .int .i64 ((l + h1) / 2), .int .i64 x.su, .int .i64 x.re] 34)).next hb'
                have hb := bnext (bal hb (.cells #[.string x.id, .int .i64 x.nd, .int .i64 ((l + h1) / 2), .int .i64 x.su, .int .i64 x.re] 34)) hb'
                clear hb'
                go_wp2
                go_roundw
                case rel => exact ⟨(l + h1) / 2, h1, rfl, rfl, by omega, hm1, l2, hb, hx, IN⟩
                case measure => simp [intOf]; omega
            · have hR : h1 = R := (least_of_pair HM.out (by omega : h1 = l + 1) l0 l2 I.out.1 I.out.2).eq HL.out
              subst hR
              go_wp2
              go_ret2
              exact ⟨rfl, hb⟩
        · have hd : decide (100000 < R) = true := decide_eq_true (by omega)
          have hv : lfV 100000 R = 0 := if_neg hr9
          have hc : lfC 100000 R = 6 := if_neg hr9
          rw [hv, hc]
          clear hv hc
          go_enter Try.func27, Try.ntmps27
          go_wp2_with (first | (go_at_call 49; refine (l02Watts_any _ _).mono ?_; rintro e w' ⟨rfl, rfl⟩) | (go_at_call 48; refine (l02Degrees_any _ _).mono ?_; rintro e w' ⟨rfl, rfl⟩) | (go_at_call 47; refine (HX.out _ hp).mono ?_; rintro e w' ⟨rfl, hd'⟩; have hb' := Drawn.below hd'; first | (have hb := bnext hb hb'; have hp := SbO.next hp hb'; have ⟨p0, p1, p2, p3, p4⟩ := hp) | (have hb := bnext (bal hb _) hb'; have hp := SbO.next (SbO.alloc hp _) hb'; have ⟨p0, p1, p2, p3, p4⟩ := hp) | (have hb := bnext (bal (bal hb _) _) hb'; have hp := SbO.next (SbO.alloc (SbO.alloc hp _) _) hb'; have ⟨p0, p1, p2, p3, p4⟩ := hp) | (have hb := bnext (bal (bal (bal hb _) _) _) hb'; have hp := SbO.next (SbO.alloc (SbO.alloc (SbO.alloc hp _) _) _) hb'; have ⟨p0, p1, p2, p3, p4⟩ := hp)))
          have hx0 := hp
          have hb0 := hb
          go_loopw [8, 9] (fun va vb wr => ∃ l h1 : Int, va = .int .i64 l ∧ vb = .int .i64 h1 ∧ 1 - 1 ≤ l ∧ l < h1 ∧ h1 ≤ 100000 + 1 ∧ Below w.heap.size w wr ∧ SbO wr w.heap.size 0 x ∧ Hid ((1 ≤ l → f l < g) ∧ (h1 ≤ 100000 → g ≤ f h1))) (fun va vb _ => (intOf vb - intOf va).toNat)
          case atStart => exact ⟨_, _, rfl, rfl, by omega, by omega, by omega, hb, hp, Lib.hid ⟨fun hh => by omega, fun hh => by omega⟩⟩
          case round =>
            obtain ⟨l, h1, rfl, rfl, l0, l1, l2, hb, hx, I⟩ := hrel
            have ⟨p0, p1, p2, p3, p4⟩ := hx
            by_cases hlt : 1 < h1 - l
            · have hm0 : l < (l + h1) / 2 := by omega
              have hm1 : (l + h1) / 2 < h1 := by omega
              have hs0 : 0 ≤ l + h1 := by omega
              have HV := Lib.hid (fun W B hW => HP.out W B ((l + h1) / 2) hW (by omega) (by omega))
              by_cases hk : g ≤ f ((l + h1) / 2)
              · have hk' : decide (g ≤ f ((l + h1) / 2)) = true := decide_eq_true hk
                have IN : Hid ((1 ≤ l → f l < g) ∧ ((l + h1) / 2 ≤ 100000 → g ≤ f ((l + h1) / 2))) := Lib.hid ⟨I.out.1, fun _ => hk⟩
                clear hk
                generalize f ((l + h1) / 2) = v at HV hk'
                go_wp2_with fail
                refine (HV.out _ _ (SbO.new _ { x with tr := (l + h1) / 2 } 34)).mono ?_
                rintro e w9 ⟨rfl, hb'⟩
                have hx := (hx.alloc (.cells #[.string x.id, .int .i64 x.nd, .int .i64 ((l + h1) / 2), .int .i64 x.su, .int .i64 x.re] 34)).next hb'
                have hb := bnext (bal hb (.cells #[.string x.id, .int .i64 x.nd, .int .i64 ((l + h1) / 2), .int .i64 x.su, .int .i64 x.re] 34)) hb'
                clear hb'
                go_wp2
                go_roundw
                case rel => exact ⟨l, (l + h1) / 2, rfl, rfl, l0, hm0, by omega, hb, hx, IN⟩
                case measure => simp [intOf]; omega
              · have hk' : decide (g ≤ f ((l + h1) / 2)) = false := decide_eq_false hk
                have IN : Hid ((1 ≤ (l + h1) / 2 → f ((l + h1) / 2) < g) ∧ (h1 ≤ 100000 → g ≤ f h1)) := Lib.hid ⟨fun _ => by omega, I.out.2⟩
                clear hk
                generalize f ((l + h1) / 2) = v at HV hk'
                go_wp2_with fail
                refine (HV.out _ _ (SbO.new _ { x with tr := (l + h1) / 2 } 34)).mono ?_
                rintro e w9 ⟨rfl, hb'⟩
                have hx := (hx.alloc (.cells #[.string x.id, .int .i64 x.nd, .int .i64 ((l + h1) / 2), .int .i64 x.su, .int .i64 x.re] 34)).next hb'
                have hb := bnext (bal hb (.cells #[.string x.id, .int .i64 x.nd, .int .i64 ((l + h1) / 2), .int .i64 x.su, .int .i64 x.re] 34)) hb'
                clear hb'
                go_wp2
                go_roundw
                case rel => exact ⟨(l + h1) / 2, h1, rfl, rfl, by omega, hm1, l2, hb, hx, IN⟩
                case measure => simp [intOf]; omega
            · have hR : h1 = R := (least_of_pair HM.out (by omega : h1 = l + 1) l0 l2 I.out.1 I.out.2).eq HL.out
              subst hR
              go_wp2
              go_ret2
              exact ⟨rfl, hb⟩
      · skip
        have h2' : inB g 0 100000000 = false := by simpa using h2
        have hr : (inB p 0 18000 && inB g 0 100000000) = false := by simp [*]
        have hv : ltV x p g = 0 := by unfold ltV; rw [hr, Bool.and_false]; exact if_neg (by decide)
        have hc : ltC x p g = 2 := by unfold ltC; rw [hx, hr]; exact if_neg (by decide)
        rw [hv, hc]
        clear hv hc hr
        have HX := Lib.hid (fun W (hq : SbO W w.heap.size 0 x) => by have h := l12One_any w.heap.size 0 x W hq hs; rw [hx] at h; exact h)
        have hp := SbO.new w x 34
        have ⟨p0, p1, p2, p3, p4⟩ := hp
        have hb : Below w.heap.size w (w.alloc (.cells #[.string x.id, .int .i64 x.nd, .int .i64 x.tr, .int .i64 x.su, .int .i64 x.re] 34)) := bal (Below.refl _ _) _
        go_enter Try.func27, Try.ntmps27
        go_wp2_with (first | (go_at_call 48; refine (l02Degrees_any _ _).mono ?_; rintro e w' ⟨rfl, rfl⟩) | (go_at_call 49; refine (l02Watts_any _ _).mono ?_; rintro e w' ⟨rfl, rfl⟩) | (go_at_call 47; refine (HX.out _ hp).mono ?_; rintro e w' ⟨rfl, hd'⟩; have hb' := Drawn.below hd'; first | (have hb := bnext hb hb'; have hp := SbO.next hp hb'; have ⟨p0, p1, p2, p3, p4⟩ := hp) | (have hb := bnext (bal hb _) hb'; have hp := SbO.next (SbO.alloc hp _) hb'; have ⟨p0, p1, p2, p3, p4⟩ := hp) | (have hb := bnext (bal (bal hb _) _) hb'; have hp := SbO.next (SbO.alloc (SbO.alloc hp _) _) hb'; have ⟨p0, p1, p2, p3, p4⟩ := hp) | (have hb := bnext (bal (bal (bal hb _) _) _) hb'; have hp := SbO.next (SbO.alloc (SbO.alloc (SbO.alloc hp _) _) _) hb'; have ⟨p0, p1, p2, p3, p4⟩ := hp)))
        go_ret2
        first | exact ⟨rfl, hb⟩ | exact ⟨rfl, (bal hb _)⟩ | exact ⟨rfl, (bal (bal hb _) _)⟩ | exact ⟨rfl, (bal (bal (bal hb _) _) _)⟩ | exact ⟨rfl, (bal (bal (bal (bal hb _) _) _) _)⟩ | exact ⟨rfl, (bal (bal (bal (bal (bal hb _) _) _) _) _)⟩
    · skip
      have h1' : inB p 0 18000 = false := by simpa using h1
      have hr : (inB p 0 18000 && inB g 0 100000000) = false := by simp [*]
      have hv : ltV x p g = 0 := by unfold ltV; rw [hr, Bool.and_false]; exact if_neg (by decide)
      have hc : ltC x p g = 2 := by unfold ltC; rw [hx, hr]; exact if_neg (by decide)
      rw [hv, hc]
      clear hv hc hr
      have HX := Lib.hid (fun W (hq : SbO W w.heap.size 0 x) => by have h := l12One_any w.heap.size 0 x W hq hs; rw [hx] at h; exact h)
      have hp := SbO.new w x 34
      have ⟨p0, p1, p2, p3, p4⟩ := hp
      have hb : Below w.heap.size w (w.alloc (.cells #[.string x.id, .int .i64 x.nd, .int .i64 x.tr, .int .i64 x.su, .int .i64 x.re] 34)) := bal (Below.refl _ _) _
      go_enter Try.func27, Try.ntmps27
      go_wp2_with (first | (go_at_call 48; refine (l02Degrees_any _ _).mono ?_; rintro e w' ⟨rfl, rfl⟩) | (go_at_call 49; refine (l02Watts_any _ _).mono ?_; rintro e w' ⟨rfl, rfl⟩) | (go_at_call 47; refine (HX.out _ hp).mono ?_; rintro e w' ⟨rfl, hd'⟩; have hb' := Drawn.below hd'; first | (have hb := bnext hb hb'; have hp := SbO.next hp hb'; have ⟨p0, p1, p2, p3, p4⟩ := hp) | (have hb := bnext (bal hb _) hb'; have hp := SbO.next (SbO.alloc hp _) hb'; have ⟨p0, p1, p2, p3, p4⟩ := hp) | (have hb := bnext (bal (bal hb _) _) hb'; have hp := SbO.next (SbO.alloc (SbO.alloc hp _) _) hb'; have ⟨p0, p1, p2, p3, p4⟩ := hp) | (have hb := bnext (bal (bal (bal hb _) _) _) hb'; have hp := SbO.next (SbO.alloc (SbO.alloc (SbO.alloc hp _) _) _) hb'; have ⟨p0, p1, p2, p3, p4⟩ := hp)))
      go_ret2
      first | exact ⟨rfl, hb⟩ | exact ⟨rfl, (bal hb _)⟩ | exact ⟨rfl, (bal (bal hb _) _)⟩ | exact ⟨rfl, (bal (bal (bal hb _) _) _)⟩ | exact ⟨rfl, (bal (bal (bal (bal hb _) _) _) _)⟩ | exact ⟨rfl, (bal (bal (bal (bal (bal hb _) _) _) _) _)⟩
  · skip
    have hx' : okSb x = false := by simpa using hx
    have hv : ltV x p g = 0 := by unfold ltV; rw [hx', Bool.false_and]; exact if_neg (by decide)
    have hc : ltC x p g = 1 := by unfold ltC; rw [hx', Bool.false_and]; exact if_neg (by decide)
    rw [hv, hc]
    clear hv hc
    have HX := Lib.hid (fun W (hq : SbO W w.heap.size 0 x) => by have h := l12One_any w.heap.size 0 x W hq hs; rw [hx'] at h; exact h)
    have hp := SbO.new w x 34
    have ⟨p0, p1, p2, p3, p4⟩ := hp
    have hb : Below w.heap.size w (w.alloc (.cells #[.string x.id, .int .i64 x.nd, .int .i64 x.tr, .int .i64 x.su, .int .i64 x.re] 34)) := bal (Below.refl _ _) _
    go_enter Try.func27, Try.ntmps27
    go_wp2_with (first | (go_at_call 48; refine (l02Degrees_any _ _).mono ?_; rintro e w' ⟨rfl, rfl⟩) | (go_at_call 49; refine (l02Watts_any _ _).mono ?_; rintro e w' ⟨rfl, rfl⟩) | (go_at_call 47; refine (HX.out _ hp).mono ?_; rintro e w' ⟨rfl, hd'⟩; have hb' := Drawn.below hd'; first | (have hb := bnext hb hb'; have hp := SbO.next hp hb'; have ⟨p0, p1, p2, p3, p4⟩ := hp) | (have hb := bnext (bal hb _) hb'; have hp := SbO.next (SbO.alloc hp _) hb'; have ⟨p0, p1, p2, p3, p4⟩ := hp) | (have hb := bnext (bal (bal hb _) _) hb'; have hp := SbO.next (SbO.alloc (SbO.alloc hp _) _) hb'; have ⟨p0, p1, p2, p3, p4⟩ := hp) | (have hb := bnext (bal (bal (bal hb _) _) _) hb'; have hp := SbO.next (SbO.alloc (SbO.alloc (SbO.alloc hp _) _) _) hb'; have ⟨p0, p1, p2, p3, p4⟩ := hp)))
    go_ret2
    first | exact ⟨rfl, hb⟩ | exact ⟨rfl, (bal hb _)⟩ | exact ⟨rfl, (bal (bal hb _) _)⟩ | exact ⟨rfl, (bal (bal (bal hb _) _) _)⟩ | exact ⟨rfl, (bal (bal (bal (bal hb _) _) _) _)⟩ | exact ⟨rfl, (bal (bal (bal (bal (bal hb _) _) _) _) _)⟩

end Go.Proofs.Ytdaedgdglammhab
