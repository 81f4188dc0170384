/-
  The return and the power of an exchanger of the model, whole.
-/
import Derived.Test.YtdaedgdglammhabEx6
namespace Go.Proofs.Ytdaedgdglammhab
open Go.ChangeShapes Go.WideShapes Go.ChangeAt Go.RowKit Go.Shelf

set_option linter.unusedVariables false
set_option linter.unusedSimpArgs false
set_option maxRecDepth 100000
theorem past_meet {h hi m y : Int} {G C : Int → Int} (hg : ∀ a c, a ≤ c → G c ≤ G a) (hc : ∀ a c, a ≤ c → C a ≤ C c) (I : h ≤ hi → G h ≤ C h) (m0 : h ≤ m) (my : m ≤ y) (y1 : y ≤ hi) : atI G C y ≤ atI G C m := by
  refine topI_mono (Int.le_refl _) ?_
  have := hg m y my
  have := hg h m m0
  have := hc h m m0
  have := I (by omega)
  have := lowI_l (G y) (C y)
  have : lowI (G m) (C m) = G m := by unfold lowI; split <;> omega
  omega
theorem last_up {m f u K : Int} {H : Int → Int} {p : Int} (J : H f = K ∧ ∀ y, u ≤ y → y ≤ p → H y < K) (h1 : H m ≤ K) (k : K ≤ H m) : H m = K ∧ ∀ y, u ≤ y → y ≤ p → H y < K := ⟨by omega, J.2⟩
theorem last_dn {m f u K : Int} {H : Int → Int} {p : Int} (J : H f = K ∧ ∀ y, u ≤ y → y ≤ p → H y < K) (ad : ∀ y, m ≤ y → y ≤ p → H y ≤ H m) (k : ¬ K ≤ H m) : H f = K ∧ ∀ y, m ≤ y → y ≤ p → H y < K :=
  ⟨J.1, fun y y0 y1 => by have := ad y y0 y1; omega⟩

set_option maxHeartbeats 4000000 in
theorem l12Back_any (b o : Nat) (x : Sb) (p q : Int) (w : World) (hx : SbO w b o x) (h : exB x p) (q0 : 0 ≤ q) (q1 : q ≤ 100000) (hle : x.re ≤ p) :
    Calls Try.prog 57 #[.pointer (some ⟨b, o, none⟩), .int .i64 p, .int .i64 q] w fun e w' => e = .returned (.tuple #[.int .i64 (backI x.tr x.su x.re p q), .int .i64 (powI x.tr x.su x.re p q)]) ∧ Below w.heap.size w w' := by
  have hx9 := h
  unfold exB at hx9
  have HBe := Lib.hid (pow_best x.tr x.su x.re p q hx9.1.1 q0 hle)
  have HL := Lib.hid (back_last x.tr x.su x.re p q hx9.1.1 q0 hle)
  have HMg := Lib.hid (fun a c (k : a ≤ c) => giv_anti p q a c q0 k)
  have HMc := Lib.hid (fun a c (k : a ≤ c) => car_mono x.tr x.su x.re p p a c hx9.1.1 (Int.le_refl _) k)
  have hGv : ∀ (W : World) (c : Int), Below w.heap.size w W → 0 ≤ c → c ≤ 18000 → Calls Try.prog 84 #[.pointer (some ⟨b, o, none⟩), .int .i64 p, .int .i64 q, .int .i64 c] W fun e w' => e = .returned (.int .i64 (atI (givI p q) (carI x.tr x.su x.re p) c)) ∧ Below W.heap.size W w' :=
    fun W c hW c0 c1 => l12Given_any b o x p q c W (hx.next hW) h q0 q1 c0 c1
  have HGv := Lib.hid hGv
  have hPw : ∀ (W : World) (c : Int), 0 ≤ c → c ≤ 18000 → Calls Try.prog 83 #[.int .i64 q, .int .i64 p, .int .i64 c] W fun e w' => e = .returned (.int .i64 (givI p q c)) ∧ W = w' := fun W c c0 c1 => l02Power_any q p c W (by omega) (by omega) (by omega) (by omega)
  have HPw := Lib.hid hPw
  have hMn : ∀ (W : World) (c : Int), Below w.heap.size w W → 0 ≤ c → c ≤ 18000 → Calls Try.prog 61 #[.pointer (some ⟨b, o, none⟩), .int .i64 p, .int .i64 c] W fun e w' => e = .returned (.int .i64 (meanI x.su x.re p c)) ∧ Drawn W w' :=
    fun W c hW c0 c1 => l12Mean_any b o x p c W (hx.next hW) h c0 c1
  have HMn := Lib.hid hMn
  have hDv : ∀ (W : World) (c : Int), 0 ≤ c → c ≤ 18000 → Calls Try.prog 68 #[.int .i64 (IntKind.i64.wrap (x.tr * meanI x.su x.re p c)), .int .i64 100] W fun e w' => e = .returned (.int .i64 (carI x.tr x.su x.re p c)) ∧ W = w' := fun W c c0 c1 => by
    have hm := mean_bd x.su x.re p c (by omega) (by omega)
    have hn := carnum_bd x.tr _ hx9.1.1 hx9.1.2 hm.1 hm.2
    rw [IntWalk.i64_in _ (by omega)]
    exact l01Div_any _ _ _ (by omega) (by omega) (by omega) (by omega) (by omega)
  have HDv := Lib.hid hDv
  have hDw : ∀ (W : World) (c : Int), 0 ≤ c → c ≤ 18000 → Calls Try.prog 68 #[.int .i64 (x.tr * meanI x.su x.re p c), .int .i64 100] W fun e w' => e = .returned (.int .i64 (carI x.tr x.su x.re p c)) ∧ W = w' := fun W c c0 c1 => by
    have hm := mean_bd x.su x.re p c (by omega) (by omega)
    have hn := carnum_bd x.tr _ hx9.1.1 hx9.1.2 hm.1 hm.2
    exact l01Div_any _ _ _ (by omega) (by omega) (by omega) (by omega) (by omega)
  have HDw := Lib.hid hDw
  clear hGv hPw hMn hDv hDw
  generalize backI x.tr x.su x.re p q = R at *
  generalize powI x.tr x.su x.re p q = K at *
  generalize givI p q = G at *
  generalize carI x.tr x.su x.re p = C at *
  have hb : Below w.heap.size w w := Below.refl _ _
  have hx0 := hx
  have ⟨p0, p1, p2, p3, p4⟩ := hx
  go_enter Try.func57, Try.ntmps57
  go_wp2_with fail
  go_loopw [8, 9] (fun va vb wr => ∃ l h : Int, va = .int .i64 l ∧ vb = .int .i64 h ∧ x.re ≤ l ∧ l < h ∧ h ≤ p + 1 ∧ Below w.heap.size w wr ∧ Hid ((l = x.re ∨ C l ≤ G l) ∧ (h ≤ p → G h ≤ C h))) (fun va vb _ => (intOf vb - intOf va).toNat)
  case atStart => exact ⟨_, _, rfl, rfl, by omega, by omega, by omega, by assumption, Lib.hid ⟨.inl rfl, fun hh => by omega⟩⟩
  case round =>
    obtain ⟨l, h1, rfl, rfl, l0, l1, l2, hb, I⟩ := hrel
    have hx := hx0.next hb
    have ⟨p0, p1, p2, p3, p4⟩ := hx
    by_cases hlt : 1 < h1 - l
    · have hm0 : l < (l + h1) / 2 := by omega
      have hm1 : (l + h1) / 2 < h1 := by omega
      have hs0 : 0 ≤ l + h1 := by omega
      have HP := Lib.hid (fun W => HPw.out W ((l + h1) / 2) (by omega) (by omega))
      have HM := Lib.hid (fun W hW => HMn.out W ((l + h1) / 2) hW (by omega) (by omega))
      have HD := Lib.hid (fun W => HDv.out W ((l + h1) / 2) (by omega) (by omega))
      have HE := Lib.hid (fun W => HDw.out W ((l + h1) / 2) (by omega) (by omega))
      generalize meanI x.su x.re p ((l + h1) / 2) = mv at HM HD HE
      by_cases hk : C ((l + h1) / 2) ≤ G ((l + h1) / 2)
      · have hk' : decide (C ((l + h1) / 2) ≤ G ((l + h1) / 2)) = true := decide_eq_true hk
        have IN := Lib.hid (meet_up (m := (l + h1) / 2) I.out hk)
        clear hk
        generalize G ((l + h1) / 2) = gv at HP hk'
        generalize C ((l + h1) / 2) = cv at HD HE hk'
        go_wp2_with fail
        go_quiet (first | (go_at_call 83; exact quiet_same (HP.out _)) | (go_at_call 61; exact quiet_drawn (HM.out _ (below_drewN hb _))) | (go_at_call 68; with_reducible exact quiet_same (HD.out _)) | (go_at_call 68; with_reducible exact quiet_same (HE.out _)))
        go_wp2
        go_roundw
        case rel => exact ⟨(l + h1) / 2, h1, rfl, rfl, by omega, hm1, l2, below_drewN hb _, IN⟩
        case measure => simp [intOf]; omega
      · have hk' : decide (C ((l + h1) / 2) ≤ G ((l + h1) / 2)) = false := decide_eq_false hk
        have IN := Lib.hid (meet_dn (m := (l + h1) / 2) I.out hk)
        clear hk
        generalize G ((l + h1) / 2) = gv at HP hk'
        generalize C ((l + h1) / 2) = cv at HD HE hk'
        go_wp2_with fail
        go_quiet (first | (go_at_call 83; exact quiet_same (HP.out _)) | (go_at_call 61; exact quiet_drawn (HM.out _ (below_drewN hb _))) | (go_at_call 68; with_reducible exact quiet_same (HD.out _)) | (go_at_call 68; with_reducible exact quiet_same (HE.out _)))
        go_wp2
        go_roundw
        case rel => exact ⟨l, (l + h1) / 2, rfl, rfl, l0, hm0, by omega, below_drewN hb _, IN⟩
        case measure => simp [intOf]; omega
    · have he : h1 = l + 1 := by omega
      have hBq := HBe.out.eq (best_pair (fun a c _ k _ => HMg.out a c k) (fun a c _ k _ => HMc.out a c k) l0 (by omega) he I.out.1 I.out.2)
      have BM := Lib.hid (fun y y0 y1 => HBe.out.2 y y0 y1)
      have AD := Lib.hid (fun m y (m0 : h1 ≤ m) (my : m ≤ y) (y1 : y ≤ p) => past_meet (h := h1) (hi := p) (fun a c k => HMg.out a c k) (fun a c k => HMc.out a c k) I.out.2 m0 my y1)
      have HGl := Lib.hid (fun (W : World) (hW : Below w.heap.size w W) => HGv.out W l hW (by omega) (by omega))
      have HGh := Lib.hid (fun (hh : h1 ≤ p) (W : World) (hW : Below w.heap.size w W) => HGv.out W h1 hW (by omega) (by omega))
      have HEq := Lib.hid he
      clear HMg HMc HPw HMn HDv HDw HBe I he
      generalize hH : atI G C = H at *
      clear hH
      by_cases hh : h1 ≤ p
      · have hh' : decide (h1 ≤ p) = true := decide_eq_true hh
        rw [if_pos hh, topI_max] at hBq
        have hMx : max (H l) (H h1) = K := hBq.symm
        have HGr := Lib.hid (fun (W : World) hW => HGh.out hh W hW)
        clear HGh hBq
        by_cases e1 : H l = K
        · by_cases e2 : H h1 = K
          · skip
            have HS : Hid (H h1 = K ∧ ∀ y, p + 1 ≤ y → y ≤ p → H y < K) := Lib.hid ⟨e2, fun y y0 y1 => by omega⟩
            have f1 : (H l == K) = true := by simpa using e1
            have f2 : (H h1 == K) = true := by simpa using e2
            have E1 := Lib.hid e1
            clear e1
            have E2 := Lib.hid e2
            clear e2
            generalize hL : H l = a at HGl f1 hMx
            clear hL
            generalize hR : H h1 = c at HGr f2 hMx
            clear hR
            have HMx := Lib.hid (fun W => by have h := l00Max_any a c W; rw [hMx] at h; exact h)
            clear hMx
            go_wp2_with (first | (go_at_call 84; (with_reducible refine (HGl.out _ hb).mono ?_); rintro e wk ⟨rfl, hb'⟩; have hb := bnext hb hb'; have hx := hx.next hb'; have ⟨p0, p1, p2, p3, p4⟩ := hx; clear hb') | (go_at_call 84; (with_reducible refine (HGr.out _ hb).mono ?_); rintro e wk ⟨rfl, hb'⟩; have hb := bnext hb hb'; have hx := hx.next hb'; have ⟨p0, p1, p2, p3, p4⟩ := hx; clear hb') | (go_at_call 85; refine (HMx.out _).mono ?_; rintro e wk ⟨rfl, rfl⟩))
            go_loopw [12, 13] (fun va vb wr => ∃ f u : Int, va = .int .i64 f ∧ vb = .int .i64 u ∧ x.re ≤ f ∧ l ≤ f ∧ f < u ∧ u ≤ p + 1 ∧ Below w.heap.size w wr ∧ Hid (H f = K ∧ ∀ y, u ≤ y → y ≤ p → H y < K)) (fun va vb _ => (intOf vb - intOf va).toNat)
            case atStart => exact ⟨_, _, rfl, rfl, by omega, by omega, by omega, by omega, by assumption, HS⟩
            case round =>
              obtain ⟨f, u, rfl, rfl, g0, g1, g2, g3, hb, J⟩ := hrel
              by_cases hlt : 1 < u - f
              · have hm0 : f < (f + u) / 2 := by omega
                have hm1 : (f + u) / 2 < u := by omega
                have hs0 : 0 ≤ f + u := by omega
                have HV := Lib.hid (HGv.out _ ((f + u) / 2) hb (by omega) (by omega))
                by_cases hk : K ≤ H ((f + u) / 2)
                · have hk' : decide (K ≤ H ((f + u) / 2)) = true := decide_eq_true hk
                  have JN := Lib.hid (last_up (m := (f + u) / 2) J.out (BM.out _ (by omega) (by omega)) hk)
                  clear hk
                  generalize H ((f + u) / 2) = v at HV hk'
                  go_wp2_with fail
                  refine HV.out.mono ?_
                  rintro e w9 ⟨rfl, hb'⟩
                  have hb := bnext hb hb'
                  clear hb'
                  go_wp2
                  go_roundw
                  case rel => exact ⟨(f + u) / 2, u, rfl, rfl, by omega, by omega, hm1, g3, hb, JN⟩
                  case measure => simp [intOf]; omega
                · have hk' : decide (K ≤ H ((f + u) / 2)) = false := decide_eq_false hk
                  have JN := Lib.hid (last_dn (m := (f + u) / 2) J.out (fun y y0 y1 => AD.out _ y (by have := HEq.out; omega) y0 y1) hk)
                  clear hk
                  generalize H ((f + u) / 2) = v at HV hk'
                  go_wp2_with fail
                  refine HV.out.mono ?_
                  rintro e w9 ⟨rfl, hb'⟩
                  have hb := bnext hb hb'
                  clear hb'
                  go_wp2
                  go_roundw
                  case rel => exact ⟨f, (f + u) / 2, rfl, rfl, by omega, by omega, hm0, by omega, hb, JN⟩
                  case measure => simp [intOf]; omega
              · have hu : u = f + 1 := by omega
                have hR : f = R := LastAt.eq ⟨g0, by omega, J.out.1, fun y y0 y1 => J.out.2 y (by omega) y1⟩ HL.out
                subst hR
                go_wp2
                go_ret2
                exact ⟨rfl, hb⟩
          · skip
            have HS : Hid (H l = K ∧ ∀ y, p + 1 ≤ y → y ≤ p → H y < K) := Lib.hid ⟨e1, fun y y0 y1 => by omega⟩
            have f1 : (H l == K) = true := by simpa using e1
            have f2 : (H h1 == K) = false := by simpa using e2
            have E1 := Lib.hid e1
            clear e1
            have E2 := Lib.hid e2
            clear e2
            generalize hL : H l = a at HGl f1 hMx
            clear hL
            generalize hR : H h1 = c at HGr f2 hMx
            clear hR
            have HMx := Lib.hid (fun W => by have h := l00Max_any a c W; rw [hMx] at h; exact h)
            clear hMx
            go_wp2_with (first | (go_at_call 84; (with_reducible refine (HGl.out _ hb).mono ?_); rintro e wk ⟨rfl, hb'⟩; have hb := bnext hb hb'; have hx := hx.next hb'; have ⟨p0, p1, p2, p3, p4⟩ := hx; clear hb') | (go_at_call 84; (with_reducible refine (HGr.out _ hb).mono ?_); rintro e wk ⟨rfl, hb'⟩; have hb := bnext hb hb'; have hx := hx.next hb'; have ⟨p0, p1, p2, p3, p4⟩ := hx; clear hb') | (go_at_call 85; refine (HMx.out _).mono ?_; rintro e wk ⟨rfl, rfl⟩))
            go_loopw [12, 13] (fun va vb wr => ∃ f u : Int, va = .int .i64 f ∧ vb = .int .i64 u ∧ x.re ≤ f ∧ l ≤ f ∧ f < u ∧ u ≤ p + 1 ∧ Below w.heap.size w wr ∧ Hid (H f = K ∧ ∀ y, u ≤ y → y ≤ p → H y < K)) (fun va vb _ => (intOf vb - intOf va).toNat)
            case atStart => exact ⟨_, _, rfl, rfl, by omega, by omega, by omega, by omega, by assumption, HS⟩
            case round =>
              obtain ⟨f, u, rfl, rfl, g0, g1, g2, g3, hb, J⟩ := hrel
              by_cases hlt : 1 < u - f
              · have hm0 : f < (f + u) / 2 := by omega
                have hm1 : (f + u) / 2 < u := by omega
                have hs0 : 0 ≤ f + u := by omega
                have HV := Lib.hid (HGv.out _ ((f + u) / 2) hb (by omega) (by omega))
                by_cases hk : K ≤ H ((f + u) / 2)
                · have hk' : decide (K ≤ H ((f + u) / 2)) = true := decide_eq_true hk
                  have JN := Lib.hid (last_up (m := (f + u) / 2) J.out (BM.out _ (by omega) (by omega)) hk)
                  clear hk
                  generalize H ((f + u) / 2) = v at HV hk'
                  go_wp2_with fail
                  refine HV.out.mono ?_
                  rintro e w9 ⟨rfl, hb'⟩
                  have hb := bnext hb hb'
                  clear hb'
                  go_wp2
                  go_roundw
                  case rel => exact ⟨(f + u) / 2, u, rfl, rfl, by omega, by omega, hm1, g3, hb, JN⟩
                  case measure => simp [intOf]; omega
                · have hk' : decide (K ≤ H ((f + u) / 2)) = false := decide_eq_false hk
                  have JN := Lib.hid (last_dn (m := (f + u) / 2) J.out (fun y y0 y1 => AD.out _ y (by have := HEq.out; omega) y0 y1) hk)
                  clear hk
                  generalize H ((f + u) / 2) = v at HV hk'
                  go_wp2_with fail
                  refine HV.out.mono ?_
                  rintro e w9 ⟨rfl, hb'⟩
                  have hb := bnext hb hb'
                  clear hb'
                  go_wp2
                  go_roundw
                  case rel => exact ⟨f, (f + u) / 2, rfl, rfl, by omega, by omega, hm0, by omega, hb, JN⟩
                  case measure => simp [intOf]; omega
              · have hu : u = f + 1 := by omega
                have hR : f = R := LastAt.eq ⟨g0, by omega, J.out.1, fun y y0 y1 => J.out.2 y (by omega) y1⟩ HL.out
                subst hR
                go_wp2
                go_ret2
                exact ⟨rfl, hb⟩
        · have e2 : H h1 = K := by omega
          have HS : Hid (H h1 = K ∧ ∀ y, p + 1 ≤ y → y ≤ p → H y < K) := Lib.hid ⟨e2, fun y y0 y1 => by omega⟩
          have f1 : (H l == K) = false := by simpa using e1
          have f2 : (H h1 == K) = true := by simpa using e2
          have E1 := Lib.hid e1
          clear e1
          have E2 := Lib.hid e2
          clear e2
          generalize hL : H l = a at HGl f1 hMx
          clear hL
          generalize hR : H h1 = c at HGr f2 hMx
          clear hR
          have HMx := Lib.hid (fun W => by have h := l00Max_any a c W; rw [hMx] at h; exact h)
          clear hMx
          go_wp2_with (first | (go_at_call 84; (with_reducible refine (HGl.out _ hb).mono ?_); rintro e wk ⟨rfl, hb'⟩; have hb := bnext hb hb'; have hx := hx.next hb'; have ⟨p0, p1, p2, p3, p4⟩ := hx; clear hb') | (go_at_call 84; (with_reducible refine (HGr.out _ hb).mono ?_); rintro e wk ⟨rfl, hb'⟩; have hb := bnext hb hb'; have hx := hx.next hb'; have ⟨p0, p1, p2, p3, p4⟩ := hx; clear hb') | (go_at_call 85; refine (HMx.out _).mono ?_; rintro e wk ⟨rfl, rfl⟩))
          go_loopw [12, 13] (fun va vb wr => ∃ f u : Int, va = .int .i64 f ∧ vb = .int .i64 u ∧ x.re ≤ f ∧ l ≤ f ∧ f < u ∧ u ≤ p + 1 ∧ Below w.heap.size w wr ∧ Hid (H f = K ∧ ∀ y, u ≤ y → y ≤ p → H y < K)) (fun va vb _ => (intOf vb - intOf va).toNat)
          case atStart => exact ⟨_, _, rfl, rfl, by omega, by omega, by omega, by omega, by assumption, HS⟩
          case round =>
            obtain ⟨f, u, rfl, rfl, g0, g1, g2, g3, hb, J⟩ := hrel
            by_cases hlt : 1 < u - f
            · have hm0 : f < (f + u) / 2 := by omega
              have hm1 : (f + u) / 2 < u := by omega
              have hs0 : 0 ≤ f + u := by omega
              have HV := Lib.hid (HGv.out _ ((f + u) / 2) hb (by omega) (by omega))
              by_cases hk : K ≤ H ((f + u) / 2)
              · have hk' : decide (K ≤ H ((f + u) / 2)) = true := decide_eq_true hk
                have JN := Lib.hid (last_up (m := (f + u) / 2) J.out (BM.out _ (by omega) (by omega)) hk)
                clear hk
                generalize H ((f + u) / 2) = v at HV hk'
                go_wp2_with fail
                refine HV.out.mono ?_
                rintro e w9 ⟨rfl, hb'⟩
                have hb := bnext hb hb'
                clear hb'
                go_wp2
                go_roundw
                case rel => exact ⟨(f + u) / 2, u, rfl, rfl, by omega, by omega, hm1, g3, hb, JN⟩
                case measure => simp [intOf]; omega
              · have hk' : decide (K ≤ H ((f + u) / 2)) = false := decide_eq_false hk
                have JN := Lib.hid (last_dn (m := (f + u) / 2) J.out (fun y y0 y1 => AD.out _ y (by have := HEq.out; omega) y0 y1) hk)
                clear hk
                generalize H ((f + u) / 2) = v at HV hk'
                go_wp2_with fail
                refine HV.out.mono ?_
                rintro e w9 ⟨rfl, hb'⟩
                have hb := bnext hb hb'
                clear hb'
                go_wp2
                go_roundw
                case rel => exact ⟨f, (f + u) / 2, rfl, rfl, by omega, by omega, hm0, by omega, hb, JN⟩
                case measure => simp [intOf]; omega
            · have hu : u = f + 1 := by omega
              have hR : f = R := LastAt.eq ⟨g0, by omega, J.out.1, fun y y0 y1 => J.out.2 y (by omega) y1⟩ HL.out
              subst hR
              go_wp2
              go_ret2
              exact ⟨rfl, hb⟩
      · have hh' : decide (h1 ≤ p) = false := decide_eq_false hh
        rw [if_neg hh] at hBq
        have e1 : H l = K := hBq.symm
        clear HGh hBq
        have HS : Hid (H l = K ∧ ∀ y, p + 1 ≤ y → y ≤ p → H y < K) := Lib.hid ⟨e1, fun y y0 y1 => by omega⟩
        have HGl := Lib.hid (fun (W : World) (hW : Below w.heap.size w W) => by have h := HGl.out W hW; rw [e1] at h; exact h)
        have f1 : (K == K) = true := by simp
        clear e1
        go_wp2_with ((go_at_call 84; (with_reducible refine (HGl.out _ hb).mono ?_); rintro e wk ⟨rfl, hb'⟩; have hb := bnext hb hb'; have hx := hx.next hb'; have ⟨p0, p1, p2, p3, p4⟩ := hx; clear hb'))
        go_loopw [12, 13] (fun va vb wr => ∃ f u : Int, va = .int .i64 f ∧ vb = .int .i64 u ∧ x.re ≤ f ∧ l ≤ f ∧ f < u ∧ u ≤ p + 1 ∧ Below w.heap.size w wr ∧ Hid (H f = K ∧ ∀ y, u ≤ y → y ≤ p → H y < K)) (fun va vb _ => (intOf vb - intOf va).toNat)
        case atStart => exact ⟨_, _, rfl, rfl, by omega, by omega, by omega, by omega, by assumption, HS⟩
        case round =>
          obtain ⟨f, u, rfl, rfl, g0, g1, g2, g3, hb, J⟩ := hrel
          by_cases hlt : 1 < u - f
          · exfalso
            have := HEq.out
            omega
          · have hu : u = f + 1 := by omega
            have hR : f = R := LastAt.eq ⟨g0, by omega, J.out.1, fun y y0 y1 => J.out.2 y (by omega) y1⟩ HL.out
            subst hR
            go_wp2
            go_ret2
            exact ⟨rfl, hb⟩

end Go.Proofs.Ytdaedgdglammhab
